/- Joined texts: the reference's Valid, of a map; the law StepParts. -/
import Derived.Test.YtoilkfohhhidpaaDoorJCStepParts11
import Derived.Test.YtoilkfohhhidpaaDoorJCStepParts14
import Derived.Test.YtoilkfohhhidpaaDoorJCStepParts09
/- the reference's Valid, of a map -/
namespace Go.Proofs.YtoilkfohhhidpaaDoor
open Go.RowKit
set_option maxRecDepth 100000 in
set_option maxHeartbeats 1600000 in
theorem refvalid_any (v : Value) (m : Int) (us ad : List Int) (w : World) (hv : MapV w v m us ad) {b : Bool} (hb : Hid (mapB m us ad = b)) :
    Calls Tryd.prog 34 #[v] w (fun e w' => e = .returned (.bool b) ∧ Ext w w') := by
  obtain ⟨A, k, c, B, l, d, rfl, hk, hkc, hl, hld, ra, rb, bk, bl⟩ := hv
  have hno : ∀ (_ : ¬ mapP m us ad), Hid (b = false) := fun h => hid (by
    rw [← hb.out]
    cases hB : mapB m us ad with
    | false => rfl
    | true => exact absurd ((mapB_iff m us ad).1 hB) h)
  have hbk : k ≤ 9223372036854775807 := by omega
  have hbl : l ≤ 9223372036854775807 := by omega
  have hx : Ext w (w.alloc (.cells #[.int .i64 m, .slice A k c, .slice B l d] 50)) := (Ext.rfl' w).alloc' _
  have hk3 : ∀ w', Ext (w.alloc (.cells #[.int .i64 m, .slice A k c, .slice B l d] 50)) w' → _ := fun w' e => three_facts e rfl
  by_cases c1 : m < 2
  · have HF := hno (fun h => by have := h.1; omega)
    have HX := hid hx
    clear hno hb hk hl ra rb hx hk3
    go_enter Tryd.func34, Tryd.ntmps34
    go_wp2
    go_ret
    exact ⟨by rw [HF.out]; rfl, HX.out⟩
  · by_cases c2 : 12 < m
    · have HF := hno (fun h => by have := h.2.1; omega)
      have HX := hid hx
      clear hno hb hk hl ra rb hx hk3
      go_enter Tryd.func34, Tryd.ntmps34
      go_wp2
      go_ret
      exact ⟨by rw [HF.out]; rfl, HX.out⟩
    · by_cases c3 : (k : Int) = m
      · by_cases c4 : (l : Int) = m
        · subst c3
          obtain rfl : l = k := by omega
          have HNO := hid hno
          have HK := hid hk
          have HL := hid hl
          have HX := hid hx
          have HK3 := hid hk3
          have HRA := hid ra
          have HRB := hid rb
          have k12 : l ≤ 12 := by omega
          have k2 : 2 ≤ l := by omega
          obtain ⟨f0, f1, f2, -⟩ := hk3 _ (Ext.rfl' _)
          obtain ⟨W1, hW1⟩ : ∃ W1, w.alloc (.cells #[.int .i64 (l : Int), .slice A l c, .slice B l d] 50) = W1 := ⟨_, rfl⟩
          rw [hW1] at HX HK3 f0 f1 f2
          have HW1 := hid hW1
          clear hno hk hl hx hk3 hW1 ra rb c4 hbk hbl c1 c2
          go_enter Tryd.func34, Tryd.ntmps34
          go_upto_region 1 with fail
          rw [HW1.out]
          go_wp2_with fail
          clear f0 f1 f2
          go_loopw [3] (fun iz wr => ∃ j : Nat, j ≤ l ∧ iz = .int .i64 (j : Int) ∧ Hid (∀ r : Nat, r < j → ruleP (l : Int) r (us.getD r 0) (ad.getD r 0)) ∧ Ext W1 wr) (fun iz _ => l - (intOf iz).toNat)
          case atStart => exact ⟨0, by omega, rfl, hid (fun r h => absurd h (by omega)), Ext.rfl' _⟩
          case round =>
            obtain ⟨j, hj, rfl, HR, hex⟩ := hrel
            obtain ⟨f0, f1, f2, -⟩ := HK3.out _ hex
            by_cases hlt : j < l
            · obtain ⟨ba, oa, eA, hba, hca⟩ := ((HRA.out.ext HX.out).ext hex).atI (k := j) (by rw [HK.out]; exact hlt)
              obtain ⟨bb, ob, eB, hbb, hcb⟩ := ((HRB.out.ext HX.out).ext hex).atI (k := j) (by rw [HL.out]; exact hlt)
              subst eA eB
              obtain ⟨u, hu⟩ : ∃ u, us.getD j 0 = u := ⟨_, rfl⟩
              obtain ⟨a, ha⟩ : ∃ a, ad.getD j 0 = a := ⟨_, rfl⟩
              rw [hu] at hca
              rw [ha] at hcb
              have HU := hid hu
              have HA := hid ha
              have hnb : ¬ ruleP (l : Int) j u a → Hid (b = false) := fun hr => HNO.out (fun h => hr (by have := h.2.2.2.2 j (by rw [HK.out]; exact hlt); rwa [HU.out, HA.out] at this))
              have HNB := hid hnb
              have HXE := hid (HX.out.step hex)
              have hj0 : (0 : Int) ≤ (j : Int) := by omega
              have hjl : (j : Int) < (l : Int) := by omega
              clear hu ha hba hbb hnb
              by_cases d1 : u < 1
              · have HF := HNB.out (fun h => by unfold ruleP at h; omega)
                have ed1 : decide (u < 1) = true := decide_eq_true d1
                go_wp2_with fail
                go_quiet (fail)
                have HY := hid (HXE.out.drewN nq)
                go_wp2
                go_ret
                exact ⟨by rw [HF.out]; rfl, HY.out⟩
              · have ed1 : decide (u < 1) = false := decide_eq_false d1
                by_cases d2 : 999 < u
                · have HF := HNB.out (fun h => by unfold ruleP at h; omega)
                  have ed2 : decide (999 < u) = true := decide_eq_true d2
                  go_wp2_with fail
                  go_quiet (fail)
                  have HY := hid (HXE.out.drewN nq)
                  go_wp2
                  go_ret
                  exact ⟨by rw [HF.out]; rfl, HY.out⟩
                · have ed2 : decide (999 < u) = false := decide_eq_false d2
                  by_cases d3 : a < -999999
                  · have HF := HNB.out (fun h => by unfold ruleP at h; omega)
                    have ed3 : decide (a < -999999) = true := decide_eq_true d3
                    go_wp2_with fail
                    go_quiet (fail)
                    have HY := hid (HXE.out.drewN nq)
                    go_wp2
                    go_ret
                    exact ⟨by rw [HF.out]; rfl, HY.out⟩
                  · have ed3 : decide (a < -999999) = false := decide_eq_false d3
                    by_cases d4 : 999999 < a
                    · have HF := HNB.out (fun h => by unfold ruleP at h; omega)
                      have ed4 : decide (999999 < a) = true := decide_eq_true d4
                      go_wp2_with fail
                      go_quiet (fail)
                      have HY := hid (HXE.out.drewN nq)
                      go_wp2
                      go_ret
                      exact ⟨by rw [HF.out]; rfl, HY.out⟩
                    · have ed4 : decide (999999 < a) = false := decide_eq_false d4
                      have hp : 0 ≤ u * (j : Int) ∧ u * (j : Int) ≤ 10989 := by
                        refine ⟨Int.mul_nonneg (by omega) hj0, ?_⟩
                        have := Int.mul_le_mul (show u ≤ 999 by omega) (show (j : Int) ≤ 11 by omega) hj0 (by omega)
                        omega
                      obtain ⟨q, hq⟩ : ∃ q, u * (j : Int) = q := ⟨_, rfl⟩
                      rw [hq] at hp
                      have hp1 := hp.1
                      have hp2 := hp.2
                      have w1 : IntKind.i64.wrap (u * (j : Int)) = q := by rw [hq]; exact IntWalk.i64_in _ (by omega)
                      have w2 : IntKind.i64.wrap (q + a) = q + a := IntWalk.i64_in _ (by omega)
                      have HQ := hid hq
                      clear hq hp
                      by_cases d5 : (q + a).tmod (l : Int) = 0
                      · have HNEXT : Hid (∀ r : Nat, r < j + 1 → ruleP (l : Int) r (us.getD r 0) (ad.getD r 0)) := hid (by
                          intro r h
                          rcases Nat.lt_or_ge r j with h1 | h1
                          · exact HR.out r h1
                          · obtain rfl : r = j := by omega
                            rw [HU.out, HA.out]
                            exact ⟨by omega, by omega, by omega, by omega, by rw [HQ.out]; exact tmod_zero.1 d5⟩)
                        have e5 : ((q + a).tmod (l : Int) == 0) = true := by rw [beq_iff_eq]; exact d5
                        have e6 : ((q + a).tmod (l : Int) != 0) = false := by rw [bne_eq_false_iff_eq]; exact d5
                        go_wp2_with fail
                        go_quiet (fail)
                        have hex2 := hex.drewN nq
                        clear w1 w2 e5 e6 d5
                        go_wp2
                        go_roundw
                        case rel => exact ⟨j + 1, by omega, by simp, HNEXT, hex2⟩
                        case measure => simp [intOf]; omega
                      · have HF := HNB.out (fun h => d5 (tmod_zero.2 (by rw [← HQ.out]; exact h.2.2.2.2)))
                        have e5 : ((q + a).tmod (l : Int) == 0) = false := by rw [beq_eq_false_iff_ne]; exact d5
                        have e6 : ((q + a).tmod (l : Int) != 0) = true := by rw [bne_iff_ne]; exact d5
                        go_wp2_with fail
                        go_quiet (fail)
                        have HY := hid (HXE.out.drewN nq)
                        go_wp2
                        go_ret
                        exact ⟨by rw [HF.out]; rfl, HY.out⟩
            · have HF : Hid (b = true) := hid (by
                rw [← hb.out]
                exact (mapB_iff _ _ _).2 ⟨by omega, by omega, by rw [HK.out], by rw [HL.out], fun r h => HR.out r (by rw [HK.out] at h; omega)⟩)
              have HY := hid (HX.out.step hex)
              go_wp2
              go_ret
              exact ⟨by rw [HF.out]; rfl, HY.out⟩
        · have HF := hno (fun h => c4 (by have := h.2.2.2.1; omega))
          have HX := hid hx
          subst c3
          have e4 : ((l : Int) == (k : Int)) = false := by rw [beq_eq_false_iff_ne]; exact c4
          have e5 : (l == k) = false := by rw [beq_eq_false_iff_ne]; omega
          clear hno hb hk hl ra rb hx hk3 c4
          go_enter Tryd.func34, Tryd.ntmps34
          go_wp2
          go_ret
          exact ⟨by rw [HF.out]; rfl, HX.out⟩
      · have HF := hno (fun h => c3 (by have := h.2.2.1; omega))
        have HX := hid hx
        have e3 : ((k : Int) == m) = false := by rw [beq_eq_false_iff_ne]; exact c3
        clear hno hb hk hl ra rb hx hk3 c3
        go_enter Tryd.func34, Tryd.ntmps34
        go_wp2
        go_ret
        exact ⟨by rw [HF.out]; rfl, HX.out⟩
end Go.Proofs.YtoilkfohhhidpaaDoor
/- the law StepParts -/
namespace Go.Proofs.YtoilkfohhhidpaaDoor
open Go.RowKit
set_option maxRecDepth 100000 in
set_option maxHeartbeats 800000 in
theorem formed_any (v : Value) (m : Int) (us ad : List Int) (l : List UInt8) (w : World) (hv : MapV w v m us ad) (hlen : l.length ≤ 140737488351232) {b1 b2 b : Bool} (h1 : Hid (mapB m us ad = b1)) (h2 : Hid (K.validL l = b2)) (hb : Hid (b = (b1 && b2))) :
    Calls Tryd.prog 41 #[v, .string (Str l)] w (fun e w' => e = .returned (.bool b) ∧ Ext w w') := by
  have HV := hid hv
  obtain ⟨A, n, cc, B, n2, d, rfl, -⟩ := hv
  have hx : Ext w (w.alloc (.cells #[.int .i64 m, .slice A n cc, .slice B n2 d] 50)) := (Ext.rfl' w).alloc' _
  obtain ⟨f0, f1, f2, -⟩ := three_facts (Ext.rfl' (w.alloc (.cells #[.int .i64 m, .slice A n cc, .slice B n2 d] 50))) rfl
  obtain ⟨W1, hW1⟩ : ∃ W1, w.alloc (.cells #[.int .i64 m, .slice A n cc, .slice B n2 d] 50) = W1 := ⟨_, rfl⟩
  rw [hW1] at hx f0 f1 f2
  have HX := hid hx
  have HW1 := hid hW1
  clear hW1 hx
  cases b1 with
  | false =>
    have HB : Hid (b = false) := hid (by rw [hb.out]; rfl)
    clear hb
    go_enter Tryd.func41, Tryd.ntmps41
    go_upto_region 1 with fail
    rw [HW1.out]
    go_wp2_with fail
    refine (refvalid_any _ m us ad W1 (HV.out.ext HX.out) h1).mono ?_
    rintro e w2 ⟨rfl, hx2⟩
    have HY := hid (HX.out.step hx2)
    go_wp2
    go_ret
    exact ⟨by rw [HB.out]; rfl, HY.out⟩
  | true =>
    have HB : Hid (b = b2) := hid (by rw [hb.out]; rfl)
    clear hb
    go_enter Tryd.func41, Tryd.ntmps41
    go_upto_region 1 with fail
    rw [HW1.out]
    go_wp2_with fail
    refine (refvalid_any _ m us ad W1 (HV.out.ext HX.out) h1).mono ?_
    rintro e w2 ⟨rfl, hx2⟩
    have HY := hid (HX.out.step hx2)
    clear f0 f1 f2 hx2
    go_wp2_with fail
    refine (rvalid_at l w2 h2 hlen).mono ?_
    rintro e wz ⟨rfl, rfl⟩
    go_wp2
    go_ret
    exact ⟨by rw [HB.out]; rfl, HY.out⟩
set_option maxRecDepth 100000 in
set_option maxHeartbeats 800000 in
theorem parts_form (v : Value) (m : Int) (us ad : List Int) (s : List UInt8) (k l : Int) (w : World) (hv : MapV w v m us ad) (hlen : s.length ≤ 140737488351232) (ht : Tab w) (hb : Hid (false = (mapB m us ad && K.validL s))) :
    Calls Tryd.prog 7 #[v, .string (Str s), .int .i64 k, .int .i64 l] w (TruePost w) := by
  have HT := hid ht
  have HV := hid hv
  obtain ⟨A, n, cc, B, n2, d, rfl, -⟩ := hv
  have hx : Ext w (w.alloc (.cells #[.int .i64 m, .slice A n cc, .slice B n2 d] 50)) := (Ext.rfl' w).alloc' _
  have hr : Row (w.alloc (.cells #[.int .i64 m, .slice A n cc, .slice B n2 d] 50)) w.heap.size 50 [.int .i64 m, .slice A n cc, .slice B n2 d] := Row.new w _ _
  obtain ⟨W1, hW1⟩ : ∃ W1, w.alloc (.cells #[.int .i64 m, .slice A n cc, .slice B n2 d] 50) = W1 := ⟨_, rfl⟩
  rw [hW1] at hx hr
  have HX := hid hx
  have HR := hid hr
  have HW1 := hid hW1
  obtain ⟨f0, f1, f2, -, -, -⟩ := row_facts3 hr
  have HTT : Hid (Tab W1) := hid (ht.ext hx)
  have HV1 := hid (HV.out.ext hx)
  clear hW1 hx hr
  go_enter Tryd.func7, Tryd.ntmps7
  go_upto_region 1 with fail
  rw [HW1.out]
  go_wp2_with fail
  refine (formed_any _ m us ad s W1 HV1.out hlen (hid rfl) (hid rfl) hb).mono ?_
  rintro e w2 ⟨rfl, hx2⟩
  have HY := hid (HX.out.step hx2)
  clear f0 f1 f2 hx2
  go_wp2_with fail
  refine (awake2_any w2 (HT.out.ext HY.out)).mono ?_
  rintro e w3 ⟨rfl, hx3⟩
  have HZ := hid (HY.out.step hx3)
  go_wp2
  go_ret
  exact ⟨rfl, HZ.out⟩
set_option maxRecDepth 100000 in
set_option maxHeartbeats 800000 in
theorem parts_klow (v : Value) (m : Int) (us ad : List Int) (s : List UInt8) (k l : Int) (w : World) (hv : MapV w v m us ad) (hlen : s.length ≤ 140737488351232) (ht : Tab w) (hb : Hid (true = (mapB m us ad && K.validL s))) (h1 : k < 0) :
    Calls Tryd.prog 7 #[v, .string (Str s), .int .i64 k, .int .i64 l] w (TruePost w) := by
  have HT := hid ht
  have HV := hid hv
  obtain ⟨A, n, cc, B, n2, d, rfl, -⟩ := hv
  have hx : Ext w (w.alloc (.cells #[.int .i64 m, .slice A n cc, .slice B n2 d] 50)) := (Ext.rfl' w).alloc' _
  have hr : Row (w.alloc (.cells #[.int .i64 m, .slice A n cc, .slice B n2 d] 50)) w.heap.size 50 [.int .i64 m, .slice A n cc, .slice B n2 d] := Row.new w _ _
  obtain ⟨W1, hW1⟩ : ∃ W1, w.alloc (.cells #[.int .i64 m, .slice A n cc, .slice B n2 d] 50) = W1 := ⟨_, rfl⟩
  rw [hW1] at hx hr
  have HX := hid hx
  have HR := hid hr
  have HW1 := hid hW1
  obtain ⟨f0, f1, f2, -, -, -⟩ := row_facts3 hr
  have HTT : Hid (Tab W1) := hid (ht.ext hx)
  have HV1 := hid (HV.out.ext hx)
  clear hW1 hx hr
  go_enter Tryd.func7, Tryd.ntmps7
  go_upto_region 1 with fail
  rw [HW1.out]
  go_wp2_with fail
  refine (formed_any _ m us ad s W1 HV1.out hlen (hid rfl) (hid rfl) hb).mono ?_
  rintro e w2 ⟨rfl, hx2⟩
  have HY := hid (HX.out.step hx2)
  clear f0 f1 f2 hx2
  go_wp2_with fail
  refine (awake2_any w2 (HT.out.ext HY.out)).mono ?_
  rintro e w3 ⟨rfl, hx3⟩
  have HZ := hid (HY.out.step hx3)
  go_wp2
  go_ret
  exact ⟨rfl, HZ.out⟩
set_option maxRecDepth 100000 in
set_option maxHeartbeats 800000 in
theorem parts_llow (v : Value) (m : Int) (us ad : List Int) (s : List UInt8) (k l : Int) (w : World) (hv : MapV w v m us ad) (hlen : s.length ≤ 140737488351232) (ht : Tab w) (hb : Hid (true = (mapB m us ad && K.validL s))) (h0 : 0 ≤ k) (h1 : l < 0) :
    Calls Tryd.prog 7 #[v, .string (Str s), .int .i64 k, .int .i64 l] w (TruePost w) := by
  have HT := hid ht
  have HV := hid hv
  obtain ⟨A, n, cc, B, n2, d, rfl, -⟩ := hv
  have hx : Ext w (w.alloc (.cells #[.int .i64 m, .slice A n cc, .slice B n2 d] 50)) := (Ext.rfl' w).alloc' _
  have hr : Row (w.alloc (.cells #[.int .i64 m, .slice A n cc, .slice B n2 d] 50)) w.heap.size 50 [.int .i64 m, .slice A n cc, .slice B n2 d] := Row.new w _ _
  obtain ⟨W1, hW1⟩ : ∃ W1, w.alloc (.cells #[.int .i64 m, .slice A n cc, .slice B n2 d] 50) = W1 := ⟨_, rfl⟩
  rw [hW1] at hx hr
  have HX := hid hx
  have HR := hid hr
  have HW1 := hid hW1
  obtain ⟨f0, f1, f2, -, -, -⟩ := row_facts3 hr
  have HTT : Hid (Tab W1) := hid (ht.ext hx)
  have HV1 := hid (HV.out.ext hx)
  clear hW1 hx hr
  go_enter Tryd.func7, Tryd.ntmps7
  go_upto_region 1 with fail
  rw [HW1.out]
  go_wp2_with fail
  refine (formed_any _ m us ad s W1 HV1.out hlen (hid rfl) (hid rfl) hb).mono ?_
  rintro e w2 ⟨rfl, hx2⟩
  have HY := hid (HX.out.step hx2)
  clear f0 f1 f2 hx2
  go_wp2_with fail
  refine (awake2_any w2 (HT.out.ext HY.out)).mono ?_
  rintro e w3 ⟨rfl, hx3⟩
  have HZ := hid (HY.out.step hx3)
  go_wp2
  go_ret
  exact ⟨rfl, HZ.out⟩
set_option maxRecDepth 100000 in
set_option maxHeartbeats 800000 in
theorem parts_khigh (v : Value) (m : Int) (us ad : List Int) (s : List UInt8) (k l : Int) (w : World) (hv : MapV w v m us ad) (hlen : s.length ≤ 140737488351232) (ht : Tab w) (hb : Hid (true = (mapB m us ad && K.validL s))) (h0 : 0 ≤ l) (h1 : 20000 < k) :
    Calls Tryd.prog 7 #[v, .string (Str s), .int .i64 k, .int .i64 l] w (TruePost w) := by
  have HT := hid ht
  have HV := hid hv
  obtain ⟨A, n, cc, B, n2, d, rfl, -⟩ := hv
  have hx : Ext w (w.alloc (.cells #[.int .i64 m, .slice A n cc, .slice B n2 d] 50)) := (Ext.rfl' w).alloc' _
  have hr : Row (w.alloc (.cells #[.int .i64 m, .slice A n cc, .slice B n2 d] 50)) w.heap.size 50 [.int .i64 m, .slice A n cc, .slice B n2 d] := Row.new w _ _
  obtain ⟨W1, hW1⟩ : ∃ W1, w.alloc (.cells #[.int .i64 m, .slice A n cc, .slice B n2 d] 50) = W1 := ⟨_, rfl⟩
  rw [hW1] at hx hr
  have HX := hid hx
  have HR := hid hr
  have HW1 := hid hW1
  obtain ⟨f0, f1, f2, -, -, -⟩ := row_facts3 hr
  have HTT : Hid (Tab W1) := hid (ht.ext hx)
  have HV1 := hid (HV.out.ext hx)
  clear hW1 hx hr
  go_enter Tryd.func7, Tryd.ntmps7
  go_upto_region 1 with fail
  rw [HW1.out]
  go_wp2_with fail
  refine (formed_any _ m us ad s W1 HV1.out hlen (hid rfl) (hid rfl) hb).mono ?_
  rintro e w2 ⟨rfl, hx2⟩
  have HY := hid (HX.out.step hx2)
  clear f0 f1 f2 hx2
  go_wp2_with fail
  refine (awake2_any w2 (HT.out.ext HY.out)).mono ?_
  rintro e w3 ⟨rfl, hx3⟩
  have HZ := hid (HY.out.step hx3)
  go_wp2
  go_ret
  exact ⟨rfl, HZ.out⟩
set_option maxRecDepth 100000 in
set_option maxHeartbeats 800000 in
theorem parts_lhigh (v : Value) (m : Int) (us ad : List Int) (s : List UInt8) (k l : Int) (w : World) (hv : MapV w v m us ad) (hlen : s.length ≤ 140737488351232) (ht : Tab w) (hb : Hid (true = (mapB m us ad && K.validL s))) (h0 : 0 ≤ l) (h2 : 0 ≤ k) (h3 : k ≤ 20000) (h1 : 20000 - k < l) :
    Calls Tryd.prog 7 #[v, .string (Str s), .int .i64 k, .int .i64 l] w (TruePost w) := by
  have HT := hid ht
  have HV := hid hv
  obtain ⟨A, n, cc, B, n2, d, rfl, -⟩ := hv
  have hx : Ext w (w.alloc (.cells #[.int .i64 m, .slice A n cc, .slice B n2 d] 50)) := (Ext.rfl' w).alloc' _
  have hr : Row (w.alloc (.cells #[.int .i64 m, .slice A n cc, .slice B n2 d] 50)) w.heap.size 50 [.int .i64 m, .slice A n cc, .slice B n2 d] := Row.new w _ _
  obtain ⟨W1, hW1⟩ : ∃ W1, w.alloc (.cells #[.int .i64 m, .slice A n cc, .slice B n2 d] 50) = W1 := ⟨_, rfl⟩
  rw [hW1] at hx hr
  have HX := hid hx
  have HR := hid hr
  have HW1 := hid hW1
  obtain ⟨f0, f1, f2, -, -, -⟩ := row_facts3 hr
  have HTT : Hid (Tab W1) := hid (ht.ext hx)
  have HV1 := hid (HV.out.ext hx)
  clear hW1 hx hr
  go_enter Tryd.func7, Tryd.ntmps7
  go_upto_region 1 with fail
  rw [HW1.out]
  go_wp2_with fail
  refine (formed_any _ m us ad s W1 HV1.out hlen (hid rfl) (hid rfl) hb).mono ?_
  rintro e w2 ⟨rfl, hx2⟩
  have HY := hid (HX.out.step hx2)
  clear f0 f1 f2 hx2
  go_wp2_with fail
  refine (awake2_any w2 (HT.out.ext HY.out)).mono ?_
  rintro e w3 ⟨rfl, hx3⟩
  have HZ := hid (HY.out.step hx3)
  go_wp2
  go_ret
  exact ⟨rfl, HZ.out⟩
set_option maxRecDepth 100000 in
set_option maxHeartbeats 1600000 in
theorem parts_none (v : Value) (m : Int) (us ad : List Int) (s : List UInt8) (k l : Nat) (w : World) (hv : MapV w v m us ad) (ht : Tab w) (hM : Hid (mapP m us ad)) (hs : Hid (K.validL s = true)) (hkl : k + l ≤ 20000) (hO : Hid (runO m us ad k (K.numL s) = none)) :
    Calls Tryd.prog 7 #[v, .string (Str s), .int .i64 (k : Int), .int .i64 (l : Int)] w (TruePost w) := by
  have hlen := len_of (valid_len hs.out)
  have hb : Hid (true = (mapB m us ad && K.validL s)) := hid (by rw [(mapB_iff m us ad).2 hM.out, hs.out]; rfl)
  have HO3 : Hid (runO m us ad (k + l) (K.numL s) = none) := hid (by rw [runO_add, hO.out]; rfl)
  have HT := hid ht
  have HV := hid hv
  obtain ⟨A, n, cc, B, n2, d, rfl, -⟩ := hv
  have hx : Ext w (w.alloc (.cells #[.int .i64 m, .slice A n cc, .slice B n2 d] 50)) := (Ext.rfl' w).alloc' _
  have hr : Row (w.alloc (.cells #[.int .i64 m, .slice A n cc, .slice B n2 d] 50)) w.heap.size 50 [.int .i64 m, .slice A n cc, .slice B n2 d] := Row.new w _ _
  obtain ⟨W1, hW1⟩ : ∃ W1, w.alloc (.cells #[.int .i64 m, .slice A n cc, .slice B n2 d] 50) = W1 := ⟨_, rfl⟩
  rw [hW1] at hx hr
  have HX := hid hx
  have HR := hid hr
  have HW1 := hid hW1
  obtain ⟨f0, f1, f2, -, -, -⟩ := row_facts3 hr
  have HTT : Hid (Tab W1) := hid (ht.ext hx)
  have HV1 := hid (HV.out.ext hx)
  clear hW1 hx hr
  have hstep := step_ok _ m us ad s W1 HV1.out hM hs HTT.out
  clear hstep
  obtain ⟨o1, ho1⟩ : ∃ o1, runO m us ad 1 (K.numL s) = o1 := ⟨_, rfl⟩
  have HO1 := hid ho1
  obtain ⟨s1, hs1⟩ : ∃ s1, strO o1 = s1 := ⟨_, rfl⟩
  obtain ⟨c1, hc1⟩ : ∃ c1, codeO o1 = c1 := ⟨_, rfl⟩
  have HS1 := hid hs1
  have HC1 := hid hc1
  have hss : (s1.toList == s1.toList) = true := by simp
  have hcc : (c1 == c1) = true := by simp
  have hk0 : (0 : Int) ≤ (k : Int) := by omega
  have hl0 : (0 : Int) ≤ (l : Int) := by omega
  have hk1 : (k : Int) ≤ 20000 := by omega
  have hl1 : (l : Int) ≤ 20000 - (k : Int) := by omega
  clear ho1 hs1 hc1
  go_enter Tryd.func7, Tryd.ntmps7
  go_upto_region 1 with fail
  rw [HW1.out]
  go_wp2_with fail
  refine (formed_any _ m us ad s W1 HV1.out hlen (hid rfl) (hid rfl) hb).mono ?_
  rintro e w2 ⟨rfl, hx2⟩
  have HY2 : Hid (Ext W1 w2) := hid hx2
  clear f0 f1 f2 hx2
  obtain ⟨f0, f1, f2, -, -, -⟩ := row_facts3 (HR.out.ext HY2.out)
  go_wp2_with fail
  refine (step_ok _ m us ad s w2 (HV1.out.ext HY2.out) hM hs (HTT.out.ext HY2.out)).mono ?_
  rintro e w3 ⟨rfl, hx3⟩
  rw [HO1.out, HS1.out, HC1.out]
  have HY3 := hid (HY2.out.step hx3)
  clear f0 f1 f2 hx3
  obtain ⟨f0, f1, f2, -, -, -⟩ := row_facts3 (HR.out.ext HY3.out)
  go_wp2_with fail
  refine (run_ok _ m us ad s 1 w3 (HV1.out.ext HY3.out) hM hs (by omega) (HTT.out.ext HY3.out)).mono ?_
  rintro e w4 ⟨rfl, hx4⟩
  rw [HO1.out, HS1.out, HC1.out]
  have HY4 := hid (HY3.out.step hx4)
  clear f0 f1 f2 hx4
  obtain ⟨f0, f1, f2, -, -, -⟩ := row_facts3 (HR.out.ext HY4.out)
  go_wp2_with fail
  rw [show (k : Int) + (l : Int) = ((k + l : Nat) : Int) by omega]
  refine (run_ok _ m us ad s (k + l) w4 (HV1.out.ext HY4.out) hM hs hkl (HTT.out.ext HY4.out)).mono ?_
  rintro e w5 ⟨rfl, hx5⟩
  rw [HO3.out]
  have HY5 := hid (HY4.out.step hx5)
  clear f0 f1 f2 hx5
  obtain ⟨f0, f1, f2, -, -, -⟩ := row_facts3 (HR.out.ext HY5.out)
  rw [show strO none = ⟨#[]⟩ from rfl, show codeO none = 3 from rfl]
  go_wp2_with fail
  refine (run_ok _ m us ad s k w5 (HV1.out.ext HY5.out) hM hs (by omega) (HTT.out.ext HY5.out)).mono ?_
  rintro e w6 ⟨rfl, hx6⟩
  rw [hO.out]
  have HY6 := hid (HY5.out.step hx6)
  clear f0 f1 f2 hx6
  rw [show strO none = ⟨#[]⟩ from rfl, show codeO none = 3 from rfl]
  go_wp2_with fail
  refine (awake2_any w6 (HTT.out.ext HY6.out)).mono ?_
  rintro e w8 ⟨rfl, hx8⟩
  have HZ := hid (HX.out.step (HY6.out.step hx8))
  go_wp2
  go_ret
  exact ⟨rfl, HZ.out⟩
set_option maxRecDepth 100000 in
set_option maxHeartbeats 1600000 in
theorem parts_some (v : Value) (m : Int) (us ad : List Int) (s : List UInt8) (k l : Nat) (y : Int) (w : World) (hv : MapV w v m us ad) (ht : Tab w) (hM : Hid (mapP m us ad)) (hs : Hid (K.validL s = true)) (hkl : k + l ≤ 20000) (hO : Hid (runO m us ad k (K.numL s) = some y)) :
    Calls Tryd.prog 7 #[v, .string (Str s), .int .i64 (k : Int), .int .i64 (l : Int)] w (TruePost w) := by
  have hlen := len_of (valid_len hs.out)
  have hb : Hid (true = (mapB m us ad && K.validL s)) := hid (by rw [(mapB_iff m us ad).2 hM.out, hs.out]; rfl)
  have HFY := hid (runO_fits k _ y (K.txt_numL s hs.out).2 hO.out)
  have HO3 : Hid (runO m us ad (k + l) (K.numL s) = runO m us ad l y) := hid (by rw [runO_add, hO.out]; rfl)
  have HVY := hid (K.valid_txt y HFY.out)
  have HT := hid ht
  have HV := hid hv
  obtain ⟨A, n, cc, B, n2, d, rfl, -⟩ := hv
  have hx : Ext w (w.alloc (.cells #[.int .i64 m, .slice A n cc, .slice B n2 d] 50)) := (Ext.rfl' w).alloc' _
  have hr : Row (w.alloc (.cells #[.int .i64 m, .slice A n cc, .slice B n2 d] 50)) w.heap.size 50 [.int .i64 m, .slice A n cc, .slice B n2 d] := Row.new w _ _
  obtain ⟨W1, hW1⟩ : ∃ W1, w.alloc (.cells #[.int .i64 m, .slice A n cc, .slice B n2 d] 50) = W1 := ⟨_, rfl⟩
  rw [hW1] at hx hr
  have HX := hid hx
  have HR := hid hr
  have HW1 := hid hW1
  obtain ⟨f0, f1, f2, -, -, -⟩ := row_facts3 hr
  have HTT : Hid (Tab W1) := hid (ht.ext hx)
  have HV1 := hid (HV.out.ext hx)
  clear hW1 hx hr
  have hstep := step_ok _ m us ad s W1 HV1.out hM hs HTT.out
  clear hstep
  obtain ⟨o1, ho1⟩ : ∃ o1, runO m us ad 1 (K.numL s) = o1 := ⟨_, rfl⟩
  have HO1 := hid ho1
  obtain ⟨s1, hs1⟩ : ∃ s1, strO o1 = s1 := ⟨_, rfl⟩
  obtain ⟨c1, hc1⟩ : ∃ c1, codeO o1 = c1 := ⟨_, rfl⟩
  have HS1 := hid hs1
  have HC1 := hid hc1
  have hss : (s1.toList == s1.toList) = true := by simp
  have hcc : (c1 == c1) = true := by simp
  have hk0 : (0 : Int) ≤ (k : Int) := by omega
  have hl0 : (0 : Int) ≤ (l : Int) := by omega
  have hk1 : (k : Int) ≤ 20000 := by omega
  have hl1 : (l : Int) ≤ 20000 - (k : Int) := by omega
  clear ho1 hs1 hc1
  go_enter Tryd.func7, Tryd.ntmps7
  go_upto_region 1 with fail
  rw [HW1.out]
  go_wp2_with fail
  refine (formed_any _ m us ad s W1 HV1.out hlen (hid rfl) (hid rfl) hb).mono ?_
  rintro e w2 ⟨rfl, hx2⟩
  have HY2 : Hid (Ext W1 w2) := hid hx2
  clear f0 f1 f2 hx2
  obtain ⟨f0, f1, f2, -, -, -⟩ := row_facts3 (HR.out.ext HY2.out)
  go_wp2_with fail
  refine (step_ok _ m us ad s w2 (HV1.out.ext HY2.out) hM hs (HTT.out.ext HY2.out)).mono ?_
  rintro e w3 ⟨rfl, hx3⟩
  rw [HO1.out, HS1.out, HC1.out]
  have HY3 := hid (HY2.out.step hx3)
  clear f0 f1 f2 hx3
  obtain ⟨f0, f1, f2, -, -, -⟩ := row_facts3 (HR.out.ext HY3.out)
  go_wp2_with fail
  refine (run_ok _ m us ad s 1 w3 (HV1.out.ext HY3.out) hM hs (by omega) (HTT.out.ext HY3.out)).mono ?_
  rintro e w4 ⟨rfl, hx4⟩
  rw [HO1.out, HS1.out, HC1.out]
  have HY4 := hid (HY3.out.step hx4)
  clear f0 f1 f2 hx4
  obtain ⟨f0, f1, f2, -, -, -⟩ := row_facts3 (HR.out.ext HY4.out)
  go_wp2_with fail
  rw [show (k : Int) + (l : Int) = ((k + l : Nat) : Int) by omega]
  refine (run_ok _ m us ad s (k + l) w4 (HV1.out.ext HY4.out) hM hs hkl (HTT.out.ext HY4.out)).mono ?_
  rintro e w5 ⟨rfl, hx5⟩
  rw [HO3.out]
  have HY5 := hid (HY4.out.step hx5)
  clear f0 f1 f2 hx5
  obtain ⟨f0, f1, f2, -, -, -⟩ := row_facts3 (HR.out.ext HY5.out)
  obtain ⟨o3, ho3⟩ : ∃ o3, runO m us ad l y = o3 := ⟨_, rfl⟩
  rw [ho3]
  have HOL := hid ho3
  obtain ⟨s3, hs3⟩ : ∃ s3, strO o3 = s3 := ⟨_, rfl⟩
  obtain ⟨c3, hc3⟩ : ∃ c3, codeO o3 = c3 := ⟨_, rfl⟩
  rw [hs3, hc3]
  have HS3 := hid hs3
  have HC3 := hid hc3
  have hss3 : (s3.toList == s3.toList) = true := by simp
  have hcc3 : (c3 == c3) = true := by simp
  clear ho3 hs3 hc3
  go_wp2_with fail
  refine (run_ok _ m us ad s k w5 (HV1.out.ext HY5.out) hM hs (by omega) (HTT.out.ext HY5.out)).mono ?_
  rintro e w6 ⟨rfl, hx6⟩
  rw [hO.out]
  have HY6 := hid (HY5.out.step hx6)
  clear f0 f1 f2 hx6
  rw [show strO (some y) = Str (K.txt y) from rfl, show codeO (some y) = 0 from rfl]
  obtain ⟨f0, f1, f2, -, -, -⟩ := row_facts3 (HR.out.ext HY6.out)
  go_wp2_with fail
  refine (run_ok _ m us ad (K.txt y) l w6 (HV1.out.ext HY6.out) hM HVY (by omega) (HTT.out.ext HY6.out)).mono ?_
  rintro e w7 ⟨rfl, hx7⟩
  rw [K.numL_txt, HOL.out, HS3.out, HC3.out]
  have HY7 := hid (HY6.out.step hx7)
  clear f0 f1 f2 hx7
  go_wp2_with fail
  refine (awake2_any w7 (HTT.out.ext HY7.out)).mono ?_
  rintro e w8 ⟨rfl, hx8⟩
  have HZ := hid (HX.out.step (HY7.out.step hx8))
  go_wp2
  go_ret
  exact ⟨rfl, HZ.out⟩
theorem law_StepParts (v : Value) (m : Int) (us ad : List Int) (s : List UInt8) (k l : Int) (w : World) (hv : MapV w v m us ad) (hlen : s.length ≤ 140737488351232) (ht : Tab w) :
    Calls Tryd.prog 7 #[v, .string (Str s), .int .i64 k, .int .i64 l] w (TruePost w) := by
  cases hf : (mapB m us ad && K.validL s) with
  | false => exact parts_form v m us ad s k l w hv hlen ht (hid hf.symm)
  | true =>
    rcases Int.lt_or_le k 0 with h1 | h1
    · exact parts_klow v m us ad s k l w hv hlen ht (hid hf.symm) h1
    · rcases Int.lt_or_le l 0 with h2 | h2
      · exact parts_llow v m us ad s k l w hv hlen ht (hid hf.symm) h1 h2
      · rcases Int.lt_or_le 20000 k with h3 | h3
        · exact parts_khigh v m us ad s k l w hv hlen ht (hid hf.symm) h2 h3
        · rcases Int.lt_or_le (20000 - k) l with h4 | h4
          · exact parts_lhigh v m us ad s k l w hv hlen ht (hid hf.symm) h2 h1 h3 h4
          · obtain ⟨kk, rfl⟩ := Int.eq_ofNat_of_zero_le h1
            obtain ⟨ll, rfl⟩ := Int.eq_ofNat_of_zero_le h2
            rw [Bool.and_eq_true] at hf
            have hM := (mapB_iff m us ad).1 hf.1
            cases hr : runO m us ad kk (K.numL s) with
            | none => exact parts_none v m us ad s kk ll w hv ht (hid hM) (hid hf.2) (by omega) (hid hr)
            | some y => exact parts_some v m us ad s kk ll y w hv ht (hid hM) (hid hf.2) (by omega) (hid hr)
end Go.Proofs.YtoilkfohhhidpaaDoor
