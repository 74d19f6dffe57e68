/- Joined texts: the step law package's helpers: same, awake; the reference's Valid, of a map; the reference's Twin: a copy of a map; step.commonDivisor, step.Regular; the reference's Prime, Regular; the law StepMaps. -/
import Derived.Test.YtflgkijmbpcnfaaDoorJG09
import Derived.Test.YtflgkijmbpcnfaaDoorJG08
import Derived.Deep.RegionLawGrows
import Derived.Deep.Upon
import Derived.Deep.LoopGhost
import Derived.IntWalk
set_option linter.unusedSimpArgs false
set_option linter.unusedVariables false
/- the step law package's helpers: same, awake -/
namespace Go.Proofs.YtflgkijmbpcnfaaDoor
open Go.RowKit
abbrev Ss (l : List ByteArray) : List Value := l.map fun s => Value.string s
theorem Rd.atS {w : World} {A : Option Addr} {l : List ByteArray} (h : Rd w A (Ss l)) {k : Nat} (hk : k < l.length) :
    ∃ b o s, A = some ⟨b, o, none⟩ ∧ l[k]? = some s ∧ w.cell? ⟨b, o + k, none⟩ = some (.string s) := by
  rcases h with h | ⟨b, o, ha, hb, hc⟩
  · rw [List.map_eq_nil_iff] at h; subst h; cases hk
  · exact ⟨b, o, l[k], ha, List.getElem?_eq_getElem hk, hc k _ (by rw [List.getElem?_map, List.getElem?_eq_getElem hk]; rfl)⟩
set_option maxRecDepth 100000 in
set_option maxHeartbeats 800000 in
theorem lsame_eq (A B : Option Addr) (n c d : Nat) (ss : List ByteArray) (w : World) (ra : Rd w A (Ss ss)) (rb : Rd w B (Ss ss)) (hn : ss.length = n) (hb : n ≤ 140737488351232) :
    Calls Tryd.prog 22 #[.slice A n c, .slice B n d] w (fun e w' => e = .returned (.bool true) ∧ Ext w w') := by
  have HN := hid hn
  have HA := hid ra
  have HB := hid rb
  have hb2 : n ≤ 9223372036854775807 := by omega
  clear hn ra rb
  go_enter Tryd.func22, Tryd.ntmps22
  go_wp2_with fail
  go_loopw [5] (fun iz wr => ∃ j : Nat, j ≤ n ∧ iz = .int .i64 (j : Int) ∧ Ext w wr) (fun iz _ => n - (intOf iz).toNat)
  case atStart => exact ⟨0, by omega, rfl, Ext.rfl' _⟩
  case round =>
    obtain ⟨j, hj, rfl, hex⟩ := hrel
    by_cases hlt : j < n
    · obtain ⟨b1, o1, s1, e1, i1, hc1⟩ := (HA.out.ext hex).atS (k := j) (by rw [HN.out]; exact hlt)
      obtain ⟨b2, o2, s2, e2, i2, hc2⟩ := (HB.out.ext hex).atS (k := j) (by rw [HN.out]; exact hlt)
      subst e1 e2
      rw [i1] at i2
      cases i2
      clear i1
      go_wp2_with fail
      go_quiet (fail)
      have hex2 := hex.drewN nq
      go_wp2
      go_roundw
      case rel => exact ⟨j + 1, by omega, by simp, hex2⟩
      case measure => simp [intOf]; omega
    · have HX := hid hex
      go_wp2
      go_ret
      exact ⟨rfl, HX.out⟩
theorem coll_ok : mapP 2 [1, 3] [0, 1] := (mapB_iff _ _ _).1 (by decide +kernel)
theorem seven_ok : K.validL [55] = true := by decide +kernel
theorem seven_num : K.numL [55] = 7 := by decide +kernel
def Orb7 : List ByteArray := [⟨#[55]⟩, ⟨#[49, 49]⟩, ⟨#[49, 55]⟩, ⟨#[50, 54]⟩, ⟨#[49, 51]⟩, ⟨#[50, 48]⟩]
theorem seq7 : seqO 2 [1, 3] [0, 1] 5 7 = [some 11, some 17, some 26, some 13, some 20] := by decide +kernel
theorem strO_lit (l : List UInt8) (n : Int) (h : K.validL l = true) (e : K.numL l = n) : strO (some n) = Str l := by
  show Str (K.txt n) = _
  rw [K.txt_of_lit l n h e]
theorem orb7_eq : Txs (some 7 :: [some 11, some 17, some 26, some 13, some 20]) = Ss Orb7 := by
  simp only [Txs, List.map_cons, List.map_nil, strO_lit [55] 7 (by decide +kernel) (by decide +kernel), strO_lit [49, 49] 11 (by decide +kernel) (by decide +kernel), strO_lit [49, 55] 17 (by decide +kernel) (by decide +kernel), strO_lit [50, 54] 26 (by decide +kernel) (by decide +kernel), strO_lit [49, 51] 13 (by decide +kernel) (by decide +kernel), strO_lit [50, 48] 20 (by decide +kernel) (by decide +kernel)]
  rfl
theorem orbit7 (v : Value) (w : World) (hv : MapV w v 2 [1, 3] [0, 1]) (ht : Tab w) :
    Calls Tryd.prog 20 #[v, .string ⟨#[55]⟩, .int .i64 5] w (fun e w' => ∃ A c, e = .returned (.tuple #[.slice A 6 c, .int .i64 0]) ∧ Rd w' A (Ss Orb7) ∧ Ext w w') := by
  refine (orbit_ok v 2 [1, 3] [0, 1] [55] 5 w hv (hid coll_ok) (hid seven_ok) (by omega) ht).mono ?_
  rintro e w' ⟨h1, -, h3⟩
  rw [seven_num, seq7] at h1
  obtain ⟨A, k, c, rfl, hk, -, hr⟩ := h1 (by simp)
  rw [orb7_eq] at hr
  exact ⟨A, c, by rw [hk]; rfl, hr, h3⟩
theorem seq_step {m : Int} {us ad : List Int} {k : Nat} {x y : Int} (h : stepI m us ad x = y) (hf : fitsB y = true) : seqO m us ad (k + 1) x = some y :: seqO m us ad k y := by
  rw [seqO, h, if_pos hf]
theorem fall7 : fallL 7 0 (seqO 2 [1, 3] [0, 1] 100 7) = (7, Str [53], 0) := by
  rw [show (100 : Nat) = 93 + 1 + 1 + 1 + 1 + 1 + 1 + 1 from rfl, seq_step (y := 11) (by decide +kernel) (by decide +kernel), seq_step (y := 17) (by decide +kernel) (by decide +kernel), seq_step (y := 26) (by decide +kernel) (by decide +kernel),
    seq_step (y := 13) (by decide +kernel) (by decide +kernel), seq_step (y := 20) (by decide +kernel) (by decide +kernel), seq_step (y := 10) (by decide +kernel) (by decide +kernel), seq_step (y := 5) (by decide +kernel) (by decide +kernel)]
  rw [fallL, if_neg (by decide), fallL, if_neg (by decide), fallL, if_neg (by decide), fallL, if_neg (by decide), fallL, if_neg (by decide), fallL, if_neg (by decide), fallL, if_pos (by decide), K.txt_of_lit [53] 5 (by decide +kernel) (by decide +kernel)]
  rfl
theorem falls7 (v : Value) (w : World) (hv : MapV w v 2 [1, 3] [0, 1]) (ht : Tab w) :
    Calls Tryd.prog 21 #[v, .string ⟨#[55]⟩, .int .i64 100] w (fun e w' => e = .returned (.tuple #[.int .i64 7, .string ⟨#[53]⟩, .int .i64 0]) ∧ Ext w w') := by
  refine (falls_ok v 2 [1, 3] [0, 1] [55] 100 w hv (hid coll_ok) (hid seven_ok) (by omega) (by omega) ht).mono ?_
  rintro e w' ⟨rfl, h3⟩
  rw [seven_num, fall7]
  exact ⟨rfl, h3⟩
set_option maxRecDepth 100000 in
set_option maxHeartbeats 3200000 in
theorem awake2_any (w : World) (ht : Tab w) :
    Calls Tryd.prog 12 #[] w (fun e w' => e = .returned (.bool true) ∧ Ext w w') := by
  have HT := hid ht
  go_enter Tryd.func12, Tryd.ntmps12
  go_wp2_with fail
  refine (refCollatz_any w).mono ?_
  rintro e w1 ⟨v1, rfl, hn1, hx1⟩
  have hv1 := hn1.mapV
  obtain ⟨g1, g2, k1, rfl, -⟩ := hn1
  have r1 := Row.new w1 24 [.int .i64 2, .slice (some ⟨g1, 0, none⟩) k1 k1, .slice (some ⟨g2, 0, none⟩) k1 k1]
  have hx1a := hx1.alloc' (.cells #[.int .i64 2, .slice (some ⟨g1, 0, none⟩) k1 k1, .slice (some ⟨g2, 0, none⟩) k1 k1] 24)
  have hv1a := hv1.ext ((Ext.rfl' w1).alloc' (.cells #[.int .i64 2, .slice (some ⟨g1, 0, none⟩) k1 k1, .slice (some ⟨g2, 0, none⟩) k1 k1] 24))
  obtain ⟨W1, hW1⟩ : ∃ W1, w1.alloc (.cells #[.int .i64 2, .slice (some ⟨g1, 0, none⟩) k1 k1, .slice (some ⟨g2, 0, none⟩) k1 k1] 24) = W1 := ⟨_, rfl⟩
  rw [hW1] at hx1a hv1a
  have r1 : Row W1 w1.heap.size 24 [.int .i64 2, .slice (some ⟨g1, 0, none⟩) k1 k1, .slice (some ⟨g2, 0, none⟩) k1 k1] := by rw [← hW1]; exact r1
  have HW1 := hid hW1
  have HX1 := hid hx1a
  have HV1 := hid hv1a
  have R1 := hid r1
  obtain ⟨f0, f1, f2, -, -, -⟩ := row_facts3 r1
  clear hx1 hx1a hv1 hv1a r1 hW1
  go_upto_region 2 with fail
  rw [HW1.out]
  go_wp2_with fail
  refine (orbit7 _ W1 HV1.out (HT.out.ext HX1.out)).mono ?_
  rintro e w2 ⟨A, cA, rfl, hA, hx2⟩
  have HA := hid hA
  clear f0 f1 f2 hA
  obtain ⟨f0, f1, f2, -, -, -⟩ := row_facts3 (R1.out.ext hx2)
  have HX2 := hid hx2
  clear hx2
  go_wp2_with fail
  refine (falls7 _ w2 (HV1.out.ext HX2.out) ((HT.out.ext HX1.out).ext HX2.out)).mono ?_
  rintro e w3 ⟨rfl, hx3⟩
  have HX3 := hid (HX2.out.step hx3)
  have HA3 := hid (HA.out.ext hx3)
  clear f0 f1 f2 hx3
  go_wp2_with fail
  refine (stepKin_ok 3 1 w3 (by decide) (by decide) (by omega) (by omega) (by omega) (by omega)).mono ?_
  rintro e w4 ⟨v4, rfl, hn4, hx4⟩
  have hv4 := hn4.mapV
  obtain ⟨g3, g4, k4, rfl, -⟩ := hn4
  have r4 := Row.new w4 24 [.int .i64 2, .slice (some ⟨g3, 0, none⟩) k4 k4, .slice (some ⟨g4, 0, none⟩) k4 k4]
  have hx4a := (HX3.out.step hx4).alloc' (.cells #[.int .i64 2, .slice (some ⟨g3, 0, none⟩) k4 k4, .slice (some ⟨g4, 0, none⟩) k4 k4] 24)
  have hv4a := hv4.ext ((Ext.rfl' w4).alloc' (.cells #[.int .i64 2, .slice (some ⟨g3, 0, none⟩) k4 k4, .slice (some ⟨g4, 0, none⟩) k4 k4] 24))
  have hA4 := (HA3.out.ext hx4).ext ((Ext.rfl' w4).alloc' (.cells #[.int .i64 2, .slice (some ⟨g3, 0, none⟩) k4 k4, .slice (some ⟨g4, 0, none⟩) k4 k4] 24))
  obtain ⟨W4, hW4⟩ : ∃ W4, w4.alloc (.cells #[.int .i64 2, .slice (some ⟨g3, 0, none⟩) k4 k4, .slice (some ⟨g4, 0, none⟩) k4 k4] 24) = W4 := ⟨_, rfl⟩
  rw [hW4] at hx4a hv4a hA4
  have r4 : Row W4 w4.heap.size 24 [.int .i64 2, .slice (some ⟨g3, 0, none⟩) k4 k4, .slice (some ⟨g4, 0, none⟩) k4 k4] := by rw [← hW4]; exact r4
  have HW4 := hid hW4
  have HX4 := hid hx4a
  have HV4 := hid hv4a
  have HA4 := hid hA4
  have R4 := hid r4
  have R14 := hid (R1.out.ext hx4a)
  obtain ⟨f0, f1, f2, -, -, -⟩ := row_facts3 R14.out
  obtain ⟨e0, e1, e2, -, -, -⟩ := row_facts3 r4
  clear hx4 hx4a hv4 hv4a r4 hW4 hA4 HA3 HX3 HX2 HA
  have HV14 := hid (HV1.out.ext HX4.out)
  have hcur : Ext W4 W4 := Ext.rfl' _
  have HS : Hid (∀ W', Ext W4 W' → W'.cell? ⟨w1.heap.size, 0, none⟩ = some (.int .i64 2) ∧ W'.cell? ⟨w1.heap.size, 1, none⟩ = some (.slice (some ⟨g1, 0, none⟩) k1 k1) ∧ W'.cell? ⟨w1.heap.size, 2, none⟩ = some (.slice (some ⟨g2, 0, none⟩) k1 k1) ∧ W'.cell? ⟨w4.heap.size, 0, none⟩ = some (.int .i64 2) ∧ W'.cell? ⟨w4.heap.size, 1, none⟩ = some (.slice (some ⟨g3, 0, none⟩) k4 k4) ∧ W'.cell? ⟨w4.heap.size, 2, none⟩ = some (.slice (some ⟨g4, 0, none⟩) k4 k4)) := hid (by
    intro W' e
    obtain ⟨p0, p1, p2, -, -, -⟩ := row_facts3 (R14.out.ext e)
    obtain ⟨q0, q1, q2, -, -, -⟩ := row_facts3 (R4.out.ext e)
    exact ⟨p0, p1, p2, q0, q1, q2⟩)
  go_upto_region 5 with fail
  rw [HW4.out]
  go_region_held3 (fun W' => W'.cell? ⟨w1.heap.size, 0, none⟩ = some (.int .i64 2) ∧ W'.cell? ⟨w1.heap.size, 1, none⟩ = some (.slice (some ⟨g1, 0, none⟩) k1 k1) ∧ W'.cell? ⟨w1.heap.size, 2, none⟩ = some (.slice (some ⟨g2, 0, none⟩) k1 k1) ∧ W'.cell? ⟨w4.heap.size, 0, none⟩ = some (.int .i64 2) ∧ W'.cell? ⟨w4.heap.size, 1, none⟩ = some (.slice (some ⟨g3, 0, none⟩) k4 k4) ∧ W'.cell? ⟨w4.heap.size, 2, none⟩ = some (.slice (some ⟨g4, 0, none⟩) k4 k4))
    (first | exact HS.out _ hcur | exact HS.out _ (hcur.alloc' _) | exact HS.out _ (hcur.drew'.alloc' _) | go_keep)
    (first
      | (go_at_call 22; refine (lsame_eq _ _ 6 _ _ Orb7 _ (HA4.out.ext ?_) ?_ rfl (by omega)).mono ?_; (first | exact hcur | exact hcur.drew' | exact hcur.alloc' _ | exact hcur.drew'.alloc' _ | exact (hcur.alloc' _).drew'); exact (Row.new _ _ _).rd0; rintro e w5 ⟨rfl, hx⟩; have hcur : Ext W4 w5 := (by first | exact hcur.step hx | exact hcur.step (Ext.undrew hx) | exact (hcur.alloc' _).step hx | exact (hcur.drew'.alloc' _).step hx | exact (hcur.alloc' _).step (Ext.undrew hx)))
      | (go_at_call 9; refine (rsame_eq _ _ 2 [1, 3] [0, 1] _ ?_ ?_).mono ?_; (first | (refine HV4.out.ext ?_; (first | exact hcur | exact hcur.drew' | exact hcur.alloc' _ | exact hcur.drew'.alloc' _ | exact (hcur.alloc' _).drew')) | (refine HC.out.ext ?_; (first | exact Ext.rfl' _ | exact (Ext.rfl' _).drew'))); (refine HV14.out.ext ?_; (first | exact hcur | exact hcur.drew' | exact hcur.alloc' _ | exact hcur.drew'.alloc' _ | exact (hcur.alloc' _).drew')); rintro e w7 ⟨rfl, hx⟩; have hcur : Ext W4 w7 := (by first | exact hcur.step hx | exact hcur.step (Ext.undrew hx) | exact (hcur.alloc' _).step hx | exact (hcur.drew'.alloc' _).step hx | exact (hcur.alloc' _).step (Ext.undrew hx)))
      | (go_at_call 13; refine (stepCollatz_any _).mono ?_; rintro e w6 ⟨v6, rfl, hn6, hx⟩; have hcur : Ext W4 w6 := (by first | exact hcur.step hx | exact hcur.step (Ext.undrew hx) | exact (hcur.alloc' _).step hx | exact (hcur.drew'.alloc' _).step hx | exact (hcur.alloc' _).step (Ext.undrew hx)); have HC := hid hn6.mapV; obtain ⟨g5, g6, k6, rfl, -⟩ := hn6))
  all_goals
    have HZ := hid ((HX1.out.step HX4.out).step hcur)
    go_wp2
    go_ret
    exact ⟨rfl, by first | exact HZ.out | exact HZ.out.drew' | exact HZ.out.drewN _⟩
end Go.Proofs.YtflgkijmbpcnfaaDoor
/- the reference's Valid, of a map -/
namespace Go.Proofs.YtflgkijmbpcnfaaDoor
open Go.RowKit
set_option maxRecDepth 100000 in
set_option maxHeartbeats 1600000 in
theorem refvalid_any (v : Value) (m : Int) (us ad : List Int) (w : World) (hv : MapV w v m us ad) {b : Bool} (hb : Hid (mapB m us ad = b)) :
    Calls Tryd.prog 8 #[v] w (fun e w' => e = .returned (.bool b) ∧ Ext w w') := by
  obtain ⟨A, k, c, B, l, d, rfl, hk, hkc, hl, hld, ra, rb, bk, bl⟩ := hv
  have hno : ∀ (_ : ¬ mapP m us ad), Hid (b = false) := fun h => hid (by
    rw [← hb.out]
    cases hB : mapB m us ad with
    | false => rfl
    | true => exact absurd ((mapB_iff m us ad).1 hB) h)
  have hbk : k ≤ 9223372036854775807 := by omega
  have hbl : l ≤ 9223372036854775807 := by omega
  have hx : Ext w (w.alloc (.cells #[.int .i64 m, .slice A k c, .slice B l d] 24)) := (Ext.rfl' w).alloc' _
  have hk3 : ∀ w', Ext (w.alloc (.cells #[.int .i64 m, .slice A k c, .slice B l d] 24)) w' → _ := fun w' e => three_facts e rfl
  by_cases c1 : m < 2
  · have HF := hno (fun h => by have := h.1; omega)
    have HX := hid hx
    clear hno hb hk hl ra rb hx hk3
    go_enter Tryd.func8, Tryd.ntmps8
    go_wp2
    go_ret
    exact ⟨by rw [HF.out]; rfl, HX.out⟩
  · by_cases c2 : 12 < m
    · have HF := hno (fun h => by have := h.2.1; omega)
      have HX := hid hx
      clear hno hb hk hl ra rb hx hk3
      go_enter Tryd.func8, Tryd.ntmps8
      go_wp2
      go_ret
      exact ⟨by rw [HF.out]; rfl, HX.out⟩
    · by_cases c3 : (k : Int) = m
      · by_cases c4 : (l : Int) = m
        · subst c3
          obtain rfl : l = k := by omega
          have HNO := hid hno
          have HK := hid hk
          have HL := hid hl
          have HX := hid hx
          have HK3 := hid hk3
          have HRA := hid ra
          have HRB := hid rb
          have k12 : l ≤ 12 := by omega
          have k2 : 2 ≤ l := by omega
          obtain ⟨f0, f1, f2, -⟩ := hk3 _ (Ext.rfl' _)
          obtain ⟨W1, hW1⟩ : ∃ W1, w.alloc (.cells #[.int .i64 (l : Int), .slice A l c, .slice B l d] 24) = W1 := ⟨_, rfl⟩
          rw [hW1] at HX HK3 f0 f1 f2
          have HW1 := hid hW1
          clear hno hk hl hx hk3 hW1 ra rb c4 hbk hbl c1 c2
          go_enter Tryd.func8, Tryd.ntmps8
          go_upto_region 1 with fail
          rw [HW1.out]
          go_wp2_with fail
          clear f0 f1 f2
          go_loopw [3] (fun iz wr => ∃ j : Nat, j ≤ l ∧ iz = .int .i64 (j : Int) ∧ Hid (∀ r : Nat, r < j → ruleP (l : Int) r (us.getD r 0) (ad.getD r 0)) ∧ Ext W1 wr) (fun iz _ => l - (intOf iz).toNat)
          case atStart => exact ⟨0, by omega, rfl, hid (fun r h => absurd h (by omega)), Ext.rfl' _⟩
          case round =>
            obtain ⟨j, hj, rfl, HR, hex⟩ := hrel
            obtain ⟨f0, f1, f2, -⟩ := HK3.out _ hex
            by_cases hlt : j < l
            · obtain ⟨ba, oa, eA, hba, hca⟩ := ((HRA.out.ext HX.out).ext hex).atI (k := j) (by rw [HK.out]; exact hlt)
              obtain ⟨bb, ob, eB, hbb, hcb⟩ := ((HRB.out.ext HX.out).ext hex).atI (k := j) (by rw [HL.out]; exact hlt)
              subst eA eB
              obtain ⟨u, hu⟩ : ∃ u, us.getD j 0 = u := ⟨_, rfl⟩
              obtain ⟨a, ha⟩ : ∃ a, ad.getD j 0 = a := ⟨_, rfl⟩
              rw [hu] at hca
              rw [ha] at hcb
              have HU := hid hu
              have HA := hid ha
              have hnb : ¬ ruleP (l : Int) j u a → Hid (b = false) := fun hr => HNO.out (fun h => hr (by have := h.2.2.2.2 j (by rw [HK.out]; exact hlt); rwa [HU.out, HA.out] at this))
              have HNB := hid hnb
              have HXE := hid (HX.out.step hex)
              have hj0 : (0 : Int) ≤ (j : Int) := by omega
              have hjl : (j : Int) < (l : Int) := by omega
              clear hu ha hba hbb hnb
              by_cases d1 : u < 1
              · have HF := HNB.out (fun h => by unfold ruleP at h; omega)
                have ed1 : decide (u < 1) = true := decide_eq_true d1
                go_wp2_with fail
                go_quiet (fail)
                have HY := hid (HXE.out.drewN nq)
                go_wp2
                go_ret
                exact ⟨by rw [HF.out]; rfl, HY.out⟩
              · have ed1 : decide (u < 1) = false := decide_eq_false d1
                by_cases d2 : 999 < u
                · have HF := HNB.out (fun h => by unfold ruleP at h; omega)
                  have ed2 : decide (999 < u) = true := decide_eq_true d2
                  go_wp2_with fail
                  go_quiet (fail)
                  have HY := hid (HXE.out.drewN nq)
                  go_wp2
                  go_ret
                  exact ⟨by rw [HF.out]; rfl, HY.out⟩
                · have ed2 : decide (999 < u) = false := decide_eq_false d2
                  by_cases d3 : a < -999999
                  · have HF := HNB.out (fun h => by unfold ruleP at h; omega)
                    have ed3 : decide (a < -999999) = true := decide_eq_true d3
                    go_wp2_with fail
                    go_quiet (fail)
                    have HY := hid (HXE.out.drewN nq)
                    go_wp2
                    go_ret
                    exact ⟨by rw [HF.out]; rfl, HY.out⟩
                  · have ed3 : decide (a < -999999) = false := decide_eq_false d3
                    by_cases d4 : 999999 < a
                    · have HF := HNB.out (fun h => by unfold ruleP at h; omega)
                      have ed4 : decide (999999 < a) = true := decide_eq_true d4
                      go_wp2_with fail
                      go_quiet (fail)
                      have HY := hid (HXE.out.drewN nq)
                      go_wp2
                      go_ret
                      exact ⟨by rw [HF.out]; rfl, HY.out⟩
                    · have ed4 : decide (999999 < a) = false := decide_eq_false d4
                      have hp : 0 ≤ u * (j : Int) ∧ u * (j : Int) ≤ 10989 := by
                        refine ⟨Int.mul_nonneg (by omega) hj0, ?_⟩
                        have := Int.mul_le_mul (show u ≤ 999 by omega) (show (j : Int) ≤ 11 by omega) hj0 (by omega)
                        omega
                      obtain ⟨q, hq⟩ : ∃ q, u * (j : Int) = q := ⟨_, rfl⟩
                      rw [hq] at hp
                      have hp1 := hp.1
                      have hp2 := hp.2
                      have w1 : IntKind.i64.wrap (u * (j : Int)) = q := by rw [hq]; exact IntWalk.i64_in _ (by omega)
                      have w2 : IntKind.i64.wrap (q + a) = q + a := IntWalk.i64_in _ (by omega)
                      have HQ := hid hq
                      clear hq hp
                      by_cases d5 : (q + a).tmod (l : Int) = 0
                      · have HNEXT : Hid (∀ r : Nat, r < j + 1 → ruleP (l : Int) r (us.getD r 0) (ad.getD r 0)) := hid (by
                          intro r h
                          rcases Nat.lt_or_ge r j with h1 | h1
                          · exact HR.out r h1
                          · obtain rfl : r = j := by omega
                            rw [HU.out, HA.out]
                            exact ⟨by omega, by omega, by omega, by omega, by rw [HQ.out]; exact tmod_zero.1 d5⟩)
                        have e5 : ((q + a).tmod (l : Int) == 0) = true := by rw [beq_iff_eq]; exact d5
                        have e6 : ((q + a).tmod (l : Int) != 0) = false := by rw [bne_eq_false_iff_eq]; exact d5
                        go_wp2_with fail
                        go_quiet (fail)
                        have hex2 := hex.drewN nq
                        clear w1 w2 e5 e6 d5
                        go_wp2
                        go_roundw
                        case rel => exact ⟨j + 1, by omega, by simp, HNEXT, hex2⟩
                        case measure => simp [intOf]; omega
                      · have HF := HNB.out (fun h => d5 (tmod_zero.2 (by rw [← HQ.out]; exact h.2.2.2.2)))
                        have e5 : ((q + a).tmod (l : Int) == 0) = false := by rw [beq_eq_false_iff_ne]; exact d5
                        have e6 : ((q + a).tmod (l : Int) != 0) = true := by rw [bne_iff_ne]; exact d5
                        go_wp2_with fail
                        go_quiet (fail)
                        have HY := hid (HXE.out.drewN nq)
                        go_wp2
                        go_ret
                        exact ⟨by rw [HF.out]; rfl, HY.out⟩
            · have HF : Hid (b = true) := hid (by
                rw [← hb.out]
                exact (mapB_iff _ _ _).2 ⟨by omega, by omega, by rw [HK.out], by rw [HL.out], fun r h => HR.out r (by rw [HK.out] at h; omega)⟩)
              have HY := hid (HX.out.step hex)
              go_wp2
              go_ret
              exact ⟨by rw [HF.out]; rfl, HY.out⟩
        · have HF := hno (fun h => c4 (by have := h.2.2.2.1; omega))
          have HX := hid hx
          subst c3
          have e4 : ((l : Int) == (k : Int)) = false := by rw [beq_eq_false_iff_ne]; exact c4
          have e5 : (l == k) = false := by rw [beq_eq_false_iff_ne]; omega
          clear hno hb hk hl ra rb hx hk3 c4
          go_enter Tryd.func8, Tryd.ntmps8
          go_wp2
          go_ret
          exact ⟨by rw [HF.out]; rfl, HX.out⟩
      · have HF := hno (fun h => c3 (by have := h.2.2.1; omega))
        have HX := hid hx
        have e3 : ((k : Int) == m) = false := by rw [beq_eq_false_iff_ne]; exact c3
        clear hno hb hk hl ra rb hx hk3 c3
        go_enter Tryd.func8, Tryd.ntmps8
        go_wp2
        go_ret
        exact ⟨by rw [HF.out]; rfl, HX.out⟩
end Go.Proofs.YtflgkijmbpcnfaaDoor
/- the reference's Twin: a copy of a map -/
namespace Go.Proofs.YtflgkijmbpcnfaaDoor
open Go.RowKit
/-- the slice reads as the values, out of a block from B on -/
def RdN (B : Nat) (w : World) (A : Option Addr) (vs : List Value) : Prop :=
  vs = [] ∨ ∃ b o, A = some ⟨b, o, none⟩ ∧ B ≤ b ∧ b < w.heap.size ∧ ∀ j u, vs[j]? = some u → w.cell? ⟨b, o + j, none⟩ = some u
theorem RdN.rd {B : Nat} {w : World} {A : Option Addr} {vs : List Value} (h : RdN B w A vs) : Rd w A vs := by
  rcases h with h | ⟨b, o, ha, -, hb, hc⟩
  · exact .inl h
  · exact .inr ⟨b, o, ha, hb, hc⟩
theorem RdN.ext {B : Nat} {w w' : World} {A : Option Addr} {vs : List Value} (h : RdN B w A vs) (e : Ext w w') : RdN B w' A vs := by
  rcases h with h | ⟨b, o, ha, hB, hb, hc⟩
  · exact .inl h
  · exact .inr ⟨b, o, ha, hB, Nat.lt_of_lt_of_le hb e.size, fun j u hu => (e.cell (p := ⟨b, o + j, none⟩) hb).trans (hc j u hu)⟩
theorem RdN.far {B : Nat} {w : World} {A : Option Addr} {vs : List Value} (h : RdN B w A vs) {p : Addr} (hp : p.block < B) (u : Value) : RdN B (w.setCell p u) A vs := by
  rcases h with h | ⟨b, o, ha, hB, hb, hc⟩
  · exact .inl h
  · refine .inr ⟨b, o, ha, hB, by rw [World.size_setCell]; exact hb, fun j v hv => ?_⟩
    rw [World.cell?_of_block (Below.heap_setCell w p u b (by omega))]
    exact hc j v hv
/-- a list appended to an empty one, as one step of a region that draws -/
theorem step_twin {P : Program} {ops : Array Oper} {o : Oper} {a : Act} {w : World} {K : Act → World → Prop} {Q : Exit → Act → World → Prop} {E : Prop}
    (hg : o.guard = none) (s x : Operand) (t : TypeId) (hop : o.op = Op.call { callee := Callee.builtin Builtin.append, args := #[s, x], argTypes := #[t, t] })
    (e : TypeId) (i : TypeInfo) (h1 : P.underlying t = some (.slice e)) (h2 : P.info? e = some i) (h3 : i.zero = some (.int .i64 0)) (h4 : i.size = 1) (h5 : i.bytes = 8)
    (b : Addr) (hs : a.eval s = .slice (some b) 0 0) (A : Option Addr) (k c : Nat) (hx : a.eval x = .slice A k c) (us : List Int) (hl : us.length = k) (hr : Rd w A (Is us)) (hb : k * 8 ≤ 140737488355328)
    (B0 : Nat) (hB0 : B0 ≤ w.heap.size)
    (hK : ∀ A' c' w', k ≤ c' → RdN B0 w' A' (Is us) → Ext w w' → K (a.put o.dst (.slice A' k c')) w') :
    if Region.wanted o (yielded ops a.tmps) = true then Oper.wp P o a w K Q else E := by
  rcases Nat.eq_zero_or_pos k with h0 | h0
  · subst h0
    have hw : Region.wanted o (yielded ops a.tmps) = true := by simp [Region.wanted, hg]
    rw [if_pos hw]
    have hsrc : Src P i.size t (.slice A 0 c) 0 [] w := by
      cases A with
      | none => exact Src.ofNil w h1 c
      | some ad => exact Src.ofSlice w h1 ad 0 c [] (by simp) (by simp) (by simp)
    have hrun := run_append_nothing (P := P) w t t o.type e i h1 h2 (some b) 0 0 (Nat.le_refl _) (.slice A 0 c) hsrc
    unfold Oper.wp
    simp [execOp, hop, resolve, invoke, builtin, hs, hx, hrun, Result.andThen]
    exact hK (some b) 0 w (Nat.le_refl _) (by rw [List.eq_nil_of_length_eq_zero hl]; exact .inl rfl) (Ext.rfl' w)
  · rcases hr with hn | ⟨g, off, rfl, hlt, hc⟩
    · rw [List.map_eq_nil_iff] at hn; subst hn; simp at hl; omega
    · refine step_append_grows hg s x t hop e i (.int .i64 0) 1 8 h1 h2 h3 h4 h5 rfl (by decide) (some b) 0 0 [] hs (fun h => by cases h) (by simp) (fun b' _ j u hu => by simp at hu) ⟨g, off, none⟩ k c (Is us) hx (by simp [hl]) (fun j u hu => ?_) (fun u hu => ?_) (by omega) (by unfold maxLen; omega) (by omega) ?_
      · have : (⟨g, off, none⟩ : Addr).add j = ⟨g, off + j, none⟩ := by unfold Addr.add; split <;> simp_all
        rw [this]; exact hc j u hu
      · obtain ⟨y, _, rfl⟩ := List.mem_map.1 hu; rfl
      · intro v' w' hown hgrow
        rw [Nat.zero_add, List.nil_append] at hown
        obtain ⟨g', cap, sp, rfl, hge, hcap, -⟩ := own_form hown (by omega)
        refine hK _ _ w' hcap ?_ ⟨hgrow.os, hgrow.tape, hgrow.output, hgrow.size, fun j hj => hgrow.block j hj (by simp)⟩
        rcases Rd.of_own hown with h | ⟨b1, o1, e1, hb1, hc1⟩
        · exact .inl h
        · refine .inr ⟨b1, o1, e1, ?_, hb1, hc1⟩
          cases e1
          omega
theorem infoI2 : (Tryd.prog.info? 3).map (fun i => (i.zero, i.size, i.bytes)) = some (some (.int .i64 0), 1, 8) := by kernel_rfl
set_option maxRecDepth 100000 in
set_option maxHeartbeats 3200000 in
theorem twin_any (v : Value) (m : Int) (us ad : List Int) (w : World) (hv : MapV w v m us ad) (h8 : Fit8 v) :
    Calls Tryd.prog 4 #[v] w (fun e w' => ∃ v2, e = .returned v2 ∧ MapV w' v2 m us ad ∧ Ext w w') := by
  obtain ⟨i0, hi, hz0, hz1, hz2⟩ := info_parts infoI2
  obtain ⟨A, n, cc, B, n2, d, rfl, h1, h2, h3, h4, h5, h6, h7, h9⟩ := hv
  obtain ⟨h8a, h8b⟩ := h8 _ _ _ _ _ _ _ rfl
  have hx : Ext w ((w.alloc (.cells #[.int .i64 m, .slice A n cc, .slice B n2 d] 24)).alloc (.cells #[.int .i64 0, .slice none 0 0, .slice none 0 0] 24)) := ((Ext.rfl' w).alloc' _).alloc' _
  have r1 : Row ((w.alloc (.cells #[.int .i64 m, .slice A n cc, .slice B n2 d] 24)).alloc (.cells #[.int .i64 0, .slice none 0 0, .slice none 0 0] 24)) w.heap.size 24 [.int .i64 m, .slice A n cc, .slice B n2 d] := (Row.new w _ _).alloc _
  have r2 : Row ((w.alloc (.cells #[.int .i64 m, .slice A n cc, .slice B n2 d] 24)).alloc (.cells #[.int .i64 0, .slice none 0 0, .slice none 0 0] 24)) (w.heap.size + 1) 24 [.int .i64 0, .slice none 0 0, .slice none 0 0] := by
    have := Row.new (w.alloc (.cells #[.int .i64 m, .slice A n cc, .slice B n2 d] 24)) 24 [.int .i64 0, .slice none 0 0, .slice none 0 0]
    rwa [World.size_alloc] at this
  obtain ⟨W2, hW2⟩ : ∃ W2, ((w.alloc (.cells #[.int .i64 m, .slice A n cc, .slice B n2 d] 24)).alloc (.cells #[.int .i64 0, .slice none 0 0, .slice none 0 0] 24)) = W2 := ⟨_, rfl⟩
  rw [hW2] at hx r1 r2
  have HW2 := hid hW2
  have HX := hid hx
  have R1 := hid r1
  have R2 := hid r2
  have HA := hid (h5.ext hx)
  have HB := hid (h6.ext hx)
  have H1 := hid h1
  have H3 := hid h3
  obtain ⟨f0, f1, f2, -, -, -⟩ := row_facts3 r1
  have hcur : Ext W2 W2 := Ext.rfl' _
  clear hW2 hx r1 r2 h5 h6 h1 h3 h8
  go_enter Tryd.func4, Tryd.ntmps4
  go_upto_region 1 with fail
  rw [HW2.out]
  go_wp2_with fail
  have HS : Hid (∀ W', Ext W2 W' → W'.cell? ⟨w.heap.size, 0, none⟩ = some (.int .i64 m) ∧ W'.cell? ⟨w.heap.size, 1, none⟩ = some (.slice A n cc) ∧ W'.cell? ⟨w.heap.size, 2, none⟩ = some (.slice B n2 d)) := hid (by
    intro W' e
    obtain ⟨p0, p1, p2, -, -, -⟩ := row_facts3 (R1.out.ext e)
    exact ⟨p0, p1, p2⟩)
  go_region_held3 (fun W' => W'.cell? ⟨w.heap.size, 0, none⟩ = some (.int .i64 m) ∧ W'.cell? ⟨w.heap.size, 1, none⟩ = some (.slice A n cc) ∧ W'.cell? ⟨w.heap.size, 2, none⟩ = some (.slice B n2 d))
    (first | exact HS.out _ hcur | exact HS.out _ hcur.drew' | exact HS.out _ (hcur.alloc' _) | exact HS.out _ (hcur.drew'.alloc' _) | exact HS.out _ ((hcur.alloc' _).alloc' _) | exact HS.out _ ((hcur.drew'.alloc' _).alloc' _) | go_keep)
    (first
      | (refine step_twin rfl (.tmp 5) (.tmp 7) 22 rfl 3 i0 Tryd.underlying22 hi hz0 hz1 hz2 _ (by simp only [Act.eval]; rfl) A n cc (by simp only [Act.eval]; rfl) us H1.out (HA.out.ext ?_) h8a W2.heap.size ?_ ?_; (first | exact hcur | exact hcur.drew' | exact hcur.alloc' _ | exact hcur.drew'.alloc' _ | exact (hcur.alloc' _).drew' | exact (hcur.alloc' _).alloc' _ | exact (hcur.drew'.alloc' _).alloc' _); (first | exact hcur.size | exact (hcur.alloc' _).size | exact (hcur.drew'.alloc' _).size | exact ((hcur.alloc' _).alloc' _).size | exact ((hcur.drew'.alloc' _).alloc' _).size); intro A5 c5 w5 hc5 hr5 hx; (first | have HR6 := hid (HR6.out.ext (by first | exact hx | exact Ext.undrew hx | exact Ext.step ((Ext.rfl' _).alloc' _) hx | exact Ext.step ((Ext.rfl' _).drew'.alloc' _) hx)) | skip); have HR5 := hid hr5; have hcur := Ext.step hcur (by first | exact hx | exact Ext.undrew hx | exact Ext.step ((Ext.rfl' _).alloc' _) hx | exact Ext.step ((Ext.rfl' _).drew'.alloc' _) hx | exact Ext.step (((Ext.rfl' _).alloc' _).alloc' _) hx | exact Ext.step (((Ext.rfl' _).drew'.alloc' _).alloc' _) hx); obtain ⟨z0, z1, z2, z3, z4, z5⟩ := row_facts3 (R2.out.ext hcur))
      | (refine step_twin rfl (.tmp 9) (.tmp 11) 22 rfl 3 i0 Tryd.underlying22 hi hz0 hz1 hz2 _ (by simp only [Act.eval]; rfl) B n2 d (by simp only [Act.eval]; rfl) ad H3.out (HB.out.ext ?_) h8b W2.heap.size ?_ ?_; (first | exact hcur | exact hcur.drew' | exact hcur.alloc' _ | exact hcur.drew'.alloc' _ | exact (hcur.alloc' _).drew' | exact (hcur.alloc' _).alloc' _ | exact (hcur.drew'.alloc' _).alloc' _); (first | exact hcur.size | exact (hcur.alloc' _).size | exact (hcur.drew'.alloc' _).size | exact ((hcur.alloc' _).alloc' _).size | exact ((hcur.drew'.alloc' _).alloc' _).size); intro A6 c6 w6 hc6 hr6 hx; (first | have HR5 := hid (HR5.out.ext (by first | exact hx | exact Ext.undrew hx | exact Ext.step ((Ext.rfl' _).alloc' _) hx | exact Ext.step ((Ext.rfl' _).drew'.alloc' _) hx)) | skip); have HR6 := hid hr6; have hcur := Ext.step hcur (by first | exact hx | exact Ext.undrew hx | exact Ext.step ((Ext.rfl' _).alloc' _) hx | exact Ext.step ((Ext.rfl' _).drew'.alloc' _) hx | exact Ext.step (((Ext.rfl' _).alloc' _).alloc' _) hx | exact Ext.step (((Ext.rfl' _).drew'.alloc' _).alloc' _) hx); obtain ⟨z0, z1, z2, z3, z4, z5⟩ := row_facts3 (R2.out.ext hcur)))
  all_goals
    have hfin : MapV _ (.agg #[.int .i64 m, .slice A5 n c5, .slice A6 n2 c6]) m us ad := ⟨A5, n, c5, A6, n2, c6, rfl, H1.out, hc5, H3.out, hc6, (((HR5.out.far (p := ⟨w.heap.size + 1, 0, none⟩) (by show w.heap.size + 1 < W2.heap.size; exact R2.out.lt) (.int .i64 m)).far (p := ⟨w.heap.size + 1, 1, none⟩) (by show w.heap.size + 1 < W2.heap.size; exact R2.out.lt) (.slice A5 n c5)).far (p := ⟨w.heap.size + 1, 2, none⟩) (by show w.heap.size + 1 < W2.heap.size; exact R2.out.lt) (.slice A6 n2 c6)).rd, (((HR6.out.far (p := ⟨w.heap.size + 1, 0, none⟩) (by show w.heap.size + 1 < W2.heap.size; exact R2.out.lt) (.int .i64 m)).far (p := ⟨w.heap.size + 1, 1, none⟩) (by show w.heap.size + 1 < W2.heap.size; exact R2.out.lt) (.slice A5 n c5)).far (p := ⟨w.heap.size + 1, 2, none⟩) (by show w.heap.size + 1 < W2.heap.size; exact R2.out.lt) (.slice A6 n2 c6)).rd, h7, h9⟩
    have hext := (HX.out.step hcur).set3 (H := w.heap.size + 1) (a := .int .i64 m) (b := .slice A5 n c5) (c := .slice A6 n2 c6) (by omega)
    have HF := hid hfin
    have HE := hid hext
    clear hfin hext
    go_wp2
    refine bodyPost_ret (v := .agg #[.int .i64 m, .slice A5 n c5, .slice A6 n2 c6]) (by simp [results, Tryd.results4, go_sem, z0, z1, z2]) rfl ⟨_, rfl, HF.out, HE.out⟩
end Go.Proofs.YtflgkijmbpcnfaaDoor
/- step.commonDivisor, step.Regular; the reference's Prime, Regular -/
namespace Go.Proofs.YtflgkijmbpcnfaaDoor
open Go.RowKit
/-- a regular map -/
def regB (m : Int) (us : List Int) : Bool := us.all fun u => decide (Nat.gcd u.natAbs m.natAbs ≤ 1)
theorem tmod_nat (x y : Nat) : (x : Int).tmod (y : Int) = ((x % y : Nat) : Int) := by rw [Int.tmod_eq_emod_of_nonneg (by omega)]; rfl
set_option maxRecDepth 100000 in
set_option maxHeartbeats 1600000 in
theorem commonDivisor_any (a b : Nat) (w : World) (ha : a ≤ 1000000) (hb : b ≤ 1000000) :
    Calls Tryd.prog 15 #[.int .i64 (a : Int), .int .i64 (b : Int)] w (fun e w' => e = .returned (.int .i64 ((Nat.gcd a b : Nat) : Int)) ∧ Ext w w') := by
  go_enter Tryd.func15, Tryd.ntmps15
  go_wp2_with fail
  go_loopg [0, 1] b (fun g av bv wr => ∃ x y : Nat, y = g ∧ x ≤ 1000000 ∧ y ≤ 1000000 ∧ av = .int .i64 (x : Int) ∧ bv = .int .i64 (y : Int) ∧ Hid (Nat.gcd x y = Nat.gcd a b) ∧ Ext w wr)
  case atStart => exact ⟨a, b, rfl, ha, hb, rfl, rfl, hid rfl, Ext.rfl' _⟩
  case round =>
    obtain ⟨x, y, rfl, hx, hy, rfl, rfl, HG, hex⟩ := hrel
    have HEX := hid hex
    clear hex
    by_cases hy0 : y = 0
    · subst hy0
      have HGX : Hid (x = Nat.gcd a b) := hid (by rw [← HG.out, Nat.gcd_zero_right])
      go_wp2
      go_ret
      exact ⟨by rw [← HGX.out]; rfl, HEX.out⟩
    · have hyp : (0 : Int) < (y : Int) := by omega
      have hyne : (y : Int) ≠ 0 := by omega
      have hyb : ((y : Int) == 0) = false := by rw [beq_eq_false_iff_ne]; exact hyne
      have HMD := hid (tmod_nat x y)
      have HLT : Hid (x % y < y) := hid (Nat.mod_lt _ (by omega))
      have HNX : Hid (Nat.gcd y (x % y) = Nat.gcd a b) := hid (by rw [← HG.out, Nat.gcd_comm y, Nat.gcd_comm x y]; exact (Nat.gcd_rec y x).symm)
      go_wp2_with fail
      first | (go_quiet (fail)) | (go_region)
      all_goals
        have HE2 := hid (HEX.out.drewN nq)
        go_wp2
        go_roundg (x % y)
        case measure => exact HLT.out
        case rel => exact ⟨y, x % y, rfl, hy, by have := HLT.out; omega, rfl, by rw [Int.natCast_emod], HNX, HE2.out⟩
set_option maxRecDepth 100000 in
set_option maxHeartbeats 1600000 in
theorem prime_any (a b : Nat) (w : World) (ha : a ≤ 1000000) (hb : b ≤ 1000000) (ha0 : 0 < a) (hb0 : 0 < b) :
    Calls Tryd.prog 19 #[.int .i64 (a : Int), .int .i64 (b : Int)] w (fun e w' => e = .returned (.bool (decide (Nat.gcd a b ≤ 1))) ∧ Ext w w') := by
  have hfin : ∀ dd : Nat, 2 ≤ dd → (∀ e, 2 ≤ e → e < dd → ¬ (a % e = 0 ∧ b % e = 0)) → (a < dd ∨ b < dd) → decide (Nat.gcd a b ≤ 1) = true := fun dd h2 hall hend => decide_eq_true (by
    rcases Nat.lt_or_ge 1 (Nat.gcd a b) with h | h
    · exfalso
      have h3 := Nat.gcd_dvd_left a b
      have h4 := Nat.gcd_dvd_right a b
      have h5 := Nat.le_of_dvd ha0 h3
      have h6 := Nat.le_of_dvd hb0 h4
      exact hall _ (by omega) (by omega) ⟨Nat.mod_eq_zero_of_dvd h3, Nat.mod_eq_zero_of_dvd h4⟩
    · exact h)
  have hno : ∀ dd : Nat, 2 ≤ dd → a % dd = 0 → b % dd = 0 → decide (Nat.gcd a b ≤ 1) = false := fun dd h2 h3 h4 => decide_eq_false (by
    have h5 := Nat.dvd_gcd (Nat.dvd_of_mod_eq_zero h3) (Nat.dvd_of_mod_eq_zero h4)
    have h6 := Nat.le_of_dvd (Nat.gcd_pos_of_pos_left b ha0) h5
    omega)
  have HFIN := hid hfin
  have HNO := hid hno
  clear hfin hno
  obtain ⟨r, hr⟩ : ∃ r, decide (Nat.gcd a b ≤ 1) = r := ⟨_, rfl⟩
  rw [hr]
  have HR := hid hr
  clear hr
  go_enter Tryd.func19, Tryd.ntmps19
  go_wp2_with fail
  go_loopg [5] (a + 1 - 2) (fun g dv wr => ∃ dd : Nat, 2 ≤ dd ∧ dd ≤ 1000001 ∧ g = a + 1 - dd ∧ dv = .int .i64 (dd : Int) ∧ Hid (∀ e, 2 ≤ e → e < dd → ¬ (a % e = 0 ∧ b % e = 0)) ∧ Ext w wr)
  case atStart => exact ⟨2, by omega, by omega, by omega, rfl, hid (fun e h1 h2 => by omega), Ext.rfl' _⟩
  case round =>
    obtain ⟨dd, h2, hdb, rfl, rfl, HALL, hex⟩ := hrel
    have HEX := hid hex
    clear hex
    have hd0 : ((dd : Int) == 0) = false := by rw [beq_eq_false_iff_ne]; omega
    have hd1 : (dd : Int) ≠ 0 := by omega
    have m1 := tmod_nat a dd
    have m2 := tmod_nat b dd
    by_cases ha1 : dd ≤ a
    · by_cases hb1 : dd ≤ b
      · have ha2 : (dd : Int) ≤ (a : Int) := by omega
        have hb2 : (dd : Int) ≤ (b : Int) := by omega
        have hw : IntKind.i64.wrap ((dd : Int) + 1) = (dd : Int) + 1 := IntWalk.i64_in _ (by omega)
        by_cases ea : a % dd = 0
        · have ea1 : ((a : Int) % (dd : Int) == 0) = true := by rw [beq_iff_eq, ← Int.natCast_emod, ea]; rfl
          by_cases eb : b % dd = 0
          · have eb1 : ((b : Int) % (dd : Int) == 0) = true := by rw [beq_iff_eq, ← Int.natCast_emod, eb]; rfl
            have HF : Hid (r = false) := hid (by rw [← HR.out]; exact HNO.out dd h2 ea eb)
            clear m1 m2 ea eb
            go_wp2
            go_ret
            exact ⟨by rw [HF.out]; rfl, HEX.out⟩
          · have eb1 : ((b : Int) % (dd : Int) == 0) = false := by rw [beq_eq_false_iff_ne, ← Int.natCast_emod]; omega
            have HNX : Hid (∀ e, 2 ≤ e → e < dd + 1 → ¬ (a % e = 0 ∧ b % e = 0)) := hid (fun e h1 h3 h4 => by
              rcases Nat.lt_or_ge e dd with h | h
              · exact HALL.out e h1 h h4
              · obtain rfl : e = dd := by omega
                exact eb h4.2)
            clear m1 m2 ea eb
            go_wp2
            go_roundg (a + 1 - (dd + 1))
            case measure => omega
            case rel => exact ⟨dd + 1, by omega, by omega, by omega, by simp, HNX, HEX.out⟩
        · have ea1 : ((a : Int) % (dd : Int) == 0) = false := by rw [beq_eq_false_iff_ne, ← Int.natCast_emod]; omega
          have HNX : Hid (∀ e, 2 ≤ e → e < dd + 1 → ¬ (a % e = 0 ∧ b % e = 0)) := hid (fun e h1 h3 h4 => by
            rcases Nat.lt_or_ge e dd with h | h
            · exact HALL.out e h1 h h4
            · obtain rfl : e = dd := by omega
              exact ea h4.1)
          clear m1 m2 ea
          go_wp2
          go_roundg (a + 1 - (dd + 1))
          case measure => omega
          case rel => exact ⟨dd + 1, by omega, by omega, by omega, by simp, HNX, HEX.out⟩
      · have HF : Hid (r = true) := hid (by rw [← HR.out]; exact HFIN.out dd h2 HALL.out (.inr (by omega)))
        have ha2 : (dd : Int) ≤ (a : Int) := by omega
        have hb2 : ¬ (dd : Int) ≤ (b : Int) := by omega
        go_wp2
        go_ret
        exact ⟨by rw [HF.out]; rfl, HEX.out⟩
    · have HF : Hid (r = true) := hid (by rw [← HR.out]; exact HFIN.out dd h2 HALL.out (.inl (by omega)))
      have ha2 : ¬ (dd : Int) ≤ (a : Int) := by omega
      go_wp2
      go_ret
      exact ⟨by rw [HF.out]; rfl, HEX.out⟩
theorem commonDivisor_int (a b : Int) (w : World) (ha : 0 ≤ a) (ha2 : a ≤ 1000000) (hb : 0 ≤ b) (hb2 : b ≤ 1000000) :
    Calls Tryd.prog 15 #[.int .i64 a, .int .i64 b] w (fun e w' => e = .returned (.int .i64 ((Nat.gcd a.natAbs b.natAbs : Nat) : Int)) ∧ Ext w w') := by
  obtain ⟨x, rfl⟩ : ∃ x : Nat, a = (x : Int) := ⟨a.toNat, by omega⟩
  obtain ⟨y, rfl⟩ : ∃ y : Nat, b = (y : Int) := ⟨b.toNat, by omega⟩
  exact commonDivisor_any x y w (by omega) (by omega)
theorem prime_int (a b : Int) (w : World) (ha : 0 < a) (ha2 : a ≤ 1000000) (hb : 0 < b) (hb2 : b ≤ 1000000) :
    Calls Tryd.prog 19 #[.int .i64 a, .int .i64 b] w (fun e w' => e = .returned (.bool (decide (Nat.gcd a.natAbs b.natAbs ≤ 1))) ∧ Ext w w') := by
  obtain ⟨x, rfl⟩ : ∃ x : Nat, a = (x : Int) := ⟨a.toNat, by omega⟩
  obtain ⟨y, rfl⟩ : ∃ y : Nat, b = (y : Int) := ⟨b.toNat, by omega⟩
  exact prime_any x y w (by omega) (by omega) (by omega) (by omega)
theorem regB_no {m : Int} {us : List Int} {j : Nat} (hj : j < us.length) (h : ¬ Nat.gcd (us.getD j 0).natAbs m.natAbs ≤ 1) : regB m us = false := by
  unfold regB
  rw [List.all_eq_false]
  refine ⟨us.getD j 0, ?_, by simpa using h⟩
  rw [List.getD_eq_getElem?_getD, List.getElem?_eq_getElem hj]
  exact List.getElem_mem hj
theorem regB_yes {m : Int} {us : List Int} (h : ∀ j, j < us.length → Nat.gcd (us.getD j 0).natAbs m.natAbs ≤ 1) : regB m us = true := by
  unfold regB
  rw [List.all_eq_true]
  intro u hu
  obtain ⟨j, hj, rfl⟩ := List.getElem_of_mem hu
  have := h j hj
  rw [List.getD_eq_getElem?_getD, List.getElem?_eq_getElem hj] at this
  simpa using this
set_option maxRecDepth 100000 in
set_option maxHeartbeats 3200000 in
theorem regular_ok (v : Value) (m : Int) (us ad : List Int) (w : World) (hv : MapV w v m us ad) (hM : Hid (mapP m us ad)) :
    Calls Tryd.prog 5 #[v] w (fun e w' => e = .returned (.tuple #[.bool (regB m us), .int .i64 0]) ∧ Ext w w') := by
  have HV := hid hv
  obtain ⟨A, n, cc, B, n2, d, rfl, h1, h2, h3, h4, h5, h6, h7, h9⟩ := hv
  obtain ⟨dm, hdm⟩ : ∃ dm : Nat, m = (dm : Int) := ⟨m.toNat, by have := hM.out.1; omega⟩
  have HDM := hid hdm
  have HMB := hid (show 2 ≤ m ∧ m ≤ 12 from ⟨hM.out.1, hM.out.2.1⟩)
  have HNM : Hid ((n : Int) = m) := hid (by have := hM.out.2.2.1; omega)
  obtain ⟨r, hr⟩ : ∃ r, regB m us = r := ⟨_, rfl⟩
  rw [hr]
  have HRB := hid hr
  have hx : Ext w (w.alloc (.cells #[.int .i64 m, .slice A n cc, .slice B n2 d] 24)) := (Ext.rfl' w).alloc' _
  have hrw : Row (w.alloc (.cells #[.int .i64 m, .slice A n cc, .slice B n2 d] 24)) w.heap.size 24 [.int .i64 m, .slice A n cc, .slice B n2 d] := Row.new w _ _
  obtain ⟨W1, hW1⟩ : ∃ W1, (w.alloc (.cells #[.int .i64 m, .slice A n cc, .slice B n2 d] 24)) = W1 := ⟨_, rfl⟩
  rw [hW1] at hx hrw
  have HX := hid hx
  have HR := hid hrw
  have HW1 := hid hW1
  have HA := hid (h5.ext hx)
  have HL := hid h1
  obtain ⟨f0, f1, f2, -, -, -⟩ := row_facts3 hrw
  clear hW1 hx hrw h5 h6 h1 h3 hdm hr
  go_enter Tryd.func5, Tryd.ntmps5
  go_upto_region 1 with fail
  rw [HW1.out]
  go_wp2_with fail
  refine (stepvalid_any _ m us ad W1 (HV.out.ext HX.out) (hid ((mapB_iff m us ad).2 hM.out))).mono ?_
  rintro e w2 ⟨rfl, hx2⟩
  have HX2 := hid hx2
  clear f0 f1 f2 hx2
  obtain ⟨f0, f1, f2, -, -, -⟩ := row_facts3 (HR.out.ext HX2.out)
  go_wp2_with fail
  go_loopw [12] (fun iz wr => ∃ j : Nat, j ≤ n ∧ iz = .int .i64 (j : Int) ∧ Hid (∀ i, i < j → Nat.gcd (us.getD i 0).natAbs m.natAbs ≤ 1) ∧ Ext w2 wr) (fun iz _ => n - (intOf iz).toNat)
  case atStart => exact ⟨0, by omega, rfl, hid (fun i hi => by omega), Ext.rfl' _⟩
  case round =>
    obtain ⟨j, hj, rfl, HALL, hex⟩ := hrel
    have HEX := hid hex
    have HEW := hid (HX.out.step (HX2.out.step hex))
    clear f0 f1 f2
    obtain ⟨f0, f1, f2, -, -, -⟩ := row_facts3 (HR.out.ext (HX2.out.step HEX.out))
    clear hex
    by_cases hlt : j < n
    · obtain ⟨b1, o1, e1, -, hc1⟩ := (HA.out.ext (HX2.out.step HEX.out)).atI (k := j) (by rw [HL.out]; exact hlt)
      subst e1
      have hrule := hM.out.2.2.2.2 j (by rw [HL.out]; exact hlt)
      obtain ⟨u, hu⟩ : ∃ u, us.getD j 0 = u := ⟨_, rfl⟩
      rw [hu] at hc1 hrule
      have HU := hid hu
      have HRU := hid (show 1 ≤ u ∧ u ≤ 999 from ⟨hrule.1, hrule.2.1⟩)
      obtain ⟨gg, hgg⟩ : ∃ gg : Nat, Nat.gcd u.natAbs m.natAbs = gg := ⟨_, rfl⟩
      have HGG := hid hgg
      clear hu hrule hgg
      have hjn : (j : Int) < (n : Int) := by omega
      go_wp2_with fail
      refine (commonDivisor_int u m wr (by have := HRU.out; omega) (by have := HRU.out; omega) (by have := HMB.out; omega) (by have := HMB.out; omega)).mono ?_
      rintro e w5 ⟨rfl, hx5⟩
      rw [HGG.out]
      have HX5 := hid (HEX.out.step hx5)
      have HW5 := hid (HEW.out.step hx5)
      clear f0 f1 f2 hc1 hx5
      by_cases hg : gg ≤ 1
      · have hgi : ¬ (1 : Int) < (gg : Int) := by omega
        have HNX : Hid (∀ i, i < j + 1 → Nat.gcd (us.getD i 0).natAbs m.natAbs ≤ 1) := hid (fun i hi => by
          rcases Nat.lt_or_ge i j with h | h
          · exact HALL.out i h
          · obtain rfl : i = j := by omega
            rw [HU.out, HGG.out]; exact hg)
        go_wp2
        go_roundw
        case rel => exact ⟨j + 1, by omega, by simp, HNX, HX5.out⟩
        case measure => first | (simp [intOf]; done) | (simp [intOf]; omega)
      · have hgi : (1 : Int) < (gg : Int) := by omega
        have HF : Hid (r = false) := hid (by rw [← HRB.out]; exact regB_no (j := j) (by rw [HL.out]; exact hlt) (by rw [HU.out, HGG.out]; exact hg))
        go_wp2
        go_ret2
        exact ⟨by rw [HF.out]; rfl, HW5.out⟩
    · obtain rfl : j = n := by omega
      have HF : Hid (r = true) := hid (by rw [← HRB.out]; exact regB_yes (fun i hi => HALL.out i (by rw [HL.out] at hi; exact hi)))
      go_wp2
      go_ret2
      exact ⟨by rw [HF.out]; rfl, HEW.out⟩
set_option maxRecDepth 100000 in
set_option maxHeartbeats 1600000 in
theorem regular_bad (v : Value) (m : Int) (us ad : List Int) (w : World) (hv : MapV w v m us ad) (hM : Hid (mapB m us ad = false)) :
    Calls Tryd.prog 5 #[v] w (fun e w' => e = .returned (.tuple #[.bool false, .int .i64 1]) ∧ Ext w w') := by
  have HV := hid hv
  obtain ⟨A, n, cc, B, n2, d, rfl, -⟩ := hv
  have hx : Ext w (w.alloc (.cells #[.int .i64 m, .slice A n cc, .slice B n2 d] 24)) := (Ext.rfl' w).alloc' _
  obtain ⟨f0, f1, f2, -⟩ := three_facts (Ext.rfl' (w.alloc (.cells #[.int .i64 m, .slice A n cc, .slice B n2 d] 24))) rfl
  obtain ⟨W1, hW1⟩ : ∃ W1, (w.alloc (.cells #[.int .i64 m, .slice A n cc, .slice B n2 d] 24)) = W1 := ⟨_, rfl⟩
  rw [hW1] at hx f0 f1 f2
  have HX := hid hx
  have HW1 := hid hW1
  clear hW1 hx
  go_enter Tryd.func5, Tryd.ntmps5
  go_upto_region 1 with fail
  rw [HW1.out]
  go_wp2_with fail
  refine (stepvalid_any _ m us ad W1 (HV.out.ext HX.out) hM).mono ?_
  rintro e w2 ⟨rfl, hx2⟩
  have HY := hid (HX.out.step hx2)
  clear f0 f1 f2 hx2
  go_wp2
  go_ret2
  exact ⟨rfl, HY.out⟩
set_option maxRecDepth 100000 in
set_option maxHeartbeats 3200000 in
theorem rregular_any (v : Value) (m : Int) (us ad : List Int) (w : World) (hv : MapV w v m us ad) (hM : Hid (mapP m us ad)) :
    Calls Tryd.prog 10 #[v] w (fun e w' => e = .returned (.bool (regB m us)) ∧ Ext w w') := by
  obtain ⟨A, n, cc, B, n2, d, rfl, h1, h2, h3, h4, h5, h6, h7, h9⟩ := hv
  have HMB := hid (show 2 ≤ m ∧ m ≤ 12 from ⟨hM.out.1, hM.out.2.1⟩)
  have HNM : Hid ((n : Int) = m) := hid (by have := hM.out.2.2.1; omega)
  obtain ⟨r, hr⟩ : ∃ r, regB m us = r := ⟨_, rfl⟩
  rw [hr]
  have HRB := hid hr
  have hx : Ext w (w.alloc (.cells #[.int .i64 m, .slice A n cc, .slice B n2 d] 24)) := (Ext.rfl' w).alloc' _
  have hrw : Row (w.alloc (.cells #[.int .i64 m, .slice A n cc, .slice B n2 d] 24)) w.heap.size 24 [.int .i64 m, .slice A n cc, .slice B n2 d] := Row.new w _ _
  obtain ⟨W1, hW1⟩ : ∃ W1, (w.alloc (.cells #[.int .i64 m, .slice A n cc, .slice B n2 d] 24)) = W1 := ⟨_, rfl⟩
  rw [hW1] at hx hrw
  have HX := hid hx
  have HR := hid hrw
  have HW1 := hid hW1
  have HA := hid (h5.ext hx)
  have HL := hid h1
  clear hW1 hx hrw h5 h6 h1 h3 hr
  go_enter Tryd.func10, Tryd.ntmps10
  go_upto_region 1 with fail
  rw [HW1.out]
  go_wp2_with fail
  go_loopw [3] (fun iz wr => ∃ j : Nat, j ≤ n ∧ iz = .int .i64 (j : Int) ∧ Hid (∀ i, i < j → Nat.gcd (us.getD i 0).natAbs m.natAbs ≤ 1) ∧ Ext W1 wr) (fun iz _ => n - (intOf iz).toNat)
  case atStart => exact ⟨0, by omega, rfl, hid (fun i hi => by omega), Ext.rfl' _⟩
  case round =>
    obtain ⟨j, hj, rfl, HALL, hex⟩ := hrel
    have HEX := hid hex
    have HEW := hid (HX.out.step hex)
    obtain ⟨f0, f1, f2, -, -, -⟩ := row_facts3 (HR.out.ext HEX.out)
    clear hex
    by_cases hlt : j < n
    · obtain ⟨b1, o1, e1, -, hc1⟩ := (HA.out.ext HEX.out).atI (k := j) (by rw [HL.out]; exact hlt)
      subst e1
      have hrule := hM.out.2.2.2.2 j (by rw [HL.out]; exact hlt)
      obtain ⟨u, hu⟩ : ∃ u, us.getD j 0 = u := ⟨_, rfl⟩
      rw [hu] at hc1 hrule
      have HU := hid hu
      have HRU := hid (show 1 ≤ u ∧ u ≤ 999 from ⟨hrule.1, hrule.2.1⟩)
      have HCELL : Hid (∀ W', Ext wr W' → W'.cell? ⟨w.heap.size, 0, none⟩ = some (.int .i64 m) ∧ W'.cell? ⟨w.heap.size, 1, none⟩ = some (.slice (some ⟨b1, o1, none⟩) n cc) ∧ W'.cell? ⟨b1, o1 + j, none⟩ = some (.int .i64 u)) := hid (fun W' e => by
        obtain ⟨p0, p1, -, -, -, -⟩ := row_facts3 (HR.out.ext (HEX.out.step e))
        obtain ⟨b2, o2, e2, -, hc2⟩ := (HA.out.ext (HEX.out.step e)).atI (k := j) (by rw [HL.out]; exact hlt)
        cases e2
        rw [HU.out] at hc2
        exact ⟨p0, p1, hc2⟩)
      have hcur : Ext wr wr := Ext.rfl' _
      clear hu hrule hc1
      have hjn : (j : Int) < (n : Int) := by omega
      have hjm : (j : Int) < m := by have := HNM.out; omega
      have hj0 : (0 : Int) ≤ (j : Int) := by omega
      obtain ⟨gb, hgb⟩ : ∃ gb, decide (Nat.gcd u.natAbs m.natAbs ≤ 1) = gb := ⟨_, rfl⟩
      have HGB := hid hgb
      clear hgb
      go_wp2_with fail
      go_region_held3 (fun W' => W'.cell? ⟨w.heap.size, 0, none⟩ = some (.int .i64 m) ∧ W'.cell? ⟨w.heap.size, 1, none⟩ = some (.slice (some ⟨b1, o1, none⟩) n cc) ∧ W'.cell? ⟨b1, o1 + j, none⟩ = some (.int .i64 u))
        (first | exact HCELL.out _ hcur | exact HCELL.out _ hcur.drew' | exact HCELL.out _ (hcur.alloc' _) | exact HCELL.out _ (hcur.drew'.alloc' _) | exact HCELL.out _ ((hcur.set' HB2.out.1 _).set' HB2.out.1 _) | go_keep)
        (first
          | (go_at_call 19; refine (prime_int u m _ (by have := HRU.out; omega) (by have := HRU.out; omega) (by have := HMB.out; omega) (by have := HMB.out; omega)).mono ?_; rintro e w5 ⟨rfl, hx⟩; rw [HGB.out]; have hcur := Ext.step hcur (by first | exact hx | exact Ext.undrew hx | exact Ext.step ((Ext.rfl' _).alloc' _) hx | exact Ext.step ((Ext.rfl' _).drew'.alloc' _) hx)))
      all_goals
        have HX5 := hid (HEX.out.step hcur)
        have HW5 := hid (HEW.out.step hcur)
        clear f0 f1 f2 hcur
        cases gb with
        | true =>
          have HNX : Hid (∀ i, i < j + 1 → Nat.gcd (us.getD i 0).natAbs m.natAbs ≤ 1) := hid (fun i hi => by
            rcases Nat.lt_or_ge i j with h | h
            · exact HALL.out i h
            · obtain rfl : i = j := by omega
              rw [HU.out]; exact of_decide_eq_true HGB.out)
          go_wp2
          go_roundw
          case rel => exact ⟨j + 1, by omega, by simp, HNX, HX5.out⟩
          case measure => first | (simp [intOf]; done) | (simp [intOf]; omega)
        | false =>
          have HF : Hid (r = false) := hid (by rw [← HRB.out]; exact regB_no (j := j) (by rw [HL.out]; exact hlt) (by rw [HU.out]; exact of_decide_eq_false HGB.out))
          go_wp2
          go_ret
          exact ⟨by rw [HF.out]; rfl, HW5.out⟩
    · obtain rfl : j = n := by omega
      have hjm : ¬ (j : Int) < m := by have := HNM.out; omega
      have HF : Hid (r = true) := hid (by rw [← HRB.out]; exact regB_yes (fun i hi => HALL.out i (by rw [HL.out] at hi; exact hi)))
      go_wp2
      go_ret
      exact ⟨by rw [HF.out]; rfl, HEW.out⟩
end Go.Proofs.YtflgkijmbpcnfaaDoor
/- the law StepMaps -/
namespace Go.Proofs.YtflgkijmbpcnfaaDoor
open Go.RowKit
/-- the numbers of a kin -/
def kinP (q c : Int) : Prop := q % 2 ≠ 0 ∧ c % 2 ≠ 0 ∧ 1 ≤ q ∧ q ≤ 999 ∧ -999999 ≤ c ∧ c ≤ 999999
instance (q c : Int) : Decidable (kinP q c) := by unfold kinP; infer_instance
theorem kin_map {q c : Int} (h : kinP q c) : mapP 2 [1, q] [0, c] := by
  obtain ⟨h1, h2, h3, h4, h5, h6⟩ := h
  refine ⟨by omega, by omega, rfl, rfl, fun r hr => ?_⟩
  have hr2 : r = 0 ∨ r = 1 := by simp at hr; omega
  rcases hr2 with rfl | rfl
  · exact ⟨by simp, by simp, by simp, by simp, by simp⟩
  · refine ⟨by simpa using h3, by simpa using h4, by simpa using h5, by simpa using h6, ?_⟩
    show (q * ((1 : Nat) : Int) + c) % 2 = 0
    omega
theorem tmod2 (q : Int) : (q.tmod 2 = 0) ↔ q % 2 = 0 := tmod_zero
theorem MapV.zero (w : World) : MapV w (.agg #[.int .i64 0, .slice none 0 0, .slice none 0 0]) 0 [] [] := ⟨none, 0, 0, none, 0, 0, rfl, rfl, Nat.le_refl _, rfl, Nat.le_refl _, Rd.nil _ _, Rd.nil _ _, by omega, by omega⟩
def KinNo (f : Value) (w : World) (e : Ending) (w' : World) : Prop := e = .returned (.tuple #[.agg #[.int .i64 0, .slice none 0 0, .slice none 0 0], f]) ∧ Ext w w'
set_option maxRecDepth 100000 in
set_option maxHeartbeats 1600000 in
theorem stepKin_bad (q c : Int) (w : World) (hk : ¬ kinP q c) : Calls Tryd.prog 6 #[.int .i64 q, .int .i64 c] w (KinNo (.int .i64 2) w) := by
  have h0 := Row.new w 24 [.int .i64 0, .slice none 0 0, .slice none 0 0]
  have HF : Hid (Ext w (((( w.alloc (.cells #[.int .i64 0, .slice none 0 0, .slice none 0 0] 24)).setCell ⟨w.heap.size, 0, none⟩ (.int .i64 0)).setCell ⟨w.heap.size, 1, none⟩ (.slice none 0 0)).setCell ⟨w.heap.size, 2, none⟩ (.slice none 0 0))) := hid (((Ext.rfl' w).alloc' _).set3 (Nat.le_refl _))
  have HA : Hid (Ext w (w.alloc (.cells #[.int .i64 0, .slice none 0 0, .slice none 0 0] 24))) := hid ((Ext.rfl' w).alloc' _)
  clear h0
  by_cases h_q2 : q % 2 = 0
  · have a_q2 : (q.tmod 2 == 0) = true := by rw [beq_iff_eq]; exact (tmod2 q).2 h_q2
    have b_q2 : (q % 2 == 0) = true := by rw [beq_iff_eq]; exact h_q2
    clear hk
    go_enter Tryd.func6, Tryd.ntmps6
    go_wp2
    refine bodyPost_ret (v := .tuple #[.agg #[.int .i64 0, .slice none 0 0, .slice none 0 0], .int .i64 2]) (by simp [results, Tryd.results6, go_sem]) rfl ⟨rfl, ?_⟩
    first | exact HF.out | exact HA.out
  · have a_q2 : (q.tmod 2 == 0) = false := by rw [beq_eq_false_iff_ne]; exact fun e => h_q2 ((tmod2 q).1 e)
    have b_q2 : (q % 2 == 0) = false := by rw [beq_eq_false_iff_ne]; exact h_q2
    by_cases h_c2 : c % 2 = 0
    · have a_c2 : (c.tmod 2 == 0) = true := by rw [beq_iff_eq]; exact (tmod2 c).2 h_c2
      have b_c2 : (c % 2 == 0) = true := by rw [beq_iff_eq]; exact h_c2
      clear hk
      go_enter Tryd.func6, Tryd.ntmps6
      go_wp2
      refine bodyPost_ret (v := .tuple #[.agg #[.int .i64 0, .slice none 0 0, .slice none 0 0], .int .i64 2]) (by simp [results, Tryd.results6, go_sem]) rfl ⟨rfl, ?_⟩
      first | exact HF.out | exact HA.out
    · have a_c2 : (c.tmod 2 == 0) = false := by rw [beq_eq_false_iff_ne]; exact fun e => h_c2 ((tmod2 c).1 e)
      have b_c2 : (c % 2 == 0) = false := by rw [beq_eq_false_iff_ne]; exact h_c2
      by_cases h_ql : q < 1
      · clear hk
        go_enter Tryd.func6, Tryd.ntmps6
        go_wp2
        refine bodyPost_ret (v := .tuple #[.agg #[.int .i64 0, .slice none 0 0, .slice none 0 0], .int .i64 2]) (by simp [results, Tryd.results6, go_sem]) rfl ⟨rfl, ?_⟩
        first | exact HF.out | exact HA.out
      · skip
        by_cases h_qh : 999 < q
        · clear hk
          go_enter Tryd.func6, Tryd.ntmps6
          go_wp2
          refine bodyPost_ret (v := .tuple #[.agg #[.int .i64 0, .slice none 0 0, .slice none 0 0], .int .i64 2]) (by simp [results, Tryd.results6, go_sem]) rfl ⟨rfl, ?_⟩
          first | exact HF.out | exact HA.out
        · skip
          by_cases h_cl : c < -999999
          · clear hk
            go_enter Tryd.func6, Tryd.ntmps6
            go_wp2
            refine bodyPost_ret (v := .tuple #[.agg #[.int .i64 0, .slice none 0 0, .slice none 0 0], .int .i64 2]) (by simp [results, Tryd.results6, go_sem]) rfl ⟨rfl, ?_⟩
            first | exact HF.out | exact HA.out
          · skip
            by_cases h_ch : 999999 < c
            · clear hk
              go_enter Tryd.func6, Tryd.ntmps6
              go_wp2
              refine bodyPost_ret (v := .tuple #[.agg #[.int .i64 0, .slice none 0 0, .slice none 0 0], .int .i64 2]) (by simp [results, Tryd.results6, go_sem]) rfl ⟨rfl, ?_⟩
              first | exact HF.out | exact HA.out
            · skip
              exact absurd ⟨by omega, by omega, by omega, by omega, by omega, by omega⟩ hk
set_option maxRecDepth 100000 in
set_option maxHeartbeats 1600000 in
theorem rKin_no (q c : Int) (w : World) (hk : ¬ kinP q c) : Calls Tryd.prog 11 #[.int .i64 q, .int .i64 c] w (KinNo (.bool false) w) := by
  have h0 := Row.new w 24 [.int .i64 0, .slice none 0 0, .slice none 0 0]
  have HF : Hid (Ext w (((( w.alloc (.cells #[.int .i64 0, .slice none 0 0, .slice none 0 0] 24)).setCell ⟨w.heap.size, 0, none⟩ (.int .i64 0)).setCell ⟨w.heap.size, 1, none⟩ (.slice none 0 0)).setCell ⟨w.heap.size, 2, none⟩ (.slice none 0 0))) := hid (((Ext.rfl' w).alloc' _).set3 (Nat.le_refl _))
  have HA : Hid (Ext w (w.alloc (.cells #[.int .i64 0, .slice none 0 0, .slice none 0 0] 24))) := hid ((Ext.rfl' w).alloc' _)
  clear h0
  by_cases h_ql : q < 1
  · clear hk
    go_enter Tryd.func11, Tryd.ntmps11
    go_wp2
    refine bodyPost_ret (v := .tuple #[.agg #[.int .i64 0, .slice none 0 0, .slice none 0 0], .bool false]) (by simp [results, Tryd.results11, go_sem]) rfl ⟨rfl, ?_⟩
    first | exact HF.out | exact HA.out
  · skip
    by_cases h_qh : 999 < q
    · clear hk
      go_enter Tryd.func11, Tryd.ntmps11
      go_wp2
      refine bodyPost_ret (v := .tuple #[.agg #[.int .i64 0, .slice none 0 0, .slice none 0 0], .bool false]) (by simp [results, Tryd.results11, go_sem]) rfl ⟨rfl, ?_⟩
      first | exact HF.out | exact HA.out
    · skip
      by_cases h_cl : c < -999999
      · clear hk
        go_enter Tryd.func11, Tryd.ntmps11
        go_wp2
        refine bodyPost_ret (v := .tuple #[.agg #[.int .i64 0, .slice none 0 0, .slice none 0 0], .bool false]) (by simp [results, Tryd.results11, go_sem]) rfl ⟨rfl, ?_⟩
        first | exact HF.out | exact HA.out
      · skip
        by_cases h_ch : 999999 < c
        · clear hk
          go_enter Tryd.func11, Tryd.ntmps11
          go_wp2
          refine bodyPost_ret (v := .tuple #[.agg #[.int .i64 0, .slice none 0 0, .slice none 0 0], .bool false]) (by simp [results, Tryd.results11, go_sem]) rfl ⟨rfl, ?_⟩
          first | exact HF.out | exact HA.out
        · skip
          by_cases h_q2 : q % 2 = 0
          · have a_q2 : (q.tmod 2 == 0) = true := by rw [beq_iff_eq]; exact (tmod2 q).2 h_q2
            have b_q2 : (q % 2 == 0) = true := by rw [beq_iff_eq]; exact h_q2
            clear hk
            go_enter Tryd.func11, Tryd.ntmps11
            go_wp2
            refine bodyPost_ret (v := .tuple #[.agg #[.int .i64 0, .slice none 0 0, .slice none 0 0], .bool false]) (by simp [results, Tryd.results11, go_sem]) rfl ⟨rfl, ?_⟩
            first | exact HF.out | exact HA.out
          · have a_q2 : (q.tmod 2 == 0) = false := by rw [beq_eq_false_iff_ne]; exact fun e => h_q2 ((tmod2 q).1 e)
            have b_q2 : (q % 2 == 0) = false := by rw [beq_eq_false_iff_ne]; exact h_q2
            by_cases h_c2 : c % 2 = 0
            · have a_c2 : (c.tmod 2 == 0) = true := by rw [beq_iff_eq]; exact (tmod2 c).2 h_c2
              have b_c2 : (c % 2 == 0) = true := by rw [beq_iff_eq]; exact h_c2
              clear hk
              go_enter Tryd.func11, Tryd.ntmps11
              go_wp2
              refine bodyPost_ret (v := .tuple #[.agg #[.int .i64 0, .slice none 0 0, .slice none 0 0], .bool false]) (by simp [results, Tryd.results11, go_sem]) rfl ⟨rfl, ?_⟩
              first | exact HF.out | exact HA.out
            · have a_c2 : (c.tmod 2 == 0) = false := by rw [beq_eq_false_iff_ne]; exact fun e => h_c2 ((tmod2 c).1 e)
              have b_c2 : (c % 2 == 0) = false := by rw [beq_eq_false_iff_ne]; exact h_c2
              exact absurd ⟨by omega, by omega, by omega, by omega, by omega, by omega⟩ hk
def RKinYes (q c : Int) (w : World) (e : Ending) (w' : World) : Prop := ∃ v, e = .returned (.tuple #[v, .bool true]) ∧ MapNew 2 [1, q] [0, c] w.heap.size v w' ∧ Ext w w'
set_option maxRecDepth 100000 in
set_option maxHeartbeats 1600000 in
theorem rKin_yes (q c : Int) (w : World) (hk : kinP q c) : Calls Tryd.prog 11 #[.int .i64 q, .int .i64 c] w (RKinYes q c w) := by
  obtain ⟨h1, h2, h3, h4, h5, h6⟩ := hk
  have k1 : Row (((w.alloc (.cells #[.int .i64 2, .slice (some ⟨w.heap.size + 1, 0, none⟩) 2 2, .slice (some ⟨w.heap.size + 1 + 1, 0, none⟩) 2 2] 24)).alloc (.cells #[.int .i64 1, .int .i64 q] 3)).alloc (.cells #[.int .i64 0, .int .i64 c] 3)) (w.heap.size + 1) 3 (Is [1, q]) := by
    have := (Row.new (w.alloc (.cells #[.int .i64 2, .slice (some ⟨w.heap.size + 1, 0, none⟩) 2 2, .slice (some ⟨w.heap.size + 1 + 1, 0, none⟩) 2 2] 24)) 3 [.int .i64 1, .int .i64 q]).alloc (.cells #[.int .i64 0, .int .i64 c] 3)
    rwa [World.size_alloc] at this
  have k2 : Row (((w.alloc (.cells #[.int .i64 2, .slice (some ⟨w.heap.size + 1, 0, none⟩) 2 2, .slice (some ⟨w.heap.size + 1 + 1, 0, none⟩) 2 2] 24)).alloc (.cells #[.int .i64 1, .int .i64 q] 3)).alloc (.cells #[.int .i64 0, .int .i64 c] 3)) (w.heap.size + 1 + 1) 3 (Is [0, c]) := by
    have := Row.new ((w.alloc (.cells #[.int .i64 2, .slice (some ⟨w.heap.size + 1, 0, none⟩) 2 2, .slice (some ⟨w.heap.size + 1 + 1, 0, none⟩) 2 2] 24)).alloc (.cells #[.int .i64 1, .int .i64 q] 3)) 3 [.int .i64 0, .int .i64 c]
    rwa [World.size_alloc, World.size_alloc] at this
  have HF : Hid (RKinYes q c w (.returned (.tuple #[.agg #[.int .i64 2, .slice (some ⟨w.heap.size + 1, 0, none⟩) 2 2, .slice (some ⟨w.heap.size + 1 + 1, 0, none⟩) 2 2], .bool true])) (((w.alloc (.cells #[.int .i64 2, .slice (some ⟨w.heap.size + 1, 0, none⟩) 2 2, .slice (some ⟨w.heap.size + 1 + 1, 0, none⟩) 2 2] 24)).alloc (.cells #[.int .i64 1, .int .i64 q] 3)).alloc (.cells #[.int .i64 0, .int .i64 c] 3))) := hid ⟨_, rfl, ⟨_, _, _, rfl, k1, k2, by omega, by omega, rfl, rfl, by omega⟩, (((Ext.rfl' w).alloc' _).alloc' _).alloc' _⟩
  have a1 : (q.tmod 2 == 0) = false := by rw [beq_eq_false_iff_ne]; exact fun e => h1 ((tmod2 q).1 e)
  have a2 : (q % 2 == 0) = false := by rw [beq_eq_false_iff_ne]; exact h1
  have a3 : (c.tmod 2 == 0) = false := by rw [beq_eq_false_iff_ne]; exact fun e => h2 ((tmod2 c).1 e)
  have a4 : (c % 2 == 0) = false := by rw [beq_eq_false_iff_ne]; exact h2
  clear k1 k2 h1 h2
  go_enter Tryd.func11, Tryd.ntmps11
  go_wp2
  refine bodyPost_ret (v := .tuple #[.agg #[.int .i64 2, .slice (some ⟨w.heap.size + 1, 0, none⟩) 2 2, .slice (some ⟨w.heap.size + 1 + 1, 0, none⟩) 2 2], .bool true]) (by simp [results, Tryd.results11, go_sem]) rfl HF.out
end Go.Proofs.YtflgkijmbpcnfaaDoor
