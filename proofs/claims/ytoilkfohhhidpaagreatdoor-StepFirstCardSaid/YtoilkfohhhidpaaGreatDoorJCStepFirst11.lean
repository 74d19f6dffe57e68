/- Joined texts: the reference's Of at 1, and Part; maps in memory; step.validRule; the frame of a step law's row: five listed variables, two of them sentinels; maps as arguments; step.Valid; small facts of the law packages; values of texts; the shape of a law's answer; a told answer, by its number; step.check, step.nextOfShort. -/
import Derived.Test.YtoilkfohhhidpaaGreatDoorJCStepFirst10
import Derived.Deep.Cut
import Derived.Test.YtoilkfohhhidpaaGreatDoorJCStepFirst07
import Derived.Test.YtoilkfohhhidpaaGreatDoorCards
import Derived.Test.YtoilkfohhhidpaaGreatDoorTie
import Derived.WalkKit
import Derived.ProofKit
import Derived.OpenShut
import Derived.Deep.DeepHandedRow
import Derived.Lib.LaidTab
import Derived.Lib.SmallJoins
import Derived.SizedLaws
import Derived.Below
import Derived.Carry
import Derived.ChangeSame
import Derived.LaidSub
import Derived.Lay
/- the reference's Of at 1, and Part -/
namespace Go.Proofs.YtoilkfohhhidpaaGreatDoor
open Go.RowKit
theorem rsign_at0 {v : Value} {n s : Int} (w : World) (h : RefV w v n) (hs : Hid (sgn0 n = s)) :
    Calls Tryz.prog 48 #[v] w (fun e w' => e = .returned (.int .i64 s) ∧ Ext w w') := by
  rw [← hs.out]; exact rsign_any v n w h
theorem of_one (w : World) : Calls Tryz.prog 26 #[.int .i64 1] w (RefPost 1 w) := of_nat 1 w (by omega)
theorem row_facts {w : World} {g : Nat} {t : TypeId} {a b : Value} (h : Row w g t [a, b]) : w.cell? ⟨g, 0, none⟩ = some a ∧ w.cell? ⟨g, 1, none⟩ = some b ∧ w.frozen? ⟨g, 0, none⟩ = false ∧ w.frozen? ⟨g, 1, none⟩ = false :=
  ⟨by rw [h.cell]; rfl, by rw [h.cell]; rfl, h.free 0, h.free 1⟩
/-- a number and a small one -/
def NumInt (q r : Int) (w : World) (e : Ending) (w' : World) : Prop := ∃ v, e = .returned (.tuple #[v, .int .i64 r]) ∧ RefV w' v q ∧ Ext w w'
theorem part_step {d x Q r X s : Nat} (h : d * Q + r = X) (hs : s = r * 1000000000 + x) : d * (s / d + 1000000000 * Q) + s % d = x + 1000000000 * X := by
  have h1 := Nat.div_add_mod s d
  rw [Nat.mul_add, ← h, Nat.mul_add, ← Nat.mul_assoc, Nat.mul_comm d 1000000000, Nat.mul_assoc]
  omega
theorem drop_set {l : List Nat} {j v : Nat} (h : j < l.length) : (l.set j v).drop j = v :: l.drop (j + 1) := by
  rw [List.drop_set, if_neg (Nat.lt_irrefl j), Nat.sub_self]
  rw [List.drop_eq_getElem_cons h]; rfl
theorem NumInt.stored {w w3 : World} {q r : Int} {b : Bool} {A : Option Addr} {k c H : Nat} {t : TypeId} (r1 : Row w3 H t [.bool false, .slice none 0 0]) (hw : Ext w w3) (hH : w.heap.size ≤ H) (hv : RefV w3 (.agg #[.bool b, .slice A k c]) q) :
    NumInt q r w (.returned (.tuple #[.agg #[.bool b, .slice A k c], .int .i64 r])) ((w3.setCell ⟨H, 0, none⟩ (.bool b)).setCell ⟨H, 1, none⟩ (.slice A k c)) := by
  obtain ⟨A', k', c', xs, b', e, h1, h2, h3, h4, h5, h6⟩ := hv
  cases e
  exact ⟨_, rfl, ⟨_, _, _, xs, _, rfl, h1, h2, h3, RefV.two h4 r1, h5, h6⟩, (hw.set' (by show _ ≤ H; omega) _).set' (by show _ ≤ H; omega) _⟩
set_option maxRecDepth 100000 in
set_option maxHeartbeats 3200000 in
theorem rpart_any (va : Value) (m : Int) (d : Nat) (w : World) (ha : RefV w va m) (la : m.natAbs ≤ BIG) (hd : 1 ≤ d) (hd2 : d ≤ 2147483647) :
    Calls Tryz.prog 28 #[va, .int .i64 (d : Int)] w (NumInt (m / d) (m % d) w) := by
  obtain ⟨A, n, ca, xs, na, rfl, HNA, hla, hca, hra, hLa, hva⟩ := ha
  have l1 := len_of_big hLa (by omega)
  have hn : n ≤ 1000 := by omega
  have HA := hid hra
  have LA := hid hla
  have HX := hid hLa
  have VA := hid hva
  have hmk := fun w => mkInts n (n : Int) rfl (by omega) w
  have hW2 : Ext w ((w.alloc (.cells #[.bool na, .slice A n ca] 34)).alloc (.cells #[.bool false, .slice none 0 0] 34)) := ((Ext.rfl' w).alloc' _).alloc' _
  have hk : ∀ w', Ext ((w.alloc (.cells #[.bool na, .slice A n ca] 34)).alloc (.cells #[.bool false, .slice none 0 0] 34)) w' →
      (w'.cell? ⟨w.heap.size, 0, none⟩ = some (.bool na) ∧ w'.cell? ⟨w.heap.size, 1, none⟩ = some (.slice A n ca)) ∧ Row w' (w.heap.size + 1) 34 [.bool false, .slice none 0 0] := by
    intro w' e
    have h1 := two_facts (W := w) (H := w.heap.size) (t := 34) (a := .bool na) (b := .slice A n ca) (Ext.step ((Ext.rfl' _).alloc' _) e) rfl
    have h2 := two_facts (W := (w.alloc (.cells #[.bool na, .slice A n ca] 34))) (H := w.heap.size + 1) (t := 34) (a := .bool false) (b := .slice none 0 0) e (by simp)
    exact ⟨⟨h1.1, h1.2.1⟩, h2.2.2.2.2.2⟩
  have hmade := Row.made ((w.alloc (.cells #[.bool na, .slice A n ca] 34)).alloc (.cells #[.bool false, .slice none 0 0] 34)) 3 (.int .i64 0) n
  obtain ⟨W2, hW2e⟩ : ∃ W2, ((w.alloc (.cells #[.bool na, .slice A n ca] 34)).alloc (.cells #[.bool false, .slice none 0 0] 34)) = W2 := ⟨_, rfl⟩
  have hsz : W2.heap.size = w.heap.size + 1 + 1 := by rw [← hW2e]; simp
  rw [hW2e] at hW2 hmade
  rw [hW2e] at hk
  rw [hsz, I64s_zeros] at hmade
  have HK := hid hk
  have HM := hid hmade
  have HSZ := hid hsz
  have HW2 := hid hW2
  have HE := hid hW2e
  clear hra hla hLa hva hW2 hk hmade hsz hW2e
  go_enter Tryz.func28, Tryz.ntmps28
  go_wp2
  rw [HE.out]
  go_loopw [7, 8, 9] (fun rz iz _ wr => ∃ (k r : Nat) (q : Int) (Os : List Nat), k ≤ n ∧ r < d ∧ rz = .int .i64 (r : Int) ∧ iz = .int .i64 q ∧ Hid (q = (k : Int) - 1) ∧ Row wr (w.heap.size + 1 + 1) 3 (I64s Os) ∧ Hid (Os.length = n) ∧ Hid (∀ x ∈ Os, x < 1000000000) ∧
      Hid (d * K.lv (Os.drop k) + r = K.lv (xs.drop k)) ∧ Ext W2 wr) (fun _ iz _ _ => (intOf iz + 1).toNat)
  case atStart => exact ⟨n, 0, (n : Int) - 1, List.replicate n 0, by omega, by omega, rfl, rfl, hid rfl, HM.out, hid (by simp), hid (by simp), hid (by rw [List.drop_of_length_le (by simp), List.drop_of_length_le (by rw [LA.out]; omega)]; simp [K.lv]), (Ext.rfl' _).alloc' _⟩
  case round =>
    obtain ⟨k, r, q, Os, hkn, hr, rfl, rfl, HQ, hrow, HL, HB9, HV, hex⟩ := hrel
    rcases Nat.eq_zero_or_pos k with h0 | h0
    · subst h0
      obtain rfl : q = -1 := by have := HQ.out; omega
      obtain ⟨⟨k0, k1⟩, -⟩ := HK.out _ hex
      have HRD := hid hrow.rd0
      have HVV : Hid (d * K.lv Os + r = m.natAbs) := hid (by have e := HV.out; rwa [List.drop_zero, List.drop_zero, VA.out] at e)
      clear hrow HV HQ
      go_wp2_with fail
      refine (rtrim_any false _ n n Os _ HRD.out HL.out (by omega) (by omega)).mono ?_
      rintro e w4 ⟨k4, b4, hk4, rfl, hb4, hcut, hx4⟩
      obtain rfl : b4 = false := by rw [hb4.out]; rfl
      have hx4' := hex.step hx4
      have hqv : K.lv Os = m.natAbs / d ∧ r = m.natAbs % d := by
        have e := HVV.out
        have h1 : m.natAbs / d = K.lv Os := by
          rw [← e, Nat.mul_add_div (by omega), Nat.div_eq_of_lt hr]; rfl
        have h2 : m.natAbs % d = r := by rw [← e, Nat.mul_add_mod, Nat.mod_eq_of_lt hr]
        exact ⟨h1.symm, h2.symm⟩
      have hQ : RefV w4 (.agg #[.bool false, .slice (some ⟨w.heap.size + 1 + 1, 0, none⟩) k4 n]) ((m.natAbs / d : Nat) : Int) := by
        refine ⟨_, k4, n, Os.take k4, false, rfl, hid ?_, by rw [List.length_take]; omega, by rw [HL.out] at hk4; omega, ?_, hcut.lim HB9.out, by rw [hcut.lv, hqv.1]; rfl⟩
        · symm; exact decide_eq_false (by omega)
        · rw [show I64s (Os.take k4) = (I64s Os).take k4 from List.map_take ..]
          exact (HRD.out.ext hx4).take k4
      have hQ2 := hQ.ext ((Ext.rfl' w4).alloc' (.cells #[.bool false, .slice (some ⟨w.heap.size + 1 + 1, 0, none⟩) k4 n] 34))
      have hx5 : Ext W2 (w4.alloc (.cells #[.bool false, .slice (some ⟨w.heap.size + 1 + 1, 0, none⟩) k4 n] 34)) := hx4'.alloc' _
      have hbox : ∀ w', Ext (w4.alloc (.cells #[.bool false, .slice (some ⟨w.heap.size + 1 + 1, 0, none⟩) k4 n] 34)) w' → w'.cell? ⟨w4.heap.size, 0, none⟩ = some (.bool false) ∧ w'.cell? ⟨w4.heap.size, 1, none⟩ = some (.slice (some ⟨w.heap.size + 1 + 1, 0, none⟩) k4 n) := fun w' e => by
        have := two_facts e rfl
        exact ⟨this.1, this.2.1⟩
      have hlt : w.heap.size + 1 < w4.heap.size := ((HK.out _ hx4').2).lt
      obtain ⟨W5, hW5⟩ : ∃ W5, w4.alloc (.cells #[.bool false, .slice (some ⟨w.heap.size + 1 + 1, 0, none⟩) k4 n] 34) = W5 := ⟨_, rfl⟩
      rw [hW5] at hQ2 hx5
      rw [hW5] at hbox
      have HW5 := hid hW5
      have HQ2 := hid hQ2
      have HX5 := hid hx5
      have HBOX := hid hbox
      have HQV := hid hqv
      clear hQ hQ2 hx5 hbox hx4 hx4' hqv hcut HVV HRD hmk k0 k1 hW5
      go_upto_region 10 with fail
      rw [HW5.out]
      obtain ⟨⟨j0, j1⟩, hrr⟩ := HK.out _ HX5.out
      obtain ⟨g0, g1, g2, g3⟩ := row_facts hrr
      obtain ⟨b0, b1⟩ := HBOX.out _ (Ext.rfl' _)
      have HRR := hid hrr
      clear hrr
      cases na with
      | false =>
        have hm : 0 ≤ m := by have := HNA.out; simpa using this.symm
        have hfin : NumInt (m / d) (m % d) w (.returned (.tuple #[.agg #[.bool false, .slice (some ⟨w.heap.size + 1 + 1, 0, none⟩) k4 n], .int .i64 (r : Int)])) ((W5.setCell ⟨w.heap.size + 1, 0, none⟩ (.bool false)).setCell ⟨w.heap.size + 1, 1, none⟩ (.slice (some ⟨w.heap.size + 1 + 1, 0, none⟩) k4 n)) := by
          have e1 : m / d = ((m.natAbs / d : Nat) : Int) := by rw [Int.natCast_ediv]; congr 1; omega
          have e2 : m % d = (r : Int) := by rw [HQV.out.2, Int.natCast_emod]; congr 1; omega
          rw [e1, e2]
          exact NumInt.stored HRR.out (HW2.out.step HX5.out) (by omega) HQ2.out
        have HF := hid hfin
        clear hfin hm
        go_wp2
        refine bodyPost_ret (v := .tuple #[.agg #[.bool false, .slice (some ⟨w.heap.size + 1 + 1, 0, none⟩) k4 n], .int .i64 (r : Int)]) (by simp [results, Tryz.results28, go_sem, g0, g1]) rfl HF.out
      | true =>
        have hm : m < 0 := by have := HNA.out; simpa using this.symm
        have hqB : m.natAbs / d ≤ BIG := Nat.le_trans (Nat.div_le_self _ _) la
        by_cases hr0 : r = 0
        · subst hr0
          have hv := div_neg (n := (d : Int)) hm (by omega) (by rw [Int.natAbs_natCast]; exact HQV.out.2.symm)
          rw [Int.natAbs_natCast] at hv
          have HVD := hid hv
          clear hv hm
          go_wp2_with fail
          refine (rminus_any _ _ _ HQ2.out).mono ?_
          rintro e w6 ⟨v6, rfl, hv6, hx6⟩
          rw [← HVD.out.1] at hv6
          have HV6 := hid hv6
          obtain ⟨A6, k6, c6, xs6, n6, rfl, -⟩ := hv6
          have hx56 := HX5.out.step hx6
          have hr6 := (HK.out _ hx56).2
          have hfin := NumInt.stored (r := m % d) hr6 (HW2.out.step hx56) (by omega) HV6.out
          rw [HVD.out.2] at hfin
          have HF := hid hfin
          obtain ⟨g0, g1, g2, g3⟩ := row_facts hr6
          clear hfin hr6 hx56 hx6
          go_wp2
          refine bodyPost_ret (v := .tuple #[.agg #[.bool n6, .slice A6 k6 c6], .int .i64 0]) (by simp [results, Tryz.results28, go_sem, g0, g1]) rfl ?_
          rw [← HVD.out.2] at HF ⊢
          exact HF.out
        · have hr1 : 0 < r := by omega
          have hv := div_neg' (n := (d : Int)) hm (by omega) (by rw [Int.natAbs_natCast, ← HQV.out.2]; exact hr1)
          rw [Int.natAbs_natCast, ← HQV.out.2] at hv
          have HVD := hid hv
          have hcur : Ext W5 W5 := Ext.rfl' _
          have hone : (1 : Int).natAbs ≤ BIG := by unfold BIG; rw [show (1000 : Nat) = 999 + 1 from rfl, zeros_succ, K.lv]; omega
          have hq2 : (((m.natAbs / d : Nat) : Int)).natAbs ≤ BIG := by rw [Int.natAbs_natCast]; exact hqB
          have HONE := hid hone
          have HQB := hid hq2
          have hr2 : r ≤ d := by omega
          have n1 : ¬ (w.heap.size + 1 = w4.heap.size) := by omega
          have n3 : ¬ (w4.heap.size = w.heap.size + 1) := by omega
          clear hv hm hr0 hone hq2 hqB
          have hwr : IntKind.i64.wrap ((d : Int) - (r : Int)) = (d : Int) - (r : Int) := IntWalk.i64_in _ (by omega)
          go_wp2_with fail
          go_region_held3 (fun w' => w'.cell? ⟨w4.heap.size, 0, none⟩ = some (.bool false) ∧ w'.cell? ⟨w4.heap.size, 1, none⟩ = some (.slice (some ⟨w.heap.size + 1 + 1, 0, none⟩) k4 n))
            (first | go_keep | exact HBOX.out _ hcur)
            (first
              | (go_at_call 26; refine (of_one _).mono ?_; rintro e w6 ⟨v6, rfl, hv6, hx⟩; have hcur := Ext.step hcur (by first | exact hx | exact Ext.undrew hx); have HV6 := hid hv6; obtain ⟨A6, k6, c6, xs6, n6, rfl, -⟩ := hv6)
              | (go_at_call 27; refine (radd_any _ _ _ _ _ (HQ2.out.ext ?_) (HV6.out.ext ?_) HQB.out HONE.out).mono ?_; (first | exact hcur | exact hcur.drew'); (first | exact Ext.rfl' _ | exact (Ext.rfl' _).drew'); rintro e w7 ⟨v7, rfl, hv7, hx⟩; have hcur := Ext.step hcur (by first | exact hx | exact Ext.undrew hx); have HV7 := hid hv7; obtain ⟨A7, k7, c7, xs7, n7, rfl, -⟩ := hv7)
              | (go_at_call 47; refine (rminus_any _ _ _ (HV7.out.ext ?_)).mono ?_; (first | exact Ext.rfl' _ | exact (Ext.rfl' _).drew'); rintro e w8 ⟨v8, rfl, hv8, hx⟩; have hcur := Ext.step hcur (by first | exact hx | exact Ext.undrew hx); have HV8 := hid hv8; obtain ⟨A8, k8, c8, xs8, n8, rfl, -⟩ := hv8; obtain ⟨g0, g1, g2, g3⟩ := row_facts (HK.out _ (HX5.out.step hcur)).2))
          all_goals
            have hx58 := HX5.out.step hcur
            have hr6 := (HK.out _ hx58).2
            have hv9 := HV8.out
            rw [show -(((m.natAbs / d : Nat) : Int) + 1) = m / d by rw [HVD.out.1]; omega] at hv9
            have hfin := NumInt.stored (r := m % d) hr6 (HW2.out.step hx58) (by omega) hv9
            rw [HVD.out.2, Int.ofNat_sub hr2] at hfin
            have HF := hid hfin
            clear hfin hr6 hx58 hv9
            go_wp2
            refine bodyPost_ret (v := .tuple #[.agg #[.bool n8, .slice A8 k8 c8], .int .i64 ((d : Int) - (r : Int))]) (by simp [results, Tryz.results28, go_sem, g0, g1]) rfl ?_
            rw [← Int.ofNat_sub hr2, ← HVD.out.2] at HF ⊢
            exact HF.out
    · obtain ⟨j, rfl⟩ : ∃ j, k = j + 1 := ⟨k - 1, by omega⟩
      obtain rfl : q = (j : Int) := by have := HQ.out; omega
      have hjn : j < n := by omega
      obtain ⟨⟨k0, k1⟩, -⟩ := HK.out _ hex
      obtain ⟨ba, oa, x, eA, exx, hba, hx⟩ := ((HA.out.ext HW2.out).ext hex).at_ (k := j) (by rw [LA.out]; exact hjn)
      subst eA
      have gx : x < 1000000000 := HX.out.1 x (mem_at exx)
      have hfree := hrow.free j
      have hcell : wr.cell? ⟨w.heap.size + 1 + 1, j, none⟩ = some (.int .i64 ((Os.getD j 0 : Nat) : Int)) := by
        rw [hrow.cell]; exact I64s_at (at_of_getD (by rw [HL.out]; exact hjn))
      obtain ⟨o, ho⟩ : ∃ o, Os.getD j 0 = o := ⟨_, rfl⟩
      rw [ho] at hcell
      obtain ⟨s, hs⟩ : ∃ s, r * 1000000000 + x = s := ⟨_, rfl⟩
      have hsd : s / d < 1000000000 := by
        rw [Nat.div_lt_iff_lt_mul (by omega)]
        have : (r + 1) * 1000000000 ≤ d * 1000000000 := Nat.mul_le_mul_right _ (by omega)
        rw [Nat.mul_comm d] at this
        omega
      have hsm : s % d < d := Nat.mod_lt _ (by omega)
      have hnew := I64s_put hrow j (s / d)
      have HNV : Hid (d * K.lv ((Os.set j (s / d)).drop j) + s % d = K.lv (xs.drop j)) := hid (by
        rw [drop_set (by rw [HL.out]; exact hjn), drop_at exx, K.lv, K.lv]
        exact part_step HV.out hs.symm)
      have HNL : Hid ((Os.set j (s / d)).length = n) := hid (by rw [List.length_set]; exact HL.out)
      have HNB : Hid (∀ z ∈ Os.set j (s / d), z < 1000000000) := hid (set_lt HB9.out hsd)
      have hsi : (r : Int) * 1000000000 + (x : Int) = (s : Int) := by omega
      have hex' := hex.set' (p := ⟨w.heap.size + 1 + 1, j, none⟩) (by show W2.heap.size ≤ w.heap.size + 1 + 1; rw [HSZ.out]; exact Nat.le_refl _) (.int .i64 ((s / d : Nat) : Int))
      have hev : ((r : Int) * 1000000000 + (x : Int)) / (d : Int) = ((s / d : Nat) : Int) := by rw [hsi]; rfl
      have her : Hid (Value.int .i64 (((r : Int) * 1000000000 + (x : Int)) % (d : Int)) = .int .i64 ((s % d : Nat) : Int)) := hid (by rw [hsi]; rfl)
      rw [← hev] at hnew hex'
      have HNR := hid hnew
      have HEX := hid hex'
      have hsb : s ≤ 2147483647999999999 := by omega
      clear ho hs hnew exx HQ hba h0 HV HB9 hsi hev hex'
      go_wp2
      go_roundw
      case rel => exact ⟨j, s % d, (j : Int) - 1, Os.set j (s / d), by omega, hsm, her.out, rfl, hid rfl, HNR.out, HNL, HNB, HNV, HEX.out⟩
      case measure => simp [intOf]
end Go.Proofs.YtoilkfohhhidpaaGreatDoor
/- maps in memory; step.validRule -/
namespace Go.Proofs.YtoilkfohhhidpaaGreatDoor
open Go.RowKit
abbrev Is (l : List Int) : List Value := l.map fun (x : Int) => Value.int .i64 x
theorem Rd.atI {w : World} {A : Option Addr} {l : List Int} (h : Rd w A (Is l)) {k : Nat} (hk : k < l.length) :
    ∃ b o, A = some ⟨b, o, none⟩ ∧ b < w.heap.size ∧ w.cell? ⟨b, o + k, none⟩ = some (.int .i64 (l.getD k 0)) := by
  rcases h with h | ⟨b, o, ha, hb, hc⟩
  · rw [List.map_eq_nil_iff] at h; subst h; cases hk
  · refine ⟨b, o, ha, hb, hc k _ ?_⟩
    rw [List.getElem?_map, List.getElem?_eq_getElem hk, List.getD_eq_getElem?_getD, List.getElem?_eq_getElem hk]; rfl
/-- a map in memory -/
def MapV (w : World) (v : Value) (m : Int) (us ad : List Int) : Prop :=
  ∃ A k c B l d, v = .agg #[.int .i64 m, .slice A k c, .slice B l d] ∧ us.length = k ∧ k ≤ c ∧ ad.length = l ∧ l ≤ d ∧ Rd w A (Is us) ∧ Rd w B (Is ad) ∧ k ≤ 140737488351232 ∧ l ≤ 140737488351232
theorem MapV.ext {w w' : World} {v : Value} {m : Int} {us ad : List Int} (h : MapV w v m us ad) (e : Ext w w') : MapV w' v m us ad := by
  obtain ⟨A, k, c, B, l, d, h1, h2, h3, h4, h5, h6, h7, h8⟩ := h
  exact ⟨A, k, c, B, l, d, h1, h2, h3, h4, h5, h6.ext e, h7.ext e, h8⟩
/-- the box of a map -/
theorem three_facts {W w' : World} {a b c : Value} {t : TypeId} {H : Nat} (e : Ext (W.alloc (.cells #[a, b, c] t)) w') (hH : W.heap.size = H) :
    w'.cell? ⟨H, 0, none⟩ = some a ∧ w'.cell? ⟨H, 1, none⟩ = some b ∧ w'.cell? ⟨H, 2, none⟩ = some c ∧ Row w' H t [a, b, c] := by
  subst hH
  have r : Row w' W.heap.size t [a, b, c] := (Row.new W t [a, b, c]).ext e
  exact ⟨by rw [r.cell]; rfl, by rw [r.cell]; rfl, by rw [r.cell]; rfl, r⟩
set_option maxRecDepth 100000 in
set_option maxHeartbeats 800000 in
theorem validRule_any (m r u a : Int) (w : World) (hm : 2 ≤ m) (hm2 : m ≤ 12) (hr : 0 ≤ r) (hr2 : r < m) {b : Bool} (hb : Hid (ruleB m r u a = b)) :
    Calls Tryz.prog 56 #[.int .i64 m, .int .i64 r, .int .i64 u, .int .i64 a] w (fun e w' => e = .returned (.bool b) ∧ w = w') := by
  have hno : ∀ (_ : ¬ ruleP m r u a), Hid (b = false) := fun h => hid (by rw [← hb.out]; exact decide_eq_false h)
  by_cases h1 : u < 1
  · have HF := hno (fun h => by unfold ruleP at h; omega)
    clear hno hb
    go_enter Tryz.func56, Tryz.ntmps56
    go_wp2
    go_ret
    exact ⟨by rw [HF.out]; rfl, rfl⟩
  · by_cases h2 : 999 < u
    · have HF := hno (fun h => by unfold ruleP at h; omega)
      clear hno hb
      go_enter Tryz.func56, Tryz.ntmps56
      go_wp2
      go_ret
      exact ⟨by rw [HF.out]; rfl, rfl⟩
    · by_cases h3 : a < -999999
      · have HF := hno (fun h => by unfold ruleP at h; omega)
        clear hno hb
        go_enter Tryz.func56, Tryz.ntmps56
        go_wp2
        go_ret
        exact ⟨by rw [HF.out]; rfl, rfl⟩
      · by_cases h4 : 999999 < a
        · have HF := hno (fun h => by unfold ruleP at h; omega)
          clear hno hb
          go_enter Tryz.func56, Tryz.ntmps56
          go_wp2
          go_ret
          exact ⟨by rw [HF.out]; rfl, rfl⟩
        · have hp : 0 ≤ u * r ∧ u * r ≤ 10989 := by
            refine ⟨Int.mul_nonneg (by omega) hr, ?_⟩
            have := Int.mul_le_mul (show u ≤ 999 by omega) (show r ≤ 11 by omega) hr (by omega)
            omega
          obtain ⟨q, hq⟩ : ∃ q, u * r = q := ⟨_, rfl⟩
          rw [hq] at hp
          have hp1 := hp.1
          have hp2 := hp.2
          have HQ := hid hq
          have HF : Hid (((q + a).tmod m == 0) = b) := hid (by
            rw [← hb.out, Bool.eq_iff_iff]
            unfold ruleB
            rw [beq_iff_eq, decide_eq_true_iff, tmod_zero]
            unfold ruleP
            rw [hq]
            constructor
            · intro h; exact ⟨by omega, by omega, by omega, by omega, h⟩
            · intro h; exact h.2.2.2.2)
          clear hno hb hp
          go_enter Tryz.func56, Tryz.ntmps56
          go_wp2
          go_ret
          exact ⟨by show Ending.returned (.bool ((q + a).tmod m == 0)) = _; rw [HF.out], rfl⟩
end Go.Proofs.YtoilkfohhhidpaaGreatDoor
/- the frame of a step law's row: five listed variables, two of them sentinels; maps as arguments -/
namespace Go.Proofs.YtoilkfohhhidpaaGreatDoor
open Go.ChangeShapes Go.WideShapes Go.ChangeAt Go.RowKit Go.Joins
namespace SRow
theorem own : ownKnob Tryz.prog.godebug = none := by kernel_rfl
abbrev laidAll : List (String × DataW Unit) := Rows.stepFirstRow.laid
theorem gPow : Tryz.prog.globalNamed "internal/strconv.uint64pow10" = some 2 := by kernel_rfl
theorem gPowType : (Tryz.prog.globals[2]?).map (·.type) = some 143 := by kernel_rfl
theorem cellsPow : Tryz.prog.cellsOf 143 = 20 := by kernel_rfl
theorem cellsU64 : Tryz.prog.cellsOf 104 = 1 := by kernel_rfl
theorem cellsInt : Tryz.prog.cellsOf 3 = 1 := by kernel_rfl
theorem bytesInt : Tryz.prog.bytesOf 3 = 8 := by kernel_rfl
theorem cellsMap : Tryz.prog.cellsOf 24 = 3 := by kernel_rfl
theorem laidOut : laidOutB Tryz.prog = true := by kernel_rfl
theorem readMap : Tryz.prog.readableRec 24 = true := by kernel_rfl
theorem rowMap : 24 < Tryz.prog.types.size := of_decide_eq_true (by kernel_rfl)
theorem tab_of {W : World} (h : laidMetH Tryz.prog laidAll W) : Tab W := by
  have h2 := laidMetH.filter (fun x => x.1 == "internal/strconv.uint64pow10") h
  have e : (laidAll.filter fun x => x.1 == "internal/strconv.uint64pow10") = [("internal/strconv.uint64pow10", Lib.tabData .u64 Lib.pow10Tab)] := by kernel_rfl
  rw [e, MakeChecks.laidMetH_plain _ _ _ (by kernel_rfl)] at h2
  exact Lib.tabIs_of_head (rest := []) gPow gPowType Tryz.underlying143 Tryz.underlying104 cellsU64 cellsPow h2
theorem Str_data (s : ByteArray) : Str s.data.toList = s := by cases s; simp [Str]
theorem reach_len {l : List UInt8} (h : l.length ≤ reachBytes) : l.length ≤ 140737488351232 := h
section
variable {H : Type} {enc : TypeId × Value → H} {P : Program}
/-- The post of a row that reads the caller's memory and writes none of it. -/
theorem post_read {f : Func} {s : ChangeSpec} {W W' : World} {args : Array Value} {v : Value} {ds gs : List (DataW H)} {before pa : List MemPlace}
    (hW : DataW.Whole enc P f.params.toList s.vars false W args.toList ds gs before)
    (hres : ∀ (b : Nat) (sp : Nat → Bool) (hd : Bool), DataW.TrodAll enc P W' b sp hd f.resultTypes.toList (v.resultList f.resultTypes.size) (s.fn H (ds ++ gs)).results [])
    (hargs : DataW.TrodAll enc P W' 0 (fun b => decide (b < W.heap.size)) true f.params.toList args.toList (s.fn H (ds ++ gs)).args pa)
    (hvars : ∀ sp : Nat → Bool, DataW.TrodVars enc P W' sp s.vars (s.fn H (ds ++ gs)).vars []) (hb : Below W.heap.size W W') :
    s.post enc P f false true false false W args v W' :=
  ⟨ds, gs, before, [], pa, [], hW, hres _ _ _, hargs, hvars _, World.keptBut_mono (fun p hp => absurd hp (by simp)) (hb.frame (· ∈ ([] : List MemPlace))), fun h => by cases h⟩
/-- A slice of ints, opened to what the walks ask. -/
theorem slice_view {t e : TypeId} {W : World} {fuel : Nat} {c : Value} {y : DataW H × List MemPlace} (ht : P.underlying t = some (.slice e)) (he : P.underlying e = some (.int .i64)) (hc : P.cellsOf e = 1) (hb : P.bytesOf e = 8)
    (h : DataW.trod enc P W 0 (fun _ => true) true fuel t [c] = some y) (hw : ∀ n ∈ y.1.weights P t, n ≤ reachBytes) :
    ∃ (A : Option Addr) (k cap : Nat) (us : List Int), c = .slice A k cap ∧ us.length = k ∧ k ≤ cap ∧ Rd W A (Is us) ∧ k ≤ 140737488351232 := by
  rcases open_ints ht he hc h with ⟨hcs, hx⟩ | ⟨a, len, cap, zs, hcs, _, hl, hm, hz, hx, hcell, hwz⟩
  · refine ⟨none, 0, 0, [], by simpa using hcs, rfl, Nat.le_refl _, Rd.nil _ _, by omega⟩
  · simp only [if_true] at hz
    subst hx
    have hbig := hw (((lits .i64 (zs.take len) : List (DataW H)).length + (lits .i64 (zs.drop len) : List (DataW H)).length) * P.bytesOf e) (by simp [DataW.weights, ht])
    have hk : len * 8 ≤ 140737488351232 := by
      have e1 : (lits .i64 (zs.take len) : List (DataW H)).length = min len zs.length := by simp [lits]
      rw [e1, hb] at hbig
      have e2 : reachBytes = 140737488351232 := rfl
      rw [e2] at hbig
      have : min len zs.length = len := by omega
      rw [this] at hbig
      have : len * 8 ≤ (len + (lits .i64 (zs.drop len) : List (DataW H)).length) * 8 := Nat.mul_le_mul_right _ (Nat.le_add_right _ _)
      omega
    refine ⟨some a, len, cap, zs.take len, by simpa using hcs, by simp; omega, hl, ?_, by omega⟩
    by_cases h0 : len = 0
    · subst h0
      exact .inl (by simp)
    · obtain ⟨b, off, rfl, hc2⟩ := ints_at hcell (by omega)
      refine .inr ⟨b, off, rfl, World.block_lt_of_cell? _ _ (hc2 0 (by omega)), fun j u hu => ?_⟩
      simp only [List.getElem?_map, Option.map_eq_some_iff] at hu
      obtain ⟨x, hx, rfl⟩ := hu
      have hj : j < len := by
        rcases Nat.lt_or_ge j len with h1 | h1
        · exact h1
        · rw [List.getElem?_eq_none (by simp; omega)] at hx; cases hx
      rw [List.getElem?_take_of_lt hj] at hx
      rw [hc2 j (by omega), List.getD_eq_getElem?_getD, hx]
      rfl
end
set_option maxRecDepth 100000 in
/-- A map by value, opened. -/
theorem map_view {H : Type} {enc : TypeId × Value → H} {W : World} {r : Reach} {b0 : Nat} {v : Value} {d : DataW H} {p : List MemPlace} (hv : Value.okWide Tryz.prog W r b0 24 v)
    (h : DataW.Trod enc Tryz.prog W 0 (fun _ => true) true 24 v d p) (hw : ∀ n ∈ d.weights Tryz.prog 24, n ≤ reachBytes) : ∃ m us ad, MapV W v m us ad := by
  obtain ⟨c0, c1, c2, y0, y1, y2, n, rfl, rfl, _, hy0, hy1, hy2⟩ := open_agg3 Tryz.underlying24 (by kernel_rfl) cellsMap hv h
  obtain ⟨m, e0, rfl, _⟩ := DataW.trod_int Tryz.underlying3 hy0
  simp only [DataW.weights, Tryz.underlying24, DataW.weightsEach, List.map, List.append_nil, List.nil_append, List.mem_append] at hw
  obtain ⟨A, k, ca, us, rfl, h1, h2, h3, h4⟩ := slice_view Tryz.underlying22 Tryz.underlying3 cellsInt bytesInt hy1 (fun x hx => hw x (.inl hx))
  obtain ⟨B, l, cb, ad, rfl, h5, h6, h7, h8⟩ := slice_view Tryz.underlying22 Tryz.underlying3 cellsInt bytesInt hy2 (fun x hx => hw x (.inr hx))
  obtain rfl : c0 = .int .i64 m := by simpa using e0
  exact ⟨m, us, ad, A, k, ca, B, l, cb, rfl, h1, h2, h5, h6, h3, h7, h4, h8⟩
theorem weights_at {ts : List TypeId} {H : Type} {ds : List (DataW H)} (h : (DataW.weightsEach Tryz.prog ts ds).all (· ≤ reachBytes) = true) {j : Nat} {t : TypeId} {d : DataW H} (ht : ts[j]? = some t) (hd : ds[j]? = some d) :
    ∀ n ∈ d.weights Tryz.prog t, n ≤ reachBytes := fun n hn => by simpa using List.all_eq_true.1 h _ (DataW.weights_mem_each ht hd n hn)
/-- A witness, over a world of a shape. -/
theorem witness_row_shaped {H : Type} {enc : TypeId × Value → H} {C : Checked} {os : Os} {f : FuncId} {fn : Func} {s : OpenSpec} {conds : List PathCond} {apart : Bool} {laid : List (String × DataW Unit)} (modest : Bool) (w0 : World) (args : Array Value) (hos : w0.os = os)
    (hsh : (w0.forCall (fun _ _ => 0) ⟨#[], args, []⟩).Shaped C.prog)
    (hok : Input.okWideB C.prog (w0.forCall (fun _ _ => 0) ⟨#[], args, []⟩) f ⟨#[], args, []⟩ = true)
    (hrow : s.preRow enc C.prog fn conds apart laid (w0.forCall (fun _ _ => 0) ⟨#[], args, []⟩).memory args) :
    ∃ (w : World) (tape : Tape) (i : Input), w.os = os ∧ (w.forCall tape i).Shaped C.prog ∧ i.vars = [] ∧ Input.okWide C.prog (w.forCall tape i) .any w.heap.size f i ∧
      s.preRow enc C.prog fn conds apart laid (w.forCall tape i).memory i.args ∧ ({ modest := modest } : Assume).holds C.prog (lone (Frame.enter C.prog f i.args .normal) [] (w.forCall tape i)) :=
  ⟨w0, fun _ _ => 0, ⟨#[], args, []⟩, hos, hsh, (Input.okWide_of_okWideB (base := 0) hok).1, (Input.okWide_of_okWideB hok).2, hrow, by
    simp only [Assume.holds]
    exact ⟨by simp, by simp, fun _ => Modest.zero, by simp, by simp⟩⟩
end SRow
end Go.Proofs.YtoilkfohhhidpaaGreatDoor
/- step.Valid -/
namespace Go.Proofs.YtoilkfohhhidpaaGreatDoor
open Go.RowKit
set_option maxRecDepth 100000 in
set_option maxHeartbeats 1600000 in
theorem stepvalid_any (v : Value) (m : Int) (us ad : List Int) (w : World) (hv : MapV w v m us ad) {b : Bool} (hb : Hid (mapB m us ad = b)) :
    Calls Tryz.prog 49 #[v] w (fun e w' => e = .returned (.bool b) ∧ Ext w w') := by
  obtain ⟨A, k, c, B, l, d, rfl, hk, hkc, hl, hld, ra, rb, bk, bl⟩ := hv
  have hno : ∀ (_ : ¬ mapP m us ad), Hid (b = false) := fun h => hid (by
    rw [← hb.out]
    cases hB : mapB m us ad with
    | false => rfl
    | true => exact absurd ((mapB_iff m us ad).1 hB) h)
  have hbk : k ≤ 9223372036854775807 := by omega
  have hbl : l ≤ 9223372036854775807 := by omega
  have hx : Ext w (w.alloc (.cells #[.int .i64 m, .slice A k c, .slice B l d] 24)) := (Ext.rfl' w).alloc' _
  have hk3 : ∀ w', Ext (w.alloc (.cells #[.int .i64 m, .slice A k c, .slice B l d] 24)) w' → _ := fun w' e => three_facts e rfl
  by_cases c1 : m < 2
  · have HF := hno (fun h => by have := h.1; omega)
    have HX := hid hx
    clear hno hb hk hl ra rb hx hk3
    go_enter Tryz.func49, Tryz.ntmps49
    go_wp2
    go_ret
    exact ⟨by rw [HF.out]; rfl, HX.out⟩
  · by_cases c2 : 12 < m
    · have HF := hno (fun h => by have := h.2.1; omega)
      have HX := hid hx
      clear hno hb hk hl ra rb hx hk3
      go_enter Tryz.func49, Tryz.ntmps49
      go_wp2
      go_ret
      exact ⟨by rw [HF.out]; rfl, HX.out⟩
    · by_cases c3 : (k : Int) = m
      · by_cases c4 : (l : Int) = m
        · subst c3
          obtain rfl : l = k := by omega
          have HNO := hid hno
          have HK := hid hk
          have HL := hid hl
          have HX := hid hx
          have HK3 := hid hk3
          have HRA := hid ra
          have HRB := hid rb
          have k12 : l ≤ 12 := by omega
          have k2 : 2 ≤ l := by omega
          obtain ⟨f0, f1, f2, -⟩ := hk3 _ (Ext.rfl' _)
          obtain ⟨W1, hW1⟩ : ∃ W1, w.alloc (.cells #[.int .i64 (l : Int), .slice A l c, .slice B l d] 24) = W1 := ⟨_, rfl⟩
          rw [hW1] at HX HK3 f0 f1 f2
          have HW1 := hid hW1
          clear hno hk hl hx hk3 hW1 ra rb c4 hbk hbl c1 c2
          go_enter Tryz.func49, Tryz.ntmps49
          go_upto_region 1 with fail
          rw [HW1.out]
          go_wp2_with fail
          clear f0 f1 f2
          go_loopw [3, 4, 32] (fun _ _ iz wr => ∃ j : Nat, j ≤ l ∧ iz = .int .i64 (j : Int) ∧ Hid (∀ r : Nat, r < j → ruleP (l : Int) r (us.getD r 0) (ad.getD r 0)) ∧ Ext W1 wr) (fun _ _ iz _ => l - (intOf iz).toNat)
          case atStart => exact ⟨0, by omega, rfl, hid (fun r h => absurd h (by omega)), Ext.rfl' _⟩
          case round =>
            obtain ⟨j, hj, rfl, HR, hex⟩ := hrel
            obtain ⟨f0, f1, f2, -⟩ := HK3.out _ hex
            by_cases hlt : j < l
            · obtain ⟨ba, oa, eA, hba, hca⟩ := ((HRA.out.ext HX.out).ext hex).atI (k := j) (by rw [HK.out]; exact hlt)
              obtain ⟨bb, ob, eB, hbb, hcb⟩ := ((HRB.out.ext HX.out).ext hex).atI (k := j) (by rw [HL.out]; exact hlt)
              subst eA eB
              obtain ⟨u, hu⟩ : ∃ u, us.getD j 0 = u := ⟨_, rfl⟩
              obtain ⟨a, ha⟩ : ∃ a, ad.getD j 0 = a := ⟨_, rfl⟩
              rw [hu] at hca
              rw [ha] at hcb
              have HU := hid hu
              have HA := hid ha
              clear hu ha hba hbb
              by_cases hr : ruleP (l : Int) j u a
              · have HNEXT : Hid (∀ r : Nat, r < j + 1 → ruleP (l : Int) r (us.getD r 0) (ad.getD r 0)) := hid (by
                  intro r h
                  rcases Nat.lt_or_ge r j with h1 | h1
                  · exact HR.out r h1
                  · obtain rfl : r = j := by omega
                    rw [HU.out, HA.out]; exact hr)
                have HRU : Hid (ruleB (l : Int) j u a = true) := hid (decide_eq_true hr)
                clear hr
                go_wp2_with fail
                go_quiet ((go_at_call 56; exact Calls.quiet_of_same ((validRule_any (l : Int) (j : Int) u a _ (by omega) (by omega) (by omega) (by omega) HRU).mono fun _ _ h => ⟨h.1, h.2.symm⟩)))
                have hex2 := hex.drewN nq
                go_wp2
                go_roundw
                case rel => exact ⟨j + 1, by omega, by simp, HNEXT, hex2⟩
                case measure => simp [intOf]; omega
              · have HF := HNO.out (fun h => hr (by have := h.2.2.2.2 j (by rw [HK.out]; exact hlt); rwa [HU.out, HA.out] at this))
                have HRU : Hid (ruleB (l : Int) j u a = false) := hid (decide_eq_false hr)
                clear hr
                go_wp2_with fail
                go_quiet ((go_at_call 56; exact Calls.quiet_of_same ((validRule_any (l : Int) (j : Int) u a _ (by omega) (by omega) (by omega) (by omega) HRU).mono fun _ _ h => ⟨h.1, h.2.symm⟩)))
                have HY := hid (HX.out.step (hex.drewN nq))
                go_wp2
                go_ret
                exact ⟨by rw [HF.out]; rfl, HY.out⟩
            · have HF : Hid (b = true) := hid (by
                rw [← hb.out]
                exact (mapB_iff _ _ _).2 ⟨by omega, by omega, by rw [HK.out], by rw [HL.out], fun r h => HR.out r (by rw [HK.out] at h; omega)⟩)
              have HY := hid (HX.out.step hex)
              go_wp2
              go_ret
              exact ⟨by rw [HF.out]; rfl, HY.out⟩
        · have HF := hno (fun h => c4 (by have := h.2.2.2.1; omega))
          have HX := hid hx
          subst c3
          have e4 : ((l : Int) == (k : Int)) = false := by rw [beq_eq_false_iff_ne]; exact c4
          have e5 : (l == k) = false := by rw [beq_eq_false_iff_ne]; omega
          clear hno hb hk hl ra rb hx hk3 c4
          go_enter Tryz.func49, Tryz.ntmps49
          go_wp2
          go_ret
          exact ⟨by rw [HF.out]; rfl, HX.out⟩
      · have HF := hno (fun h => c3 (by have := h.2.2.1; omega))
        have HX := hid hx
        have e3 : ((k : Int) == m) = false := by rw [beq_eq_false_iff_ne]; exact c3
        clear hno hb hk hl ra rb hx hk3 c3
        go_enter Tryz.func49, Tryz.ntmps49
        go_wp2
        go_ret
        exact ⟨by rw [HF.out]; rfl, HX.out⟩
end Go.Proofs.YtoilkfohhhidpaaGreatDoor
/- small facts of the law packages -/
namespace Go.Proofs.YtoilkfohhhidpaaGreatDoor
open Go.RowKit
theorem Str_inj {a b : List UInt8} (h : Str a = Str b) : a = b := by
  have := congrArg ByteArray.toList h
  rwa [Str_toList, Str_toList] at this
def Alike (a b : List UInt8) : Prop := a = [] ∨ b = [] ∨ a = b
theorem valid_lit (l : List UInt8) (b : Bool) (s : ByteArray) (hs : Str l = s) (hb : K.validL l = b) (hl : l.length ≤ 2001) (w : World) :
    Calls Tryz.prog 50 #[.string s] w (fun e w' => e = .returned (.bool b) ∧ Ext w w') := by
  subst hs hb
  exact valid_any l w (by omega)
end Go.Proofs.YtoilkfohhhidpaaGreatDoor
/- values of texts; the shape of a law's answer -/
namespace Go.Proofs.YtoilkfohhhidpaaGreatDoor
open Go.RowKit
def TruePost (w : World) (e : Ending) (w' : World) : Prop := e = .returned (.bool true) ∧ Ext w w'
def Val (x : List UInt8) (m : Int) : Prop := x = [] ∨ (K.validL x = true ∧ K.numL x = m)
theorem Val.of {x : List UInt8} (h : K.validL x = true) : Val x (K.numL x) := .inr ⟨h, rfl⟩
theorem valid_nil : K.validL [] = false := rfl
theorem same_num {x y : List UInt8} (hx : K.validL x = true) (hy : K.validL y = true) (e : K.numL x = K.numL y) : x = y := by
  rw [← (K.txt_numL x hx).1, ← (K.txt_numL y hy).1, e]
theorem Val.told (n : Int) : Val (told n) n := by
  by_cases h : K.fits n
  · exact .inr ⟨by rw [told_fits h]; exact K.valid_txt n h, by rw [told_fits h, K.numL_txt]⟩
  · exact .inl (told_not h)
theorem Val.num {x : List UInt8} {m : Int} (h : Val x m) (v : K.validL x = true) : K.numL x = m := by
  rcases h with h | h
  · rw [h] at v; cases v
  · exact h.2
theorem Val.sum {x y : List UInt8} {m n : Int} (hx : Val x m) (hy : Val y n) : Val (sL x y) (m + n) := by
  unfold sL
  split
  · rename_i h
    rw [hx.num h.1, hy.num h.2]; exact Val.told _
  · exact .inl rfl
theorem Val.prod {x y : List UInt8} {m n : Int} (hx : Val x m) (hy : Val y n) : Val (mL x y) (m * n) := by
  unfold mL
  split
  · rename_i h
    rw [hx.num h.1, hy.num h.2]; exact Val.told _
  · exact .inl rfl
theorem Val.alike {x y : List UInt8} {m : Int} (hx : Val x m) (hy : Val y m) : Alike x y := by
  rcases hx with h | h
  · exact .inl h
  · rcases hy with k | k
    · exact .inr (.inl k)
    · exact .inr (.inr (same_num h.1 k.1 (h.2.trans k.2.symm)))
theorem Val.alike' {x y : List UInt8} {m n : Int} (hx : Val x m) (hy : Val y n) (e : m = n) : Alike x y := (e ▸ hx).alike hy
theorem sL_comm (a b : List UInt8) : sL a b = sL b a := by
  unfold sL; simp only [And.comm, Int.add_comm]
theorem mL_comm (a b : List UInt8) : mL a b = mL b a := by
  unfold mL; simp only [And.comm, Int.mul_comm]
theorem sum_form {a b : List UInt8} (ha : K.validL a = true) (hb : K.validL b = true) : sL a b = told (K.numL a + K.numL b) := if_pos ⟨ha, hb⟩
theorem rvalid_at (l : List UInt8) {v : Bool} (w : World) (hv : Hid (K.validL l = v)) (hl : l.length ≤ 140737488351232) :
    Calls Tryz.prog 24 #[.string (Str l)] w fun e w' => e = .returned (.bool v) ∧ w = w' := by
  rw [← hv.out]; exact rvalid_any l w hl
theorem len_of {l : List UInt8} (h : l.length ≤ 2001) : l.length ≤ 140737488351232 := by omega
def AddPost (s : List UInt8) (n : Int) (w : World) (e : Ending) (w' : World) : Prop :=
  ((e = .returned (.tuple #[.string (Str s), .int .i64 0]) ∧ Hid (K.validL s = true ∧ K.numL s = n ∧ s.length ≤ 2001)) ∨ (e = .returned (.tuple #[.string ⟨#[]⟩, .int .i64 3]) ∧ Hid (¬ K.fits n))) ∧ Ext w w'
theorem told_post {n : Int} {w : World} {e : Ending} {w' : World} (h : ToldPost n w e w') : ∃ s, AddPost s n w e w' := by
  by_cases hf : K.fits n
  · exact ⟨K.txt n, .inl ⟨h.1 hf, hid ⟨K.valid_txt n hf, K.numL_txt n, K.txt_len n hf⟩⟩, h.2.2⟩
  · exact ⟨[], .inr ⟨h.2.1 hf, hid hf⟩, h.2.2⟩
theorem told_eq {n : Int} {l : List UInt8} {w : World} {e : Ending} {w' : World} (h : ToldPost n w e w') (v : K.validL l = true) (k : K.numL l = n) : e = .returned (.tuple #[.string (Str l), .int .i64 0]) ∧ Ext w w' := by
  have := lit_eq v k
  exact ⟨by rw [h.1 this.1, this.2], h.2.2⟩
end Go.Proofs.YtoilkfohhhidpaaGreatDoor
/- a told answer, by its number -/
namespace Go.Proofs.YtoilkfohhhidpaaGreatDoor
open Go.RowKit
def Told2 (n : Int) (s : ByteArray) (c : Int) : Prop := (K.fits n → s = Str (K.txt n) ∧ c = 0) ∧ (¬ K.fits n → s = ⟨#[]⟩ ∧ c = 3)
theorem told2_of {n : Int} {w : World} {e : Ending} {w' : World} (h : ToldPost n w e w') : ∃ (s : ByteArray) (c : Int), e = .returned (.tuple #[.string s, .int .i64 c]) ∧ Told2 n s c ∧ Ext w w' := by
  by_cases hf : K.fits n
  · exact ⟨_, _, h.1 hf, ⟨fun _ => ⟨rfl, rfl⟩, fun k => absurd hf k⟩, h.2.2⟩
  · exact ⟨_, _, h.2.1 hf, ⟨fun k => absurd k hf, fun _ => ⟨rfl, rfl⟩⟩, h.2.2⟩
theorem valid_at (l : List UInt8) {v : Bool} (w : World) (hv : Hid (K.validL l = v)) (hl : l.length ≤ 140737488351232) :
    Calls Tryz.prog 50 #[.string (Str l)] w (fun e w' => e = .returned (.bool v) ∧ Ext w w') := by
  rw [← hv.out]; exact valid_any l w hl
end Go.Proofs.YtoilkfohhhidpaaGreatDoor
/- step.check, step.nextOfShort -/
namespace Go.Proofs.YtoilkfohhhidpaaGreatDoor
open Go.RowKit
def ErrPost (c : Int) (w : World) (e : Ending) (w' : World) : Prop := e = .returned (.int .i64 c) ∧ Ext w w'
set_option maxRecDepth 100000 in
set_option maxHeartbeats 800000 in
theorem check_any (v : Value) (m : Int) (us ad : List Int) (l : List UInt8) (k least most : Int) (w : World) (hv : MapV w v m us ad) (hl : l.length ≤ 140737488351232) {b1 b2 : Bool} (hb1 : Hid (mapB m us ad = b1)) (hb2 : Hid (K.validL l = b2))
    {c : Int} (hc : Hid (c = if b1 = true ∧ b2 = true then (if k < least ∨ most < k then 2 else 0) else 1)) :
    Calls Tryz.prog 31 #[v, .string (Str l), .int .i64 k, .int .i64 least, .int .i64 most] w (ErrPost c w) := by
  have HV := hid hv
  obtain ⟨A, n, cc, B, n2, d, rfl, -⟩ := hv
  have hx : Ext w (w.alloc (.cells #[.int .i64 m, .slice A n cc, .slice B n2 d] 24)) := (Ext.rfl' w).alloc' _
  have HX := hid hx
  obtain ⟨f0, f1, f2, -⟩ := three_facts (Ext.rfl' (w.alloc (.cells #[.int .i64 m, .slice A n cc, .slice B n2 d] 24))) rfl
  obtain ⟨W1, hW1⟩ : ∃ W1, w.alloc (.cells #[.int .i64 m, .slice A n cc, .slice B n2 d] 24) = W1 := ⟨_, rfl⟩
  rw [hW1] at HX f0 f1 f2
  have HW1 := hid hW1
  clear hW1 hx
  cases b1 with
  | false =>
    have HC : Hid (c = 1) := hid (by rw [hc.out, if_neg (by simp)])
    clear hc
    go_enter Tryz.func31, Tryz.ntmps31
    go_upto_region 1 with fail
    rw [HW1.out]
    go_wp2_with fail
    refine (stepvalid_any _ m us ad W1 (HV.out.ext HX.out) hb1).mono ?_
    rintro e w2 ⟨rfl, hx2⟩
    have HY := hid (HX.out.step hx2)
    go_wp2
    go_ret
    exact ⟨by rw [HC.out]; rfl, HY.out⟩
  | true =>
    cases b2 with
    | false =>
      have HC : Hid (c = 1) := hid (by rw [hc.out, if_neg (by simp)])
      clear hc
      go_enter Tryz.func31, Tryz.ntmps31
      go_upto_region 1 with fail
      rw [HW1.out]
      go_wp2_with fail
      refine (stepvalid_any _ m us ad W1 (HV.out.ext HX.out) hb1).mono ?_
      rintro e w2 ⟨rfl, hx2⟩
      have hy2 := HX.out.step hx2
      clear f0 f1 f2 hx2
      go_wp2_with fail
      refine (valid_at l w2 hb2 hl).mono ?_
      rintro e w3 ⟨rfl, hx3⟩
      have HY := hid (hy2.step hx3)
      go_wp2
      go_ret
      exact ⟨by rw [HC.out]; rfl, HY.out⟩
    | true =>
      by_cases h1 : k < least
      · have HC : Hid (c = 2) := hid (by rw [hc.out, if_pos (by simp), if_pos (.inl h1)])
        clear hc
        go_enter Tryz.func31, Tryz.ntmps31
        go_upto_region 1 with fail
        rw [HW1.out]
        go_wp2_with fail
        refine (stepvalid_any _ m us ad W1 (HV.out.ext HX.out) hb1).mono ?_
        rintro e w2 ⟨rfl, hx2⟩
        have hy2 := HX.out.step hx2
        clear f0 f1 f2 hx2
        go_wp2_with fail
        refine (valid_at l w2 hb2 hl).mono ?_
        rintro e w3 ⟨rfl, hx3⟩
        have HY := hid (hy2.step hx3)
        go_wp2
        go_ret
        exact ⟨by rw [HC.out]; rfl, HY.out⟩
      · by_cases h2 : most < k
        · have HC : Hid (c = 2) := hid (by rw [hc.out, if_pos (by simp), if_pos (.inr h2)])
          clear hc
          go_enter Tryz.func31, Tryz.ntmps31
          go_upto_region 1 with fail
          rw [HW1.out]
          go_wp2_with fail
          refine (stepvalid_any _ m us ad W1 (HV.out.ext HX.out) hb1).mono ?_
          rintro e w2 ⟨rfl, hx2⟩
          have hy2 := HX.out.step hx2
          clear f0 f1 f2 hx2
          go_wp2_with fail
          refine (valid_at l w2 hb2 hl).mono ?_
          rintro e w3 ⟨rfl, hx3⟩
          have HY := hid (hy2.step hx3)
          go_wp2
          go_ret
          exact ⟨by rw [HC.out]; rfl, HY.out⟩
        · have HC : Hid (c = 0) := hid (by rw [hc.out, if_pos (by simp), if_neg (by omega)])
          clear hc
          go_enter Tryz.func31, Tryz.ntmps31
          go_upto_region 1 with fail
          rw [HW1.out]
          go_wp2_with fail
          refine (stepvalid_any _ m us ad W1 (HV.out.ext HX.out) hb1).mono ?_
          rintro e w2 ⟨rfl, hx2⟩
          have hy2 := HX.out.step hx2
          clear f0 f1 f2 hx2
          go_wp2_with fail
          refine (valid_at l w2 hb2 hl).mono ?_
          rintro e w3 ⟨rfl, hx3⟩
          have HY := hid (hy2.step hx3)
          go_wp2
          go_ret
          exact ⟨by rw [HC.out]; rfl, HY.out⟩
theorem short_lt {l : List UInt8} (h : K.validL l = true) (hl : l.length ≤ 15) : (K.numL l).natAbs < 1000000000000000 := by
  obtain ⟨hd, -, -⟩ := body_all h
  obtain ⟨hval, hll⟩ := body_val h
  have h1 := K.dv_lt (K.body l) hd
  have h2 : 10 ^ (K.body l).length ≤ 10 ^ 15 := Nat.pow_le_pow_right (by omega) (by omega)
  have h3 : (10 : Nat) ^ 15 = 1000000000000000 := rfl
  omega
theorem rest_go {x m : Int} (hm : 2 ≤ m) : (x.tmod m + m).tmod m = (rOf m x : Int) := by
  have h1 := (rOf_lt (m := m) (x := x) (by omega)).2
  have h2 : x.tmod m = x - m * x.tdiv m := by have := Int.mul_tdiv_add_tmod x m; omega
  have h3 : -m < x.tmod m := by
    rcases Int.le_total 0 x with h | h
    · have := Int.tmod_nonneg m h
      omega
    · have e1 : x.tmod m = -((-x).tmod m) := by rw [Int.neg_tmod]; omega
      have e2 := Int.tmod_lt_of_pos (-x) (show 0 < m by omega)
      omega
  rw [Int.tmod_eq_emod_of_nonneg (by omega), h1, h2, show x - m * x.tdiv m + m = x + m * (1 - x.tdiv m) by rw [Int.mul_sub]; omega, Int.add_mul_emod_self_left]
theorem rest_wrap {x m : Int} (hm : 2 ≤ m) (hm2 : m ≤ 12) : (wrap64 (x.tmod m + m)).tmod m = (rOf m x : Int) := by
  have e2 := Int.tmod_lt_of_pos x (show 0 < m by omega)
  have e3 : -m < x.tmod m := by
    rcases Int.le_total 0 x with h | h
    · have := Int.tmod_nonneg m h
      omega
    · have e1 : x.tmod m = -((-x).tmod m) := by rw [Int.neg_tmod]; omega
      have e2 := Int.tmod_lt_of_pos (-x) (show 0 < m by omega)
      omega
  rw [IntWalk.wrap64_in _ (by omega)]
  exact rest_go hm
/-- the step of a short number is short -/
theorem step_small {m x : Int} {us ad : List Int} (h : mapP m us ad) (hx : x.natAbs < 1000000000000000) :
    (us.getD (rOf m x) 0 * x).natAbs ≤ 999000000000000000 ∧ (us.getD (rOf m x) 0 * x + ad.getD (rOf m x) 0).tdiv m = stepI m us ad x ∧ (stepI m us ad x).natAbs < 1000000000000000000 := by
  have hr := rule_at h x
  have hm := h.1
  have h1 := rOf_lt (m := m) (x := x) (by omega)
  unfold stepI
  generalize us.getD (rOf m x) 0 = u at *
  generalize ad.getD (rOf m x) 0 = a at *
  obtain ⟨r1, r2, r3, r4, r5⟩ := hr
  have hu : (u * x).natAbs ≤ 999000000000000000 := by
    rw [Int.natAbs_mul]
    have := Nat.mul_le_mul (show u.natAbs ≤ 999 by omega) (show x.natAbs ≤ 1000000000000000 by omega)
    omega
  have hdiv : m ∣ u * x + a := by
    have e : u * x + a = (u * (rOf m x : Int) + a) + m * (u * (x / m)) := by
      have h2 := Int.mul_ediv_add_emod x m
      have h3 : u * x = u * (m * (x / m)) + u * (x % m) := by rw [← Int.mul_add, h2]
      have h4 : u * (m * (x / m)) = m * (u * (x / m)) := by rw [← Int.mul_assoc, Int.mul_comm u m, Int.mul_assoc]
      rw [h1.2, h3, h4]; omega
    rw [e]
    exact Int.dvd_add (Int.dvd_of_emod_eq_zero r5) (Int.dvd_mul_right _ _)
  refine ⟨hu, Int.tdiv_eq_ediv_of_dvd hdiv, ?_⟩
  have h5 := Int.natAbs_ediv_le_natAbs (u * x + a) m
  omega
set_option maxRecDepth 100000 in
set_option maxHeartbeats 1600000 in
theorem short_any (v : Value) (m : Int) (us ad : List Int) (l : List UInt8) (w : World) (hv : MapV w v m us ad) (hM : Hid (mapP m us ad)) (hl : Hid (K.validL l = true)) (hs : l.length ≤ 15) (ht : Tab w) :
    Calls Tryz.prog 58 #[v, .string (Str l)] w (fun e w' => e = .returned (.tuple #[.string (Str (K.txt (stepI m us ad (K.numL l)))), .int .i64 0]) ∧ Ext w w') := by
  have HT := hid ht
  obtain ⟨A, n, cc, B, n2, d, rfl, hk, hkc, hl2, hld, ra, rb, bk, bl⟩ := hv
  have hx : Ext w (w.alloc (.cells #[.int .i64 m, .slice A n cc, .slice B n2 d] 24)) := (Ext.rfl' w).alloc' _
  have HX := hid hx
  have hk3 : ∀ w', Ext (w.alloc (.cells #[.int .i64 m, .slice A n cc, .slice B n2 d] 24)) w' → _ := fun w' e => three_facts e rfl
  obtain ⟨W1, hW1⟩ : ∃ W1, w.alloc (.cells #[.int .i64 m, .slice A n cc, .slice B n2 d] 24) = W1 := ⟨_, rfl⟩
  rw [hW1] at HX hk3
  have HK3 := hid hk3
  have HW1 := hid hW1
  have HRA := hid ra
  have HRB := hid rb
  have HK := hid hk
  have HL := hid hl2
  have hm2 : 2 ≤ m := hM.out.1
  have hm12 : m ≤ 12 := hM.out.2.1
  obtain ⟨x, hxe⟩ : ∃ x, K.numL l = x := ⟨_, rfl⟩
  have hxs := short_lt hl.out hs
  rw [hxe] at hxs
  have hstep := step_small hM.out hxs
  have hrl := rOf_lt (m := m) (x := x) (by omega)
  have hrule := rule_at hM.out x
  obtain ⟨r, hr⟩ : ∃ r, rOf m x = r := ⟨_, rfl⟩
  obtain ⟨u, hu⟩ : ∃ u, us.getD r 0 = u := ⟨_, rfl⟩
  obtain ⟨a, ha⟩ : ∃ a, ad.getD r 0 = a := ⟨_, rfl⟩
  have hgo := rest_wrap (x := x) hm2 hm12
  rw [hr] at hstep hrl hrule hgo
  rw [hu, ha] at hstep hrule
  obtain ⟨y, hy⟩ : ∃ y, stepI m us ad x = y := ⟨_, rfl⟩
  rw [hy] at hstep
  have HY := hid hy
  have HU := hid hu
  have HA := hid ha
  have HGO := hid hgo
  have HST := hid hstep
  have HNX := hid hxe
  have hrn : r < n := by have := hM.out.2.2.1; omega
  have hrn2 : r < n2 := by have := hM.out.2.2.2.1; omega
  have hrm : (r : Int) < m := hrl.1
  have a1 : -999999 ≤ a := hrule.2.2.1
  have a2 : a ≤ 999999 := hrule.2.2.2.1
  rw [hxe, hy]
  clear hx hk3 hW1 ra rb hk hl2 hstep hrl hrule hgo hr hu ha hy hxe
  go_enter Tryz.func58, Tryz.ntmps58
  go_upto_region 1 with fail
  rw [HW1.out]
  go_wp2_with fail
  refine (parse64_any l W1 hl.out (by omega)).mono ?_
  rintro e w2 ⟨rfl, hx2⟩
  rw [HNX.out]
  obtain ⟨f0, f1, f2, -⟩ := HK3.out _ hx2
  obtain ⟨ba, oa, eA, hba, hca⟩ := ((HRA.out.ext HX.out).ext hx2).atI (k := r) (by rw [HK.out]; exact hrn)
  obtain ⟨bb, ob, eB, hbb, hcb⟩ := ((HRB.out.ext HX.out).ext hx2).atI (k := r) (by rw [HL.out]; exact hrn2)
  subst eA eB
  rw [HU.out] at hca
  rw [HA.out] at hcb
  have HXX := hid (HX.out.step hx2)
  clear hba hbb hx2
  go_wp2_with fail
  go_upto_region 6 with fail
  rw [HGO.out]
  have h0 : (u * x).natAbs ≤ 999000000000000000 := HST.out.1
  obtain ⟨q, hq⟩ : ∃ q, u * x = q := ⟨_, rfl⟩
  rw [hq] at h0
  have hd0 := HST.out.2.1
  rw [hq] at hd0
  have hy0 : y.natAbs < 1000000000000000000 := HST.out.2.2
  have hy1 : -1000000000000000000 ≤ y := by omega
  have hy2 : y ≤ 1000000000000000000 := by omega
  have hin : (r : Int) < (n : Int) := by omega
  have hin2 : (r : Int) < (n2 : Int) := by omega
  have q1 : IntKind.i64.wrap (u * x) = q := by rw [hq]; exact IntWalk.i64_in _ (by omega)
  have q2 : IntKind.i64.wrap (q + a) = q + a := IntWalk.i64_in _ (by omega)
  have q3 : IntKind.i64.wrap ((q + a).tdiv m) = y := by rw [hd0]; exact IntWalk.i64_in _ (by omega)
  have Q := hid hq
  have D := hid hd0
  clear hq hd0 hy0 h0
  go_quiet (fail)
  clear q1 q2 q3
  have HXN := hid (HXX.out.drewN nq)
  clear f0 f1 f2 hca hcb
  go_wp2_with fail
  refine (format_any y _ (by omega) (by omega) ((HT.out.ext HXN.out))).mono ?_
  rintro e w3 ⟨rfl, hx3⟩
  have HZ := hid (HXN.out.step hx3)
  go_wp2
  go_ret2
  exact ⟨rfl, HZ.out⟩
end Go.Proofs.YtoilkfohhhidpaaGreatDoor
