/- the law TopWords -/
import Derived.Test.YtimokpcopeldfaaGreatDoorJG19
import Derived.Test.YtimokpcopeldfaaGreatDoorJG20
import Derived.Test.YtimokpcopeldfaaGreatDoorJG13
set_option linter.unusedSimpArgs false
set_option linter.unusedVariables false
namespace Go.Proofs.YtimokpcopeldfaaGreatDoor
open Go.RowKit
theorem parse_c (l : List UInt8) (s : ByteArray) (n : Int) (w : World) (hv : Hid (K.validL l = true)) (hs : Hid (Str l = s)) (hn : Hid (K.numL l = n)) : Calls Tryz.prog 21 #[.string s] w (RefPost n w) := by
  have h := parse_any l w hv.out
  rwa [hs.out, hn.out] at h
theorem is_nat {vs : List Int} (h : ∀ r ∈ vs, 0 ≤ r) : Is vs = I64s (vs.map Int.toNat) := by
  induction vs with
  | nil => rfl
  | cons x r ih =>
    have h1 := ih (fun y hy => h y (List.mem_cons_of_mem _ hy))
    have h2 := h x (List.mem_cons_self ..)
    simp only [Is, I64s, List.map_cons, List.map_map] at h1 ⊢
    rw [h1]
    congr 2
    simp [Int.toNat_of_nonneg h2]
theorem nb_int {B g : Nat} {w : World} (h : NB B w g) : NoIntB w g := h.noInt
theorem nb_int2 {B g i : Nat} {b : Bool} {w : World} (h : NB B w g) : NoIntB (w.setCell ⟨g, i, none⟩ (.bool b)) g := h.noInt.setB
theorem wordI_at {m : Int} {us ad : List Int} {x : Int} {j k : Nat} (h : j < k) : (wordI m us ad k x).getD j 0 = orbN m us ad j x % m := by
  simp [wordI, List.getD_eq_getElem?_getD, h]
theorem fac_next {m : Int} {us ad : List Int} (hM : mapP m us ad) (X : Int) {j k : Nat} (h : j < k) : ∃ r : Nat, (wordI m us ad k X).getD j 0 = (r : Int) ∧ r < us.length ∧ growN m us ad (j + 1) X = growN m us ad j X * us.getD r 0 ∧ 1 ≤ us.getD r 0 ∧ us.getD r 0 ≤ 999 := by
  have hr := rOf_lt (m := m) (x := orbN m us ad j X) (by have := hM.1; omega)
  have hu := rule_at hM (orbN m us ad j X)
  have hl : us.length = m.toNat := by have := hM.2.2.1; omega
  exact ⟨rOf m (orbN m us ad j X), by rw [wordI_at h, hr.2], by have := hr.1; omega, rfl, hu.1, hu.2.1⟩
set_option maxRecDepth 100000 in
set_option maxHeartbeats 3200000 in
theorem words_no (A : Option Addr) (n cc : Nat) (B : Option Addr) (n2 d : Nat) (m : Int) (us ad : List Int) (l0 l1 : List UInt8) (s0 s1 : ByteArray) (Wd : Option Addr) (wn wc : Nat) (ws : List Int) (w : World) (hv : MapV w (.agg #[.int .i64 m, .slice A n cc, .slice B n2 d]) m us ad) (hw : Rd w Wd (Is ws)) (hl : ws.length = wn) (hwb : wn ≤ 140737488351232) (HS0 : Hid (Str l0 = s0)) (HS1 : Hid (Str l1 = s1)) (HLN : Hid (∀ l ∈ [l0, l1], l.length ≤ 140737488351232)) (ht : Tab w) (x1 x2 : Bool) (hb1 : Hid (mapB m us ad = x1)) (hb2 : Hid ([l0, l1].all shortB = x2)) (HN : Hid (¬ (x1 = true ∧ x2 = true))) :
    Calls Tryz.prog 8 #[.agg #[.int .i64 m, .slice A n cc, .slice B n2 d], .agg #[.string s0, .string s1], .slice Wd wn wc] w (TruePost w) := by
  have HT := hid ht
  have HV := hid hv
  have HWD := hid hw
  have HL := hid hl
  have hx : Ext w ((w.alloc (.cells #[.int .i64 m, .slice A n cc, .slice B n2 d] 24)).alloc (.cells #[.string s0, .string s1] 64)) := ((Ext.rfl' w).alloc' _).alloc' _
  have r1 : Row ((w.alloc (.cells #[.int .i64 m, .slice A n cc, .slice B n2 d] 24)).alloc (.cells #[.string s0, .string s1] 64)) w.heap.size 24 [.int .i64 m, .slice A n cc, .slice B n2 d] := (Row.new w _ _).alloc _
  have r2 : Row ((w.alloc (.cells #[.int .i64 m, .slice A n cc, .slice B n2 d] 24)).alloc (.cells #[.string s0, .string s1] 64)) (w.heap.size + 1) 64 [.string s0, .string s1] := by
    have := Row.new (w.alloc (.cells #[.int .i64 m, .slice A n cc, .slice B n2 d] 24)) 64 [.string s0, .string s1]
    rwa [World.size_alloc] at this
  obtain ⟨w1, hW1⟩ : ∃ w1, ((w.alloc (.cells #[.int .i64 m, .slice A n cc, .slice B n2 d] 24)).alloc (.cells #[.string s0, .string s1] 64)) = w1 := ⟨_, rfl⟩
  rw [hW1] at hx r1 r2
  have HW1 := hid hW1
  have RM := hid r1
  have RA := hid r2
  have HV := hid (HV.out.ext hx)
  have HWD := hid (HWD.out.ext hx)
  have HT := hid (HT.out.ext hx)
  have EX := hid hx
  clear hW1 r1 r2 hx hv hw hl ht
  go_enter Tryz.func8, Tryz.ntmps8
  go_upto_region 1 with fail
  rw [HW1.out]
  clear HW1
  obtain ⟨f0, f1, f2, -, -, -⟩ := row_facts3 RM.out
  go_wp2_with fail
  refine (refvalid_any _ m us ad w1 HV.out hb1).mono ?_
  rintro e w2 ⟨rfl, hx⟩
  replace HV := hid (HV.out.ext hx)
  replace RM := hid (RM.out.ext hx)
  replace RA := hid (RA.out.ext hx)
  replace HWD := hid (HWD.out.ext hx)
  replace HT := hid (HT.out.ext hx)
  replace EX := hid (EX.out.step hx)
  clear hx f0 f1 f2
  cases x1 with
  | false =>
    go_wp2_with fail
    refine (leads_any w2 HT.out).mono ?_
    rintro e wL ⟨rfl, hx⟩
    have EL := hid (EX.out.step hx)
    go_wp2
    go_ret
    exact ⟨rfl, EL.out⟩
  | true =>
    obtain ⟨g0, g1, -, -⟩ := row_facts RA.out
    go_wp2_with fail
    refine (hshort_any (some ⟨w.heap.size + 1, 0, none⟩) 2 2 [l0, l1] w2 (by have h := RA.out.rd0; rw [← HS0.out, ← HS1.out] at h; exact h) rfl (by omega) HLN.out hb2).mono ?_
    rintro e w3 ⟨rfl, hx⟩
    replace HV := hid (HV.out.ext hx)
    replace RM := hid (RM.out.ext hx)
    replace RA := hid (RA.out.ext hx)
    replace HWD := hid (HWD.out.ext hx)
    replace HT := hid (HT.out.ext hx)
    replace EX := hid (EX.out.step hx)
    clear hx g0 g1
    cases x2 with
    | false =>
      go_wp2_with fail
      refine (leads_any w3 HT.out).mono ?_
      rintro e wL ⟨rfl, hx⟩
      have EL := hid (EX.out.step hx)
      go_wp2
      go_ret
      exact ⟨rfl, EL.out⟩
    | true => exact (HN.out (by simp)).elim
set_option maxRecDepth 100000 in
set_option maxHeartbeats 102400000 in
theorem words_yes (ba oa n cc : Nat) (B : Option Addr) (n2 d : Nat) (m : Int) (us ad : List Int) (l0 l1 : List UInt8) (s0 s1 : ByteArray) (Wd : Option Addr) (wn wc : Nat) (ws : List Int) (w : World) (hv : MapV w (.agg #[.int .i64 m, .slice (some ⟨ba, oa, none⟩) n cc, .slice B n2 d]) m us ad) (hw : Rd w Wd (Is ws)) (hl : ws.length = wn) (hwb : wn ≤ 140737488351232) (HS0 : Hid (Str l0 = s0)) (HS1 : Hid (Str l1 = s1)) (HLN : Hid (∀ l ∈ [l0, l1], l.length ≤ 140737488351232)) (ht : Tab w) (x4 : Bool) (hb4 : Hid (regB m us = x4)) (hra : Rd w (some ⟨ba, oa, none⟩) (Is us)) (hn1 : us.length = n) (hM : Hid (mapP m us ad)) (hb2 : Hid ([l0, l1].all shortB = true)) :
    Calls Tryz.prog 8 #[.agg #[.int .i64 m, .slice (some ⟨ba, oa, none⟩) n cc, .slice B n2 d], .agg #[.string s0, .string s1], .slice Wd wn wc] w (TruePost w) := by
  have hb1 : Hid (mapB m us ad = true) := hid ((mapB_iff m us ad).2 hM.out)
  have HRA := hid hra
  have HN1 := hid hn1
  have HT := hid ht
  have HV := hid hv
  have HWD := hid hw
  have HL := hid hl
  have hx : Ext w ((w.alloc (.cells #[.int .i64 m, .slice (some ⟨ba, oa, none⟩) n cc, .slice B n2 d] 24)).alloc (.cells #[.string s0, .string s1] 64)) := ((Ext.rfl' w).alloc' _).alloc' _
  have r1 : Row ((w.alloc (.cells #[.int .i64 m, .slice (some ⟨ba, oa, none⟩) n cc, .slice B n2 d] 24)).alloc (.cells #[.string s0, .string s1] 64)) w.heap.size 24 [.int .i64 m, .slice (some ⟨ba, oa, none⟩) n cc, .slice B n2 d] := (Row.new w _ _).alloc _
  have r2 : Row ((w.alloc (.cells #[.int .i64 m, .slice (some ⟨ba, oa, none⟩) n cc, .slice B n2 d] 24)).alloc (.cells #[.string s0, .string s1] 64)) (w.heap.size + 1) 64 [.string s0, .string s1] := by
    have := Row.new (w.alloc (.cells #[.int .i64 m, .slice (some ⟨ba, oa, none⟩) n cc, .slice B n2 d] 24)) 64 [.string s0, .string s1]
    rwa [World.size_alloc] at this
  obtain ⟨w1, hW1⟩ : ∃ w1, ((w.alloc (.cells #[.int .i64 m, .slice (some ⟨ba, oa, none⟩) n cc, .slice B n2 d] 24)).alloc (.cells #[.string s0, .string s1] 64)) = w1 := ⟨_, rfl⟩
  rw [hW1] at hx r1 r2
  have HW1 := hid hW1
  have RM := hid r1
  have RA := hid r2
  have HV := hid (HV.out.ext hx)
  have HWD := hid (HWD.out.ext hx)
  have HT := hid (HT.out.ext hx)
  have EX := hid hx
  have HRA := hid (HRA.out.ext hx)
  clear hW1 r1 r2 hx hv hw hl ht hra hn1
  go_enter Tryz.func8, Tryz.ntmps8
  go_upto_region 1 with fail
  rw [HW1.out]
  clear HW1
  obtain ⟨f0, f1, f2, -, -, -⟩ := row_facts3 RM.out
  go_wp2_with fail
  refine (refvalid_any _ m us ad w1 HV.out hb1).mono ?_
  rintro e w2 ⟨rfl, hx⟩
  replace HV := hid (HV.out.ext hx)
  replace RM := hid (RM.out.ext hx)
  replace RA := hid (RA.out.ext hx)
  replace HWD := hid (HWD.out.ext hx)
  replace HT := hid (HT.out.ext hx)
  replace HRA := hid (HRA.out.ext hx)
  replace EX := hid (EX.out.step hx)
  clear hx f0 f1 f2
  obtain ⟨g0, g1, -, -⟩ := row_facts RA.out
  go_wp2_with fail
  refine (hshort_any (some ⟨w.heap.size + 1, 0, none⟩) 2 2 [l0, l1] w2 (by have h := RA.out.rd0; rw [← HS0.out, ← HS1.out] at h; exact h) rfl (by omega) HLN.out hb2).mono ?_
  rintro e w3 ⟨rfl, hx⟩
  replace HV := hid (HV.out.ext hx)
  replace RM := hid (RM.out.ext hx)
  replace RA := hid (RA.out.ext hx)
  replace HWD := hid (HWD.out.ext hx)
  replace HT := hid (HT.out.ext hx)
  replace HRA := hid (HRA.out.ext hx)
  replace EX := hid (EX.out.step hx)
  clear hx g0 g1
  have hm1 : 1 ≤ m := by have := hM.out.1; omega
  have HSH := hid (List.all_eq_true.1 hb2.out)
  have HA0 := hid (HSH.out l0 (by simp))
  have HA1 := hid (HSH.out l1 (by simp))
  have hv0 : Hid (K.validL l0 = true) := hid (by have h := HA0.out; unfold shortB at h; exact (Bool.and_eq_true _ _ ▸ h).2)
  have hv1 : Hid (K.validL l1 = true) := hid (by have h := HA1.out; unfold shortB at h; exact (Bool.and_eq_true _ _ ▸ h).2)
  have hz0 : Hid (l0.length ≤ 601) := hid (by have h := HA0.out; unfold shortB at h; exact of_decide_eq_true (Bool.and_eq_true _ _ ▸ h).1)
  have hz1 : Hid (l1.length ≤ 601) := hid (by have h := HA1.out; unfold shortB at h; exact of_decide_eq_true (Bool.and_eq_true _ _ ▸ h).1)
  have SX := hid (valid_sm hv0.out hz0.out)
  have SD := hid (valid_sm hv1.out hz1.out)
  obtain ⟨X, hX⟩ : ∃ X, K.numL l0 = X := ⟨_, rfl⟩
  obtain ⟨D, hD⟩ : ∃ D, K.numL l1 = D := ⟨_, rfl⟩
  rw [hX] at SX
  rw [hD] at SD
  have HX := hid hX
  have HD := hid hD
  clear hX hD HSH HA0 HA1 hz0 hz1 hb2
  obtain ⟨f0, f1, f2, -, -, -⟩ := row_facts3 RM.out
  go_wp2_with fail
  refine (proper_any _ m us ad Wd wn wc ws w3 HV.out hM HWD.out HL.out hwb).mono ?_
  rintro e w4 ⟨L7, k, c7, rfl, hk, hr7, hl7, hx⟩
  replace HV := hid (HV.out.ext hx)
  replace RM := hid (RM.out.ext hx)
  replace RA := hid (RA.out.ext hx)
  replace HWD := hid (HWD.out.ext hx)
  replace HT := hid (HT.out.ext hx)
  replace HRA := hid (HRA.out.ext hx)
  replace EX := hid (EX.out.step hx)
  obtain ⟨vs, hvs⟩ : ∃ vs, propI m ws 40 = vs := ⟨_, rfl⟩
  have HVB : Hid (∀ r ∈ vs, 0 ≤ r ∧ r < m) := hid (by rw [← hvs]; exact propI_in (by omega) ws 40)
  rw [hvs] at hr7 hl7
  have R7 := hid hr7
  have HL7 := hid hl7
  have HK := hid hk
  clear hx f0 f1 f2 hr7 hl7 hvs hk HWD
  obtain ⟨g0, g1, -, -⟩ := row_facts RA.out
  have hcur : Ext w4 w4 := Ext.rfl' _
  have HS : Hid (∀ W', Ext w4 W' → W'.cell? ⟨w.heap.size + 1, 0, none⟩ = some (.string s0) ∧ W'.cell? ⟨w.heap.size + 1, 1, none⟩ = some (.string s1)) := hid (by
    intro W' e
    obtain ⟨x0, y0, -, -⟩ := row_facts (RA.out.ext e)
    exact ⟨x0, y0⟩)
  go_upto_region 5 with fail
  go_cut [9, 10] (fun s9 s10 wx => ∃ (WN : World) (H9 : Nat) (b9 : Bool) (A9 : Option Addr) (k9 c9 : Nat) (H10 : Nat) (b10 : Bool) (A10 : Option Addr) (k10 c10 : Nat), WN = wx ∧ s9 = .pointer (some ⟨H9, 0, none⟩) ∧ s10 = .pointer (some ⟨H10, 0, none⟩) ∧ Row wx H9 47 [.bool b9, .slice A9 k9 c9] ∧ Row wx H10 47 [.bool b10, .slice A10 k10 c10] ∧ RefV wx (.agg #[.bool b9, .slice A9 k9 c9]) X ∧ RefV wx (.agg #[.bool b10, .slice A10 k10 c10]) D ∧ Ext w4 wx)
  case first => as_aux_lemma =>
    clear HT HV RM RA HRA R7 HL7 HVB HK EX HN1 HL SX SD hb1 hM hwb HLN
    go_region_held3 (fun W' => W'.cell? ⟨w.heap.size + 1, 0, none⟩ = some (.string s0) ∧ W'.cell? ⟨w.heap.size + 1, 1, none⟩ = some (.string s1))
      (first | (with_reducible exact HS.out _ hcur) | (with_reducible exact HS.out _ hcur.drew') | (refine HS.out _ ?_; (repeat (first | (with_reducible exact hcur) | (with_reducible refine Ext.alloc' ?_ _) | (with_reducible refine Ext.drew' ?_) | (with_reducible refine Ext.set' ?_ ?_ _))); all_goals (first | exact HBA.out.1 | exact HBB.out.1 | (have := hcur.size; simp; omega))) | go_keep)
      (first
        | (go_at_call_of 21 (Value.string s0); refine (parse_c l0 s0 X _ hv0 HS0 HX).mono ?_; rintro e w20 ⟨v20, rfl, hv20, hx⟩; (first | (have HBA := hid (HBA.out.ext hx); have HBB := hid (HBB.out.ext hx)) | (have HBB := hid ((NB.new hcur.size).ext hx); have HNE := hid (HBA.out.lt); have HBA := hid (HBA.out.ext (Ext.step ((Ext.rfl' _).alloc' _) hx))) | (have HBA := hid (HBA.out.ext hx)) | (have HBA := hid ((NB.two1 hcur.size).ext hx); have HBB := hid ((NB.two2 hcur.size).ext hx); have HNE := hid (NB.two_lt hcur.size)) | (have HBA := hid ((NB.two1D hcur.size).ext hx); have HBB := hid ((NB.two2D hcur.size).ext hx); have HNE := hid (NB.two_lt hcur.size)) | (have HBA := hid ((NB.new hcur.size).ext hx)) | (have HBA := hid ((NB.newD hcur.size).ext hx)) | skip); have hcur := Ext.step hcur (by first | exact hx | exact Ext.undrew hx | exact Ext.step ((Ext.rfl' _).alloc' _) hx | exact Ext.step (((Ext.rfl' _).alloc' _).alloc' _) hx | exact Ext.step ((Ext.rfl' _).drew'.alloc' _) hx | exact Ext.step (((Ext.rfl' _).drew'.alloc' _).alloc' _) hx); have HV20 := hid hv20; obtain ⟨A20, k20, c20, xs20, b20, rfl, -⟩ := hv20; (first | (have hyy := row_facts HBA.out.2; obtain ⟨y0, y1, y2, y3⟩ := hyy; have n1 := HBA.out.ne; have n2 := HBA.out.ne'; have z0 := fun o => (row_facts (HBA.out.2.alloc o)).1; have z1 := fun o => (row_facts (HBA.out.2.alloc o)).2.1; have z2 := fun o => (row_facts (HBA.out.2.alloc o)).2.2.1; have z3 := fun o => (row_facts (HBA.out.2.alloc o)).2.2.2) | skip); (first | (have hxx := row_facts HBB.out.2; obtain ⟨x0, x1, x2, x3⟩ := hxx; have n3 := HBB.out.ne; have n4 := HBB.out.ne'; have n5 := Nat.ne_of_lt HNE.out; have n6 := (Nat.ne_of_lt HNE.out).symm) | skip))
        | (go_at_call_of 21 (Value.string s1); refine (parse_c l1 s1 D _ hv1 HS1 HD).mono ?_; rintro e w21 ⟨v21, rfl, hv21, hx⟩; (first | (have HBA := hid (HBA.out.ext hx); have HBB := hid (HBB.out.ext hx)) | (have HBB := hid ((NB.new hcur.size).ext hx); have HNE := hid (HBA.out.lt); have HBA := hid (HBA.out.ext (Ext.step ((Ext.rfl' _).alloc' _) hx))) | (have HBA := hid (HBA.out.ext hx)) | (have HBA := hid ((NB.two1 hcur.size).ext hx); have HBB := hid ((NB.two2 hcur.size).ext hx); have HNE := hid (NB.two_lt hcur.size)) | (have HBA := hid ((NB.two1D hcur.size).ext hx); have HBB := hid ((NB.two2D hcur.size).ext hx); have HNE := hid (NB.two_lt hcur.size)) | (have HBA := hid ((NB.new hcur.size).ext hx)) | (have HBA := hid ((NB.newD hcur.size).ext hx)) | skip); have HV20 := hid (HV20.out.ext (by first | exact hx | exact Ext.undrew hx | exact Ext.step ((Ext.rfl' _).alloc' _) hx | exact Ext.step (((Ext.rfl' _).alloc' _).alloc' _) hx | exact Ext.step ((Ext.rfl' _).drew'.alloc' _) hx | exact Ext.step (((Ext.rfl' _).drew'.alloc' _).alloc' _) hx)); have hcur := Ext.step hcur (by first | exact hx | exact Ext.undrew hx | exact Ext.step ((Ext.rfl' _).alloc' _) hx | exact Ext.step (((Ext.rfl' _).alloc' _).alloc' _) hx | exact Ext.step ((Ext.rfl' _).drew'.alloc' _) hx | exact Ext.step (((Ext.rfl' _).drew'.alloc' _).alloc' _) hx); have HV21 := hid hv21; obtain ⟨A21, k21, c21, xs21, b21, rfl, -⟩ := hv21; (first | (have hyy := row_facts HBA.out.2; obtain ⟨y0, y1, y2, y3⟩ := hyy; have n1 := HBA.out.ne; have n2 := HBA.out.ne'; have z0 := fun o => (row_facts (HBA.out.2.alloc o)).1; have z1 := fun o => (row_facts (HBA.out.2.alloc o)).2.1; have z2 := fun o => (row_facts (HBA.out.2.alloc o)).2.2.1; have z3 := fun o => (row_facts (HBA.out.2.alloc o)).2.2.2) | skip); (first | (have hxx := row_facts HBB.out.2; obtain ⟨x0, x1, x2, x3⟩ := hxx; have n3 := HBB.out.ne; have n4 := HBB.out.ne'; have n5 := Nat.ne_of_lt HNE.out; have n6 := (Nat.ne_of_lt HNE.out).symm) | skip)))
    all_goals
      go_wp2_with fail
      go_meet
      refine ⟨_, _, b20, A20, k20, c20, _, b21, A21, k21, c21, rfl, rfl, rfl, ?_, ?_, HV20.out.kept ?_, HV21.out.kept ?_, ?_⟩
      · first
          | (with_reducible exact Row.alloc (Row.new w21 _ [.bool b20, .slice A20 k20 c20]) _)
          | (with_reducible exact Row.new2 w21 _ _ [.bool b20, .slice A20 k20 c20])
          | (with_reducible exact Row.far2 (Row.put2 (Row.alloc (NB.row HBA.out) _)) (Nat.ne_of_lt HBA.out.lt))
          | (with_reducible exact Row.far2 (Row.put2 (NB.row HBA.out)) (Nat.ne_of_lt HNE.out))
          | (with_reducible exact Row.far2 (Row.new w21 _ [.bool b20, .slice A20 k20 c20]) (Nat.ne_of_lt HBA.out.lt).symm)
          | (with_reducible exact Row.far2 (Row.put2 (NB.row HBB.out)) (Nat.ne_of_lt HNE.out).symm)
      · first
          | (with_reducible exact Row.new2 w21 _ _ [.bool b21, .slice A21 k21 c21])
          | (with_reducible exact Row.alloc (Row.new w21 _ [.bool b21, .slice A21 k21 c21]) _)
          | (with_reducible exact Row.put2 (Row.far2 (Row.new w21 _ [.bool false, .slice none 0 0]) (Nat.ne_of_lt HBA.out.lt).symm))
          | (with_reducible exact Row.put2 (Row.alloc (NB.row HBA.out) _))
          | (with_reducible exact Row.put2 (Row.far2 (NB.row HBB.out) (Nat.ne_of_lt HNE.out).symm))
          | (with_reducible exact Row.put2 (Row.far2 (NB.row HBA.out) (Nat.ne_of_lt HNE.out)))
      · (repeat (first | (with_reducible exact KeepRd.rfl' _) | (with_reducible refine KeepRd.allocN ?_) | (with_reducible refine KeepRd.setN ?_ ?_)))
        all_goals (repeat (first | (with_reducible exact HBA.out.noInt) | (with_reducible exact HBB.out.noInt) | (with_reducible exact NoIntB.newN _ _ _ _ _ _) | (with_reducible refine NoIntB.setB ?_) | (with_reducible refine NoIntB.setS ?_) | (with_reducible refine NoIntB.allocN ?_)))
      · (repeat (first | (with_reducible exact KeepRd.rfl' _) | (with_reducible refine KeepRd.allocN ?_) | (with_reducible refine KeepRd.setN ?_ ?_)))
        all_goals (repeat (first | (with_reducible exact HBA.out.noInt) | (with_reducible exact HBB.out.noInt) | (with_reducible exact NoIntB.newN _ _ _ _ _ _) | (with_reducible refine NoIntB.setB ?_) | (with_reducible refine NoIntB.setS ?_) | (with_reducible refine NoIntB.allocN ?_)))
      · (repeat (first | (with_reducible exact hcur) | (with_reducible refine Ext.alloc' ?_ _) | (with_reducible refine Ext.set' ?_ ?_ _)))
        all_goals (first | exact HBA.out.1 | exact HBB.out.1 | (have := hcur.size; simp; omega))
  case rest => as_aux_lemma =>
    obtain ⟨w5, H9, b9, A9, k9, c9, H10, b10, A10, k10, c10, rfl, rfl, rfl, hr9, hr10, hn9, hn10, hx⟩ := hcut
    have B9 := hid hr9
    have B10 := hid hr10
    have V9 := hid hn9
    have V10 := hid hn10
    replace HV := hid (HV.out.ext hx)
    replace RM := hid (RM.out.ext hx)
    replace RA := hid (RA.out.ext hx)
    replace HT := hid (HT.out.ext hx)
    replace HRA := hid (HRA.out.ext hx)
    replace R7 := hid (R7.out.ext hx)
    replace EX := hid (EX.out.step hx)
    clear hr9 hr10 hn9 hn10 hx hcur HS RA g0 g1 HS0 HS1 HLN HX HD hv0 hv1
    obtain ⟨Md, hMd⟩ : ∃ Md, m ^ k = Md := ⟨_, rfl⟩
    obtain ⟨Y, hY⟩ : ∃ Y, X + D * Md = Y := ⟨_, rfl⟩
    obtain ⟨Ws, hWs⟩ : ∃ Ws, wordI m us ad k X = Ws := ⟨_, rfl⟩
    obtain ⟨Xk, hXk⟩ : ∃ Xk, orbN m us ad k X = Xk := ⟨_, rfl⟩
    obtain ⟨Yk, hYk⟩ : ∃ Yk, orbN m us ad k Y = Yk := ⟨_, rfl⟩
    obtain ⟨G, hG⟩ : ∃ G, growN m us ad k X = G := ⟨_, rfl⟩
    have SQ := hid (words_sm (us := us) (ad := ad) hM.out SX.out SD.out HK.out)
    have SL := hid (words_line (us := us) (ad := ad) hM.out SX.out SD.out HK.out)
    have SW := hid (words_same (us := us) (ad := ad) (show 0 < m by omega) k X D)
    have SE := hid (words_end (us := us) (ad := ad) (show 0 < m by omega) k X D)
    rw [hMd] at SQ SL SW SE
    rw [hWs] at SW SL
    rw [hG] at SQ SE
    rw [hY] at SQ SL SW SE
    rw [hYk] at SL SE
    rw [hXk] at SE
    have HFX : Hid (∀ j, j ≤ k → K.fits (orbN m us ad j X)) := hid (fun j hj => (SX.out.orb hM.out (k := j) (by have := HK.out; omega) (f := 90) (by omega)).fits (by omega))
    have HFY : Hid (∀ j, j ≤ k → K.fits (orbN m us ad j Y)) := hid (fun j hj => (SQ.out.1.orb hM.out (k := j) (by have := HK.out; omega) (f := 100) (by omega)).fits (by omega))
    have BG : Hid (X.natAbs ≤ BIG ∧ D.natAbs ≤ BIG ∧ Md.natAbs ≤ BIG ∧ (D * Md).natAbs ≤ BIG ∧ Y.natAbs ≤ BIG ∧ Xk.natAbs ≤ BIG ∧ G.natAbs ≤ BIG ∧ (D * G).natAbs ≤ BIG ∧ Yk.natAbs ≤ BIG) := hid (by
      have t15 : ∀ x : Int, x.natAbs ≤ TOP 14 → x.natAbs ≤ BIG := fun x h => le_big (Nat.lt_of_le_of_lt h (Nat.lt_of_lt_of_le (show TOP 14 < 1000000000 * TOP 14 by have := TOP_pos 14; omega) (top_step 14 15 (by omega)))) (by omega)
      refine ⟨SX.out.big (by omega), SD.out.big (by omega), ?_, SQ.out.2.1.big (by omega), SQ.out.1.big (by omega), ?_, ?_, SQ.out.2.2.big (by omega), ?_⟩
      · rw [← hMd]; exact t15 _ (pow_le_top (by omega) (by have := hM.out.2.1; omega) HK.out)
      · rw [← hXk]; exact fits_big (HFX.out k (Nat.le_refl _))
      · rw [← hG]; exact t15 _ (grow_top14 hM.out X HK.out)
      · rw [← hYk]; exact fits_big (HFY.out k (Nat.le_refl _)))
    have HMd := hid hMd
    have HYe := hid hY
    have HWs := hid hWs
    have HXk := hid hXk
    have HYk := hid hYk
    have HG := hid hG
    have SW : Hid (wordI m us ad k Y = Ws) := hid SW.out
    have HWL : Hid (Ws.length = k) := hid (by rw [← hWs]; exact word_len _ _ _ _ _)
    have HWB : Hid (wordB m Ws = true) := hid (by rw [← hWs]; exact word_B (by omega) (by have := HK.out; omega))
    have hk40 : k ≤ 40 := HK.out
    have hm1000 : m ≤ 1000 := by have := hM.out.2.1; omega
    have hm0 : 0 ≤ m := by omega
    clear hMd hY hWs hXk hYk hG
    obtain ⟨f0, f1, f2, -, -, -⟩ := row_facts3 RM.out
    go_wp2_with fail
    refine (hpower_any m k w5 hm0 hm1000 hk40).mono ?_
    rintro e w6 ⟨v11, rfl, hv11, hx⟩
    replace HV := hid (HV.out.ext hx)
    replace RM := hid (RM.out.ext hx)
    replace HT := hid (HT.out.ext hx)
    replace HRA := hid (HRA.out.ext hx)
    replace R7 := hid (R7.out.ext hx)
    replace B9 := hid (B9.out.ext hx)
    replace B10 := hid (B10.out.ext hx)
    replace V9 := hid (V9.out.ext hx)
    replace V10 := hid (V10.out.ext hx)
    replace EX := hid (EX.out.step hx)
    have HV11 := hid hv11
    obtain ⟨A11, k11, c11, xs11, b11, rfl, -⟩ := hv11
    rw [HMd.out] at HV11
    clear hx f0 f1 f2
    have ha := (Ext.rfl' w6).alloc' (.cells #[.bool b11, .slice A11 k11 c11] 47)
    have hq : Row (w6.alloc (.cells #[.bool b11, .slice A11 k11 c11] 47)) w6.heap.size 47 [.bool b11, .slice A11 k11 c11] := Row.new w6 _ _
    obtain ⟨w7, hw7⟩ : ∃ w7, w6.alloc (.cells #[.bool b11, .slice A11 k11 c11] 47) = w7 := ⟨_, rfl⟩
    rw [hw7] at ha hq
    have Ew7 := hid hw7
    have B11 := hid hq
    replace HV := hid (HV.out.ext ha)
    replace RM := hid (RM.out.ext ha)
    replace HT := hid (HT.out.ext ha)
    replace HRA := hid (HRA.out.ext ha)
    replace R7 := hid (R7.out.ext ha)
    replace B9 := hid (B9.out.ext ha)
    replace B10 := hid (B10.out.ext ha)
    replace V9 := hid (V9.out.ext ha)
    replace V10 := hid (V10.out.ext ha)
    replace HV11 := hid (HV11.out.ext ha)
    replace EX := hid (EX.out.step ha)
    clear ha hq hw7
    go_upto_region 7 with fail
    rw [Ew7.out]
    clear Ew7
    obtain ⟨H11, hH11⟩ : ∃ H11, w6.heap.size = H11 := ⟨_, rfl⟩
    rw [hH11] at B11
    rw [hH11]
    have HH11 := hid hH11
    clear hH11
    obtain ⟨f0, f1, f2, -, -, -⟩ := row_facts3 RM.out
    obtain ⟨g0, g1, -, -⟩ := row_facts B9.out
    go_wp2_with fail
    refine (hafter_any _ _ m X us ad k w7 HV.out hM V9.out HFX (by omega)).mono ?_
    rintro e w8 ⟨v12, L12, q12, rfl, hv12, hr12, hx⟩
    replace HV := hid (HV.out.ext hx)
    replace RM := hid (RM.out.ext hx)
    replace HT := hid (HT.out.ext hx)
    replace HRA := hid (HRA.out.ext hx)
    replace R7 := hid (R7.out.ext hx)
    replace B9 := hid (B9.out.ext hx)
    replace B10 := hid (B10.out.ext hx)
    replace V9 := hid (V9.out.ext hx)
    replace V10 := hid (V10.out.ext hx)
    replace HV11 := hid (HV11.out.ext hx)
    replace B11 := hid (B11.out.ext hx)
    replace EX := hid (EX.out.step hx)
    rw [HXk.out] at hv12
    rw [HWs.out] at hr12
    have R12 := hid hr12
    have HV12 := hid hv12
    obtain ⟨A12, k12, c12, xs12, b12, rfl, -⟩ := hv12
    clear hx f0 f1 f2 g0 g1 hr12
    have ha := (Ext.rfl' w8).alloc' (.cells #[.bool b12, .slice A12 k12 c12] 47)
    have hq : Row (w8.alloc (.cells #[.bool b12, .slice A12 k12 c12] 47)) w8.heap.size 47 [.bool b12, .slice A12 k12 c12] := Row.new w8 _ _
    obtain ⟨w9, hw9⟩ : ∃ w9, w8.alloc (.cells #[.bool b12, .slice A12 k12 c12] 47) = w9 := ⟨_, rfl⟩
    rw [hw9] at ha hq
    have Ew9 := hid hw9
    have B12 := hid hq
    replace HV := hid (HV.out.ext ha)
    replace RM := hid (RM.out.ext ha)
    replace HT := hid (HT.out.ext ha)
    replace HRA := hid (HRA.out.ext ha)
    replace R7 := hid (R7.out.ext ha)
    replace B9 := hid (B9.out.ext ha)
    replace B10 := hid (B10.out.ext ha)
    replace V9 := hid (V9.out.ext ha)
    replace V10 := hid (V10.out.ext ha)
    replace HV11 := hid (HV11.out.ext ha)
    replace B11 := hid (B11.out.ext ha)
    replace R12 := hid (R12.out.ext ha)
    replace HV12 := hid (HV12.out.ext ha)
    replace EX := hid (EX.out.step ha)
    clear ha hq hw9
    go_upto_region 8 with fail
    rw [Ew9.out]
    clear Ew9
    obtain ⟨H12, hH12⟩ : ∃ H12, w8.heap.size = H12 := ⟨_, rfl⟩
    rw [hH12] at B12
    rw [hH12]
    have HH12 := hid hH12
    clear hH12
    have HS : Hid (∀ W', Ext w9 W' → W'.cell? ⟨H9, 0, none⟩ = some (.bool b9) ∧ W'.cell? ⟨H9, 1, none⟩ = some (.slice A9 k9 c9) ∧ W'.cell? ⟨H10, 0, none⟩ = some (.bool b10) ∧ W'.cell? ⟨H10, 1, none⟩ = some (.slice A10 k10 c10) ∧ W'.cell? ⟨H11, 0, none⟩ = some (.bool b11) ∧ W'.cell? ⟨H11, 1, none⟩ = some (.slice A11 k11 c11)) := hid (by
      intro W' e
      obtain ⟨x0, y0, -, -⟩ := row_facts (B9.out.ext e)
      obtain ⟨x1, y1, -, -⟩ := row_facts (B10.out.ext e)
      obtain ⟨x2, y2, -, -⟩ := row_facts (B11.out.ext e)
      exact ⟨x0, y0, x1, y1, x2, y2⟩)
    have hcur : Ext w9 w9 := Ext.rfl' _
    go_cut [14] (fun sx wx => ∃ (WN : World) (H14 : Nat) (b14 : Bool) (A14 : Option Addr) (k14 c14 : Nat), WN = wx ∧ sx = .pointer (some ⟨H14, 0, none⟩) ∧ Row wx H14 47 [.bool b14, .slice A14 k14 c14] ∧ RefV wx (.agg #[.bool b14, .slice A14 k14 c14]) Y ∧ Ext w9 wx)
    case first => as_aux_lemma =>
      clear HT HV RM HRA R7 R12 HV12 HL7 HVB HK EX HN1 HL SX SD hb1 hM hwb SQ SL SW SE HFX HFY HMd HWs HXk HYk HG HWL HWB hk40 hm1000 hm0 hm1 B9 B10 B11 B12 HH11 HH12
      go_region_held3 (fun W' => W'.cell? ⟨H9, 0, none⟩ = some (.bool b9) ∧ W'.cell? ⟨H9, 1, none⟩ = some (.slice A9 k9 c9) ∧ W'.cell? ⟨H10, 0, none⟩ = some (.bool b10) ∧ W'.cell? ⟨H10, 1, none⟩ = some (.slice A10 k10 c10) ∧ W'.cell? ⟨H11, 0, none⟩ = some (.bool b11) ∧ W'.cell? ⟨H11, 1, none⟩ = some (.slice A11 k11 c11))
        (first | (with_reducible exact HS.out _ hcur) | (with_reducible exact HS.out _ hcur.drew') | (with_reducible exact HS.out _ (hcur.alloc' _)) | (with_reducible exact HS.out _ (hcur.drew'.alloc' _)) | (with_reducible exact HS.out _ (hcur.alloc' _).drew') | exact HS.out _ ((hcur.set' HB2.out.1 _).set' HB2.out.1 _) | go_keep)
        (first
          | (go_at_call 31; refine (rmul_any _ _ D Md _ (V10.out.ext ?_) (HV11.out.ext ?_) BG.out.2.1 BG.out.2.2.1).mono ?_; (first | exact hcur | exact hcur.drew' | exact hcur.alloc' _ | exact hcur.drew'.alloc' _ | exact (hcur.alloc' _).drew'); (first | exact hcur | exact hcur.drew' | exact hcur.alloc' _ | exact hcur.drew'.alloc' _ | exact (hcur.alloc' _).drew'); rintro e w20 ⟨v20, rfl, hv20, hx⟩; (first | have HB2 := hid (HB2.out.ext hx) | have HB2 := hid ((NB.new hcur.size).ext hx) | have HB2 := hid ((NB.newD hcur.size).ext hx) | skip); have hcur := Ext.step hcur (by first | exact hx | exact Ext.undrew hx | exact Ext.step ((Ext.rfl' _).alloc' _) hx | exact Ext.step ((Ext.rfl' _).drew'.alloc' _) hx); have HV20 := hid hv20; obtain ⟨A20, k20, c20, xs20, b20, rfl, -⟩ := hv20; (first | (have hyy := row_facts HB2.out.2; obtain ⟨y0, y1, y2, y3⟩ := hyy) | skip))
          | (go_at_call 32; refine (radd_any _ _ X (D * Md) _ (V9.out.ext ?_) (HV20.out.ext ?_) BG.out.1 BG.out.2.2.2.1).mono ?_; (first | exact hcur | exact hcur.drew' | exact hcur.alloc' _ | exact hcur.drew'.alloc' _ | exact (hcur.alloc' _).drew'); (first | exact Ext.rfl' _ | exact (Ext.rfl' _).drew' | exact (Ext.rfl' _).alloc' _ | exact (Ext.rfl' _).drew'.alloc' _); rintro e w21 ⟨v21, rfl, hv21, hx⟩; (first | have HB2 := hid (HB2.out.ext hx) | have HB2 := hid ((NB.new hcur.size).ext hx) | have HB2 := hid ((NB.newD hcur.size).ext hx) | skip); have hcur := Ext.step hcur (by first | exact hx | exact Ext.undrew hx | exact Ext.step ((Ext.rfl' _).alloc' _) hx | exact Ext.step ((Ext.rfl' _).drew'.alloc' _) hx); have HV21 := hid hv21; obtain ⟨A21, k21, c21, xs21, b21, rfl, -⟩ := hv21; (first | (have hyy := row_facts HB2.out.2; obtain ⟨y0, y1, y2, y3⟩ := hyy) | skip)))
      all_goals
        rw [HYe.out] at HV21
        go_wp2_with fail
        go_meet
        first
          | exact ⟨_, _, b21, A21, k21, c21, rfl, rfl, (HB2.out.2.set 0 _).set 1 _, HV21.out.box HB2.out.2, (hcur.set' HB2.out.1 _).set' HB2.out.1 _⟩
          | exact ⟨_, _, b21, A21, k21, c21, rfl, rfl, Row.new _ _ [.bool b21, .slice A21 k21 c21], HV21.out.ext ((Ext.rfl' _).alloc' _), hcur.alloc' _⟩
    case rest => as_aux_lemma =>
      obtain ⟨w10, H14, b14, A14, k14, c14, rfl, rfl, hr14, hn14, hx⟩ := hcut
      have B14 := hid hr14
      have V14 := hid hn14
      replace HV := hid (HV.out.ext hx)
      replace RM := hid (RM.out.ext hx)
      replace HT := hid (HT.out.ext hx)
      replace HRA := hid (HRA.out.ext hx)
      replace R7 := hid (R7.out.ext hx)
      replace B9 := hid (B9.out.ext hx)
      replace B10 := hid (B10.out.ext hx)
      replace V9 := hid (V9.out.ext hx)
      replace V10 := hid (V10.out.ext hx)
      replace HV11 := hid (HV11.out.ext hx)
      replace B11 := hid (B11.out.ext hx)
      replace R12 := hid (R12.out.ext hx)
      replace HV12 := hid (HV12.out.ext hx)
      replace B12 := hid (B12.out.ext hx)
      replace EX := hid (EX.out.step hx)
      clear hr14 hn14 hx hcur HS
      go_wp2_with fail
      refine (of_one w10).mono ?_
      rintro e w11 ⟨v15, rfl, hv15, hx⟩
      replace HV := hid (HV.out.ext hx)
      replace RM := hid (RM.out.ext hx)
      replace HT := hid (HT.out.ext hx)
      replace HRA := hid (HRA.out.ext hx)
      replace R7 := hid (R7.out.ext hx)
      replace B9 := hid (B9.out.ext hx)
      replace B10 := hid (B10.out.ext hx)
      replace V9 := hid (V9.out.ext hx)
      replace V10 := hid (V10.out.ext hx)
      replace HV11 := hid (HV11.out.ext hx)
      replace B11 := hid (B11.out.ext hx)
      replace R12 := hid (R12.out.ext hx)
      replace HV12 := hid (HV12.out.ext hx)
      replace B12 := hid (B12.out.ext hx)
      replace B14 := hid (B14.out.ext hx)
      replace V14 := hid (V14.out.ext hx)
      replace EX := hid (EX.out.step hx)
      have HV15 := hid hv15
      obtain ⟨A15, k15, c15, xs15, b15, rfl, -⟩ := hv15
      clear hx
      have ha := (Ext.rfl' w11).alloc' (.cells #[.bool b15, .slice A15 k15 c15] 47)
      have hq : Row (w11.alloc (.cells #[.bool b15, .slice A15 k15 c15] 47)) w11.heap.size 47 [.bool b15, .slice A15 k15 c15] := Row.new w11 _ _
      obtain ⟨w12, hw12⟩ : ∃ w12, w11.alloc (.cells #[.bool b15, .slice A15 k15 c15] 47) = w12 := ⟨_, rfl⟩
      rw [hw12] at ha hq
      have EW12 := hid hw12
      have B15 := hid hq
      replace HV15 := hid (HV15.out.ext ha)
      have HE12 := hid ha
      clear ha hq hw12
      go_upto_region 10 with fail
      rw [EW12.out]
      clear EW12
      obtain ⟨H15, hH15⟩ : ∃ H15, w11.heap.size = H15 := ⟨_, rfl⟩
      rw [hH15] at B15
      rw [hH15]
      have HH15 := hid hH15
      clear hH15
      go_wp2_with fail
      go_loopw [16] (fun iz wr => ∃ (j : Nat) (b : Bool) (P : Option Addr) (q c : Nat), j ≤ k ∧ iz = .int .i64 (j : Int) ∧ Row wr H15 47 [.bool b, .slice P q c] ∧ RefV wr (.agg #[.bool b, .slice P q c]) (growN m us ad j X) ∧ Ext w11 wr) (fun iz _ => k - (intOf iz).toNat)
      case atStart => exact ⟨0, b15, A15, k15, c15, by omega, rfl, B15.out, HV15.out, HE12.out⟩
      case round =>
        clear B15 HV15 HE12
        obtain ⟨j, b15, A15, k15, c15, hj, rfl, hr15, hvz, hx⟩ := hrel
        have B15 := hid hr15
        have V15 := hid hvz
        have EF := hid hx
        replace HV := hid (HV.out.ext hx)
        replace RM := hid (RM.out.ext hx)
        replace HT := hid (HT.out.ext hx)
        replace HRA := hid (HRA.out.ext hx)
        replace R7 := hid (R7.out.ext hx)
        replace B9 := hid (B9.out.ext hx)
        replace B10 := hid (B10.out.ext hx)
        replace V9 := hid (V9.out.ext hx)
        replace V10 := hid (V10.out.ext hx)
        replace HV11 := hid (HV11.out.ext hx)
        replace B11 := hid (B11.out.ext hx)
        replace R12 := hid (R12.out.ext hx)
        replace HV12 := hid (HV12.out.ext hx)
        replace B12 := hid (B12.out.ext hx)
        replace B14 := hid (B14.out.ext hx)
        replace V14 := hid (V14.out.ext hx)
        replace EX := hid (EX.out.step hx)
        clear hr15 hvz hx
        by_cases hlt : j < k
        · obtain ⟨r, hr1, hr2, hr3, hr4, hr5⟩ := fac_next (ad := ad) hM.out X hlt
          rw [HWs.out] at hr1
          obtain ⟨u, hu⟩ : ∃ u, us.getD r 0 = u := ⟨_, rfl⟩
          rw [hu] at hr3 hr4 hr5
          have HR1 := hid hr1
          have HR3 := hid hr3
          have HU := hid hu
          have HUS := hid (show u.natAbs < 1000000000000000000 by omega)
          have HUB := hid (small_big (show u.natAbs < 1000000000 by omega))
          have HGB := hid (show (growN m us ad j X).natAbs ≤ BIG from le_big (Nat.lt_of_le_of_lt (grow_top14 hM.out X (by omega)) (Nat.lt_of_lt_of_le (show TOP 14 < 1000000000 * TOP 14 by have := TOP_pos 14; omega) (top_step 14 15 (by omega)))) (by omega))
          have jj0 : (0 : Int) ≤ (j : Int) := by omega
          have jj1 : (j : Int) < (k : Int) := by omega
          have i0 : (0 : Int) ≤ (r : Int) := by omega
          have i1 : (r : Int) < (n : Int) := by have := HN1.out; omega
          have hrn : r < us.length := hr2
          obtain ⟨bw, ow, ew, -, -⟩ := R12.out.atI (k := j) (by rw [HWL.out]; exact hlt)
          subst ew
          have HSF : Hid (∀ W', Ext wr W' → W'.cell? ⟨w.heap.size, 0, none⟩ = some (.int .i64 m) ∧ W'.cell? ⟨w.heap.size, 1, none⟩ = some (.slice (some ⟨ba, oa, none⟩) n cc) ∧ W'.cell? ⟨w.heap.size, 2, none⟩ = some (.slice B n2 d) ∧ W'.cell? ⟨bw, ow + j, none⟩ = some (.int .i64 (r : Int)) ∧ W'.cell? ⟨ba, oa + r, none⟩ = some (.int .i64 u)) := hid (by
            intro W' e
            obtain ⟨p0, p1, p2, -, -, -⟩ := row_facts3 (RM.out.ext e)
            obtain ⟨b4, o4, e4, -, hc4⟩ := (R12.out.ext e).atI (k := j) (by rw [HWL.out]; exact hlt)
            obtain ⟨b5, o5, e5, -, hc5⟩ := (HRA.out.ext e).atI (k := r) hrn
            cases e4
            cases e5
            rw [HR1.out] at hc4
            rw [HU.out] at hc5
            exact ⟨p0, p1, p2, hc4, hc5⟩)
          have hcur : Ext wr wr := Ext.rfl' _
          obtain ⟨y0, y1, y2, y3⟩ := row_facts B15.out
          obtain ⟨f0, f1, f2, f3, f4⟩ := HSF.out _ hcur
          clear hr1 hr2 hr3 hu HV HT RM HRA R7 R12 HV12 HV11 V9 V10 V14 B9 B10 B11 B12 B14 EX HL7 HVB HN1 HL SX SD hb1 hwb SQ SL SW SE HFX HFY HMd HYe HWs HXk HYk HG HWL HWB BG HH11 HH12
          go_upto_region 13 with fail
          go_region_with (first
            | (go_at_call 29; refine (of_any u _ HUS.out).mono ?_; rintro e w30 ⟨v30, rfl, hv30, hx⟩; have hcur := Ext.step hcur (by first | exact hx | exact Ext.undrew hx | exact Ext.step ((Ext.rfl' _).alloc' _) hx | exact Ext.step ((Ext.rfl' _).drew'.alloc' _) hx); have HV30 := hid hv30; obtain ⟨A30, k30, c30, xs30, b30, rfl, -⟩ := hv30; obtain ⟨y0, y1, y2, y3⟩ := row_facts (B15.out.ext hcur); obtain ⟨f0, f1, f2, f3, f4⟩ := HSF.out _ hcur)
            | (go_at_call 31; refine (rmul_any _ _ (growN m us ad j X) u _ (V15.out.ext ?_) (HV30.out.ext ?_) HGB.out HUB.out).mono ?_; (first | exact hcur | exact hcur.drew' | exact hcur.alloc' _ | exact hcur.drew'.alloc' _ | exact (hcur.alloc' _).drew'); (first | exact Ext.rfl' _ | exact (Ext.rfl' _).drew' | exact (Ext.rfl' _).alloc' _ | exact (Ext.rfl' _).drew'.alloc' _); rintro e w31 ⟨v31, rfl, hv31, hx⟩; have hcur := Ext.step hcur (by first | exact hx | exact Ext.undrew hx | exact Ext.step ((Ext.rfl' _).alloc' _) hx | exact Ext.step ((Ext.rfl' _).drew'.alloc' _) hx); have HV31 := hid hv31; obtain ⟨A31, k31, c31, xs31, b31, rfl, -⟩ := hv31; obtain ⟨y0, y1, y2, y3⟩ := row_facts (B15.out.ext hcur); obtain ⟨f0, f1, f2, f3, f4⟩ := HSF.out _ hcur))
          all_goals
            have HFIN : Hid (∀ WF, WF = ((w31.setCell ⟨H15, 0, none⟩ (.bool b31)).setCell ⟨H15, 1, none⟩ (.slice A31 k31 c31)) → ∃ (j' : Nat) (b : Bool) (P : Option Addr) (q c : Nat), j' ≤ k ∧ Value.int .i64 ((j : Int) + 1) = .int .i64 (j' : Int) ∧ Row WF H15 47 [.bool b, .slice P q c] ∧ RefV WF (.agg #[.bool b, .slice P q c]) (growN m us ad j' X) ∧ Ext w11 WF) := hid (by
              rintro WF rfl
              refine ⟨j + 1, b31, A31, k31, c31, by omega, by simp, ((B15.out.ext hcur).set 0 _).set 1 _, ?_, ((EF.out.step hcur).set' (by show _ ≤ H15; rw [← HH15.out]; exact Nat.le_refl _) _).set' (by show _ ≤ H15; rw [← HH15.out]; exact Nat.le_refl _) _⟩
              rw [HR3.out]
              exact HV31.out.box (B15.out.ext hcur))
            clear hcur
            go_wp2
            go_roundw
            case rel => exact HFIN.out _ rfl
            case measure => first | (simp [intOf]; done) | (simp [intOf]; omega)
        · obtain rfl : j = k := by omega
          rw [HG.out] at V15
          clear EF hj hlt HH15
          obtain ⟨sx, hsx⟩ : ∃ sx, Str (K.txt X) = sx := ⟨_, rfl⟩
          obtain ⟨sy, hsy⟩ : ∃ sy, Str (K.txt Y) = sy := ⟨_, rfl⟩
          obtain ⟨sz, hsz⟩ : ∃ sz, Str (K.txt Yk) = sz := ⟨_, rfl⟩
          obtain ⟨sd, hsd⟩ : ∃ sd, Str (K.txt Md) = sd := ⟨_, rfl⟩
          obtain ⟨LM, hLM⟩ : ∃ LM, (lineI m us ad Ws).1 = LM := ⟨_, rfl⟩
          obtain ⟨LA, hLA⟩ : ∃ LA, (lineI m us ad Ws).2.1 = LA := ⟨_, rfl⟩
          obtain ⟨su, hsu⟩ : ∃ su, Str (K.txt LM) = su := ⟨_, rfl⟩
          obtain ⟨sa, hsa⟩ : ∃ sa, Str (K.txt LA) = sa := ⟨_, rfl⟩
          have HLI : Hid (lineI m us ad Ws = (LM, LA, Md)) := hid (by rw [← hLM, ← hLA, ← SL.out.2.2.2])
          have HFL := lin_fits (us := us) (ad := ad) hM.out HWB.out
          rw [HLI.out] at HFL
          have HAP : Hid (K.fits LM ∧ K.fits LA ∧ K.fits Md ∧ K.fits Y ∧ 0 < Md ∧ K.fits (LM * Y + LA) ∧ LM * Y + LA = Md * Yk) := hid (by
            have h := SL.out
            rw [HLI.out] at h
            exact ⟨HFL.1, HFL.2.1, HFL.2.2, HFY.out 0 (by omega), h.2.2.1, h.1, h.2.1⟩)
          have HSX := hid hsx
          have HSY := hid hsy
          have HSZ := hid hsz
          have HSD := hid hsd
          have HSU := hid hsu
          have HSA := hid hsa
          have HSE : Hid (Str (K.txt (Xk + D * G)) = sz) := hid (by rw [← SE.out]; exact hsz)
          have HSB : Hid ((Xk + D * G).natAbs ≤ BIG) := hid (by rw [← SE.out]; exact BG.out.2.2.2.2.2.2.2.2)
          clear hsx hsy hsz hsd hLM hLA hsu hsa HFL SL SE HG HXk SQ
          have HS : Hid (∀ W', Ext wr W' → W'.cell? ⟨w.heap.size, 0, none⟩ = some (.int .i64 m) ∧ W'.cell? ⟨w.heap.size, 1, none⟩ = some (.slice (some ⟨ba, oa, none⟩) n cc) ∧ W'.cell? ⟨w.heap.size, 2, none⟩ = some (.slice B n2 d) ∧ W'.cell? ⟨H9, 0, none⟩ = some (.bool b9) ∧ W'.cell? ⟨H9, 1, none⟩ = some (.slice A9 k9 c9)) := hid (by
            intro W' e
            obtain ⟨x0, y0, z0, -, -, -⟩ := row_facts3 (RM.out.ext e)
            obtain ⟨x1, y1, -, -⟩ := row_facts (B9.out.ext e)
            exact ⟨x0, y0, z0, x1, y1⟩)
          have hcur : Ext wr wr := Ext.rfl' _
          go_upto_region 14 with fail
          clear HH11 HH12
          go_region_held3 (fun W' => W'.cell? ⟨w.heap.size, 0, none⟩ = some (.int .i64 m) ∧ W'.cell? ⟨w.heap.size, 1, none⟩ = some (.slice (some ⟨ba, oa, none⟩) n cc) ∧ W'.cell? ⟨w.heap.size, 2, none⟩ = some (.slice B n2 d) ∧ W'.cell? ⟨H9, 0, none⟩ = some (.bool b9) ∧ W'.cell? ⟨H9, 1, none⟩ = some (.slice A9 k9 c9))
            (first | (with_reducible exact HS.out _ hcur) | (with_reducible exact HS.out _ hcur.drew') | (with_reducible exact HS.out _ (hcur.alloc' _)) | (with_reducible exact HS.out _ (hcur.drew'.alloc' _)) | (with_reducible exact HS.out _ (hcur.alloc' _).drew') | go_keep)
            (first
              | (go_at_call 26; refine (rtext_s _ (V9.out.ext ?_) BG.out.1 HSX).mono ?_; (first | exact hcur | exact hcur.drew' | exact hcur.alloc' _ | exact hcur.drew'.alloc' _ | exact (hcur.alloc' _).drew'); rintro e w20 ⟨rfl, hx⟩; have hcur := Ext.step hcur (by first | exact hx | exact Ext.undrew hx | exact Ext.step ((Ext.rfl' _).alloc' _) hx | exact Ext.step ((Ext.rfl' _).drew'.alloc' _) hx))
              | (go_at_call 40; refine (word_h _ m us ad X sx j Ws _ (HV.out.ext ?_) hb1 HSX (by omega) (HT.out.ext ?_) HFX HWs).mono ?_; (first | exact hcur | exact hcur.drew' | exact hcur.alloc' _ | exact hcur.drew'.alloc' _ | exact (hcur.alloc' _).drew'); (first | exact hcur | exact hcur.drew' | exact hcur.alloc' _ | exact hcur.drew'.alloc' _ | exact (hcur.alloc' _).drew'); rintro e w13 ⟨A17, rfl, hr17, hx⟩; have hcur := Ext.step hcur (by first | exact hx | exact Ext.undrew hx | exact Ext.step ((Ext.rfl' _).alloc' _) hx | exact Ext.step ((Ext.rfl' _).drew'.alloc' _) hx); have R17 := hid hr17))
          have hx := hcur
          replace HV := hid (HV.out.ext hx)
          replace RM := hid (RM.out.ext hx)
          replace HT := hid (HT.out.ext hx)
          replace HRA := hid (HRA.out.ext hx)
          replace R7 := hid (R7.out.ext hx)
          replace B9 := hid (B9.out.ext hx)
          replace B10 := hid (B10.out.ext hx)
          replace V9 := hid (V9.out.ext hx)
          replace V10 := hid (V10.out.ext hx)
          replace HV11 := hid (HV11.out.ext hx)
          replace B11 := hid (B11.out.ext hx)
          replace R12 := hid (R12.out.ext hx)
          replace HV12 := hid (HV12.out.ext hx)
          replace B12 := hid (B12.out.ext hx)
          replace B14 := hid (B14.out.ext hx)
          replace V14 := hid (V14.out.ext hx)
          replace B15 := hid (B15.out.ext hx)
          replace V15 := hid (V15.out.ext hx)
          replace EX := hid (EX.out.step hx)
          clear hx hcur HS hr17
          have HS : Hid (∀ W', Ext w13 W' → W'.cell? ⟨w.heap.size, 0, none⟩ = some (.int .i64 m) ∧ W'.cell? ⟨w.heap.size, 1, none⟩ = some (.slice (some ⟨ba, oa, none⟩) n cc) ∧ W'.cell? ⟨w.heap.size, 2, none⟩ = some (.slice B n2 d) ∧ W'.cell? ⟨H14, 0, none⟩ = some (.bool b14) ∧ W'.cell? ⟨H14, 1, none⟩ = some (.slice A14 k14 c14)) := hid (by
            intro W' e
            obtain ⟨x0, y0, z0, -, -, -⟩ := row_facts3 (RM.out.ext e)
            obtain ⟨x1, y1, -, -⟩ := row_facts (B14.out.ext e)
            exact ⟨x0, y0, z0, x1, y1⟩)
          have hcur : Ext w13 w13 := Ext.rfl' _
          go_upto_region 15 with fail
          clear HYe
          go_region_held3 (fun W' => W'.cell? ⟨w.heap.size, 0, none⟩ = some (.int .i64 m) ∧ W'.cell? ⟨w.heap.size, 1, none⟩ = some (.slice (some ⟨ba, oa, none⟩) n cc) ∧ W'.cell? ⟨w.heap.size, 2, none⟩ = some (.slice B n2 d) ∧ W'.cell? ⟨H14, 0, none⟩ = some (.bool b14) ∧ W'.cell? ⟨H14, 1, none⟩ = some (.slice A14 k14 c14))
            (first | (with_reducible exact HS.out _ hcur) | (with_reducible exact HS.out _ hcur.drew') | (with_reducible exact HS.out _ (hcur.alloc' _)) | (with_reducible exact HS.out _ (hcur.drew'.alloc' _)) | (with_reducible exact HS.out _ (hcur.alloc' _).drew') | go_keep)
            (first
              | (go_at_call 26; refine (rtext_s _ (V14.out.ext ?_) BG.out.2.2.2.2.1 HSY).mono ?_; (first | exact hcur | exact hcur.drew' | exact hcur.alloc' _ | exact hcur.drew'.alloc' _ | exact (hcur.alloc' _).drew'); rintro e w20 ⟨rfl, hx⟩; have hcur := Ext.step hcur (by first | exact hx | exact Ext.undrew hx | exact Ext.step ((Ext.rfl' _).alloc' _) hx | exact Ext.step ((Ext.rfl' _).drew'.alloc' _) hx))
              | (go_at_call 40; refine (word_h _ m us ad Y sy j Ws _ (HV.out.ext ?_) hb1 HSY (by omega) (HT.out.ext ?_) HFY SW).mono ?_; (first | exact hcur | exact hcur.drew' | exact hcur.alloc' _ | exact hcur.drew'.alloc' _ | exact (hcur.alloc' _).drew'); (first | exact hcur | exact hcur.drew' | exact hcur.alloc' _ | exact hcur.drew'.alloc' _ | exact (hcur.alloc' _).drew'); rintro e w14 ⟨A19, rfl, hr19, hx⟩; have hcur := Ext.step hcur (by first | exact hx | exact Ext.undrew hx | exact Ext.step ((Ext.rfl' _).alloc' _) hx | exact Ext.step ((Ext.rfl' _).drew'.alloc' _) hx); have R19 := hid hr19))
          have hx := hcur
          replace HV := hid (HV.out.ext hx)
          replace RM := hid (RM.out.ext hx)
          replace HT := hid (HT.out.ext hx)
          replace HRA := hid (HRA.out.ext hx)
          replace R7 := hid (R7.out.ext hx)
          replace B9 := hid (B9.out.ext hx)
          replace B10 := hid (B10.out.ext hx)
          replace V9 := hid (V9.out.ext hx)
          replace V10 := hid (V10.out.ext hx)
          replace HV11 := hid (HV11.out.ext hx)
          replace B11 := hid (B11.out.ext hx)
          replace R12 := hid (R12.out.ext hx)
          replace HV12 := hid (HV12.out.ext hx)
          replace B12 := hid (B12.out.ext hx)
          replace B14 := hid (B14.out.ext hx)
          replace V14 := hid (V14.out.ext hx)
          replace B15 := hid (B15.out.ext hx)
          replace V15 := hid (V15.out.ext hx)
          replace R17 := hid (R17.out.ext hx)
          replace EX := hid (EX.out.step hx)
          clear hx hcur HS hr19
          have HS : Hid (∀ W', Ext w14 W' → W'.cell? ⟨w.heap.size, 0, none⟩ = some (.int .i64 m) ∧ W'.cell? ⟨w.heap.size, 1, none⟩ = some (.slice (some ⟨ba, oa, none⟩) n cc) ∧ W'.cell? ⟨w.heap.size, 2, none⟩ = some (.slice B n2 d) ∧ W'.cell? ⟨H14, 0, none⟩ = some (.bool b14) ∧ W'.cell? ⟨H14, 1, none⟩ = some (.slice A14 k14 c14)) := hid (by
            intro W' e
            obtain ⟨x0, y0, z0, -, -, -⟩ := row_facts3 (RM.out.ext e)
            obtain ⟨x1, y1, -, -⟩ := row_facts (B14.out.ext e)
            exact ⟨x0, y0, z0, x1, y1⟩)
          have hcur : Ext w14 w14 := Ext.rfl' _
          go_upto_region 16 with fail
          clear SW
          go_region_held3 (fun W' => W'.cell? ⟨w.heap.size, 0, none⟩ = some (.int .i64 m) ∧ W'.cell? ⟨w.heap.size, 1, none⟩ = some (.slice (some ⟨ba, oa, none⟩) n cc) ∧ W'.cell? ⟨w.heap.size, 2, none⟩ = some (.slice B n2 d) ∧ W'.cell? ⟨H14, 0, none⟩ = some (.bool b14) ∧ W'.cell? ⟨H14, 1, none⟩ = some (.slice A14 k14 c14))
            (first | (with_reducible exact HS.out _ hcur) | (with_reducible exact HS.out _ hcur.drew') | (with_reducible exact HS.out _ (hcur.alloc' _)) | (with_reducible exact HS.out _ (hcur.drew'.alloc' _)) | (with_reducible exact HS.out _ (hcur.alloc' _).drew') | go_keep)
            (first
              | (go_at_call 26; refine (rtext_s _ (V14.out.ext ?_) BG.out.2.2.2.2.1 HSY).mono ?_; (first | exact hcur | exact hcur.drew' | exact hcur.alloc' _ | exact hcur.drew'.alloc' _ | exact (hcur.alloc' _).drew'); rintro e w20 ⟨rfl, hx⟩; have hcur := Ext.step hcur (by first | exact hx | exact Ext.undrew hx | exact Ext.step ((Ext.rfl' _).alloc' _) hx | exact Ext.step ((Ext.rfl' _).drew'.alloc' _) hx))
              | (go_at_call 24; refine (run_h _ m us ad Y Yk sy sz j _ (HV.out.ext ?_) hM HSY (by omega) (HT.out.ext ?_) HFY HYk HSZ).mono ?_; (first | exact hcur | exact hcur.drew' | exact hcur.alloc' _ | exact hcur.drew'.alloc' _ | exact (hcur.alloc' _).drew'); (first | exact hcur | exact hcur.drew' | exact hcur.alloc' _ | exact hcur.drew'.alloc' _ | exact (hcur.alloc' _).drew'); rintro e w15 ⟨rfl, hx⟩; have hcur := Ext.step hcur (by first | exact hx | exact Ext.undrew hx | exact Ext.step ((Ext.rfl' _).alloc' _) hx | exact Ext.step ((Ext.rfl' _).drew'.alloc' _) hx)))
          have hx := hcur
          replace HV := hid (HV.out.ext hx)
          replace RM := hid (RM.out.ext hx)
          replace HT := hid (HT.out.ext hx)
          replace HRA := hid (HRA.out.ext hx)
          replace R7 := hid (R7.out.ext hx)
          replace B9 := hid (B9.out.ext hx)
          replace B10 := hid (B10.out.ext hx)
          replace V9 := hid (V9.out.ext hx)
          replace V10 := hid (V10.out.ext hx)
          replace HV11 := hid (HV11.out.ext hx)
          replace B11 := hid (B11.out.ext hx)
          replace R12 := hid (R12.out.ext hx)
          replace HV12 := hid (HV12.out.ext hx)
          replace B12 := hid (B12.out.ext hx)
          replace B14 := hid (B14.out.ext hx)
          replace V14 := hid (V14.out.ext hx)
          replace B15 := hid (B15.out.ext hx)
          replace V15 := hid (V15.out.ext hx)
          replace R17 := hid (R17.out.ext hx)
          replace R19 := hid (R19.out.ext hx)
          replace EX := hid (EX.out.step hx)
          clear hx hcur HS
          obtain ⟨f0, f1, f2, -, -, -⟩ := row_facts3 RM.out
          go_wp2_with fail
          refine (line_h _ m us ad L12 j q12 Ws LM LA Md su sa sd w15 HV.out R12.out HWL (by omega) hM HWB HT.out HLI HSU HSA HSD).mono ?_
          rintro e w16 ⟨rfl, hx⟩
          replace HV := hid (HV.out.ext hx)
          replace RM := hid (RM.out.ext hx)
          replace HT := hid (HT.out.ext hx)
          replace HRA := hid (HRA.out.ext hx)
          replace R7 := hid (R7.out.ext hx)
          replace B9 := hid (B9.out.ext hx)
          replace B10 := hid (B10.out.ext hx)
          replace V9 := hid (V9.out.ext hx)
          replace V10 := hid (V10.out.ext hx)
          replace HV11 := hid (HV11.out.ext hx)
          replace B11 := hid (B11.out.ext hx)
          replace R12 := hid (R12.out.ext hx)
          replace HV12 := hid (HV12.out.ext hx)
          replace B12 := hid (B12.out.ext hx)
          replace B14 := hid (B14.out.ext hx)
          replace V14 := hid (V14.out.ext hx)
          replace B15 := hid (B15.out.ext hx)
          replace V15 := hid (V15.out.ext hx)
          replace R17 := hid (R17.out.ext hx)
          replace R19 := hid (R19.out.ext hx)
          replace EX := hid (EX.out.step hx)
          clear hx f0 f1 f2
          have ha := (Ext.rfl' w16).alloc' (.cells #[.string su, .string sa, .string sd] 38)
          have hq : Row (w16.alloc (.cells #[.string su, .string sa, .string sd] 38)) w16.heap.size 38 [.string su, .string sa, .string sd] := Row.new w16 _ _
          obtain ⟨w17, hw17⟩ : ∃ w17, w16.alloc (.cells #[.string su, .string sa, .string sd] 38) = w17 := ⟨_, rfl⟩
          rw [hw17] at ha hq
          have EW17 := hid hw17
          have B23 := hid hq
          replace HV := hid (HV.out.ext ha)
          replace RM := hid (RM.out.ext ha)
          replace HT := hid (HT.out.ext ha)
          replace HRA := hid (HRA.out.ext ha)
          replace R7 := hid (R7.out.ext ha)
          replace B9 := hid (B9.out.ext ha)
          replace B10 := hid (B10.out.ext ha)
          replace V9 := hid (V9.out.ext ha)
          replace V10 := hid (V10.out.ext ha)
          replace HV11 := hid (HV11.out.ext ha)
          replace B11 := hid (B11.out.ext ha)
          replace R12 := hid (R12.out.ext ha)
          replace HV12 := hid (HV12.out.ext ha)
          replace B12 := hid (B12.out.ext ha)
          replace B14 := hid (B14.out.ext ha)
          replace V14 := hid (V14.out.ext ha)
          replace B15 := hid (B15.out.ext ha)
          replace V15 := hid (V15.out.ext ha)
          replace R17 := hid (R17.out.ext ha)
          replace R19 := hid (R19.out.ext ha)
          replace EX := hid (EX.out.step ha)
          clear ha hq hw17
          go_upto_region 18 with fail
          rw [EW17.out]
          clear EW17
          obtain ⟨H23, hH23⟩ : ∃ H23, w16.heap.size = H23 := ⟨_, rfl⟩
          rw [hH23] at B23
          rw [hH23]
          clear hH23
          have HS : Hid (∀ W', Ext w17 W' → W'.cell? ⟨H12, 0, none⟩ = some (.bool b12) ∧ W'.cell? ⟨H12, 1, none⟩ = some (.slice A12 k12 c12) ∧ W'.cell? ⟨H10, 0, none⟩ = some (.bool b10) ∧ W'.cell? ⟨H10, 1, none⟩ = some (.slice A10 k10 c10) ∧ W'.cell? ⟨H15, 0, none⟩ = some (.bool b15) ∧ W'.cell? ⟨H15, 1, none⟩ = some (.slice A15 k15 c15)) := hid (by
            intro W' e
            obtain ⟨x0, y0, -, -⟩ := row_facts (B12.out.ext e)
            obtain ⟨x1, y1, -, -⟩ := row_facts (B10.out.ext e)
            obtain ⟨x2, y2, -, -⟩ := row_facts (B15.out.ext e)
            exact ⟨x0, y0, x1, y1, x2, y2⟩)
          have hcur : Ext w17 w17 := Ext.rfl' _
          go_cut [152] (fun sx wx => sx = .bool false ∧ Ext w17 wx)
          case first => as_aux_lemma =>
            clear HT HV RM HRA R7 HL7 HVB HK EX HL SX SD hb1 hM HFX HFY HMd HYk hm1000 hm0 hm1 B9 B10 B11 B12 B14 B15 B23 HLI HAP HSX HSY HSU HSA HSD HN1 HWB V9 V14 HV11
            first
              | (go_region_held_law (fun W' => W'.cell? ⟨H12, 0, none⟩ = some (.bool b12) ∧ W'.cell? ⟨H12, 1, none⟩ = some (.slice A12 k12 c12) ∧ W'.cell? ⟨H10, 0, none⟩ = some (.bool b10) ∧ W'.cell? ⟨H10, 1, none⟩ = some (.slice A10 k10 c10) ∧ W'.cell? ⟨H15, 0, none⟩ = some (.bool b15) ∧ W'.cell? ⟨H15, 1, none⟩ = some (.slice A15 k15 c15))
                  (first | (with_reducible exact HS.out _ hcur) | (with_reducible exact HS.out _ hcur.drew') | (with_reducible exact HS.out _ (hcur.alloc' _)) | (with_reducible exact HS.out _ (hcur.drew'.alloc' _)) | (with_reducible exact HS.out _ (hcur.alloc' _).drew') | go_keep)
                  (first
                    | (go_at_call_of 42 (Value.slice A17 j j); refine (sames_any A17 L12 j j j q12 Ws Ws _ (R17.out.ext ?_) (R12.out.ext ?_) HWL.out HWL.out (by omega) (by omega) (b := true) (hid ⟨fun _ => rfl, fun _ => rfl⟩)).mono ?_; (first | exact hcur | exact hcur.drew' | exact hcur.alloc' _ | exact hcur.drew'.alloc' _ | exact (hcur.alloc' _).drew'); (first | exact hcur | exact hcur.drew' | exact hcur.alloc' _ | exact hcur.drew'.alloc' _ | exact (hcur.alloc' _).drew'); rintro e w24 ⟨rfl, hx⟩; have hcur := Ext.step hcur (by first | exact hx | exact Ext.undrew hx | exact Ext.step ((Ext.rfl' _).alloc' _) hx | exact Ext.step ((Ext.rfl' _).drew'.alloc' _) hx))
                    | (go_at_call_of 42 (Value.slice A19 j j); refine (sames_any A19 L12 j j j q12 Ws Ws _ (R19.out.ext ?_) (R12.out.ext ?_) HWL.out HWL.out (by omega) (by omega) (b := true) (hid ⟨fun _ => rfl, fun _ => rfl⟩)).mono ?_; (first | exact hcur | exact hcur.drew' | exact hcur.alloc' _ | exact hcur.drew'.alloc' _ | exact (hcur.alloc' _).drew'); (first | exact hcur | exact hcur.drew' | exact hcur.alloc' _ | exact hcur.drew'.alloc' _ | exact (hcur.alloc' _).drew'); rintro e w25 ⟨rfl, hx⟩; have hcur := Ext.step hcur (by first | exact hx | exact Ext.undrew hx | exact Ext.step ((Ext.rfl' _).alloc' _) hx | exact Ext.step ((Ext.rfl' _).drew'.alloc' _) hx))
                    | (go_at_call 31; refine (rmul_any _ _ D G _ (V10.out.ext ?_) (V15.out.ext ?_) BG.out.2.1 BG.out.2.2.2.2.2.2.1).mono ?_; (first | exact hcur | exact hcur.drew' | exact hcur.alloc' _ | exact hcur.drew'.alloc' _ | exact (hcur.alloc' _).drew'); (first | exact hcur | exact hcur.drew' | exact hcur.alloc' _ | exact hcur.drew'.alloc' _ | exact (hcur.alloc' _).drew'); rintro e w20 ⟨v20, rfl, hv20, hx⟩; have hcur := Ext.step hcur (by first | exact hx | exact Ext.undrew hx | exact Ext.step ((Ext.rfl' _).alloc' _) hx | exact Ext.step ((Ext.rfl' _).drew'.alloc' _) hx); have HV20 := hid hv20; obtain ⟨A20, k20, c20, xs20, b20, rfl, -⟩ := hv20)
                    | (go_at_call 32; refine (radd_any _ _ Xk (D * G) _ (HV12.out.ext ?_) (HV20.out.ext ?_) BG.out.2.2.2.2.2.1 BG.out.2.2.2.2.2.2.2.1).mono ?_; (first | exact hcur | exact hcur.drew' | exact hcur.alloc' _ | exact hcur.drew'.alloc' _ | exact (hcur.alloc' _).drew'); (first | exact Ext.rfl' _ | exact (Ext.rfl' _).drew' | exact (Ext.rfl' _).alloc' _ | exact (Ext.rfl' _).drew'.alloc' _); rintro e w21 ⟨v21, rfl, hv21, hx⟩; have hcur := Ext.step hcur (by first | exact hx | exact Ext.undrew hx | exact Ext.step ((Ext.rfl' _).alloc' _) hx | exact Ext.step ((Ext.rfl' _).drew'.alloc' _) hx); have HV21 := hid hv21; obtain ⟨A21, k21, c21, xs21, b21, rfl, -⟩ := hv21)
                    | (go_at_call 26; refine (rtext_s _ (HV21.out.ext ?_) HSB.out HSE).mono ?_; (first | exact Ext.rfl' _ | exact (Ext.rfl' _).drew' | exact (Ext.rfl' _).alloc' _ | exact (Ext.rfl' _).drew'.alloc' _); rintro e w22 ⟨rfl, hx⟩; have hcur := Ext.step hcur (by first | exact hx | exact Ext.undrew hx | exact Ext.step ((Ext.rfl' _).alloc' _) hx | exact Ext.step ((Ext.rfl' _).drew'.alloc' _) hx))))
              | fail
            all_goals
              go_wp2_with fail
              go_meet
              exact ⟨rfl, hcur⟩
          case rest => as_aux_lemma =>
            obtain ⟨rfl, hx⟩ := hcut
            clear hcur HS
            replace HV := hid (HV.out.ext hx)
            replace RM := hid (RM.out.ext hx)
            replace HT := hid (HT.out.ext hx)
            replace HRA := hid (HRA.out.ext hx)
            replace R7 := hid (R7.out.ext hx)
            replace B9 := hid (B9.out.ext hx)
            replace B10 := hid (B10.out.ext hx)
            replace V9 := hid (V9.out.ext hx)
            replace V10 := hid (V10.out.ext hx)
            replace HV11 := hid (HV11.out.ext hx)
            replace B11 := hid (B11.out.ext hx)
            replace R12 := hid (R12.out.ext hx)
            replace HV12 := hid (HV12.out.ext hx)
            replace B12 := hid (B12.out.ext hx)
            replace B14 := hid (B14.out.ext hx)
            replace V14 := hid (V14.out.ext hx)
            replace B15 := hid (B15.out.ext hx)
            replace V15 := hid (V15.out.ext hx)
            replace R17 := hid (R17.out.ext hx)
            replace R19 := hid (R19.out.ext hx)
            replace B23 := hid (B23.out.ext hx)
            replace EX := hid (EX.out.step hx)
            clear hx
            have HS : Hid (∀ W', Ext wc W' → W'.cell? ⟨H23, 0, none⟩ = some (.string su) ∧ W'.cell? ⟨H23, 1, none⟩ = some (.string sa) ∧ W'.cell? ⟨H23, 2, none⟩ = some (.string sd) ∧ W'.cell? ⟨H14, 0, none⟩ = some (.bool b14) ∧ W'.cell? ⟨H14, 1, none⟩ = some (.slice A14 k14 c14)) := hid (by
              intro W' e
              obtain ⟨x0, y0, z0, -, -, -⟩ := row_facts3 (B23.out.ext e)
              obtain ⟨x1, y1, -, -⟩ := row_facts (B14.out.ext e)
              exact ⟨x0, y0, z0, x1, y1⟩)
            have hcur : Ext wc wc := Ext.rfl' _
            clear R17 R19 HSE HSB HFX
            go_upto_region 20 with fail
            go_region_held3 (fun W' => W'.cell? ⟨H23, 0, none⟩ = some (.string su) ∧ W'.cell? ⟨H23, 1, none⟩ = some (.string sa) ∧ W'.cell? ⟨H23, 2, none⟩ = some (.string sd) ∧ W'.cell? ⟨H14, 0, none⟩ = some (.bool b14) ∧ W'.cell? ⟨H14, 1, none⟩ = some (.slice A14 k14 c14))
              (first | (with_reducible exact HS.out _ hcur) | (with_reducible exact HS.out _ hcur.drew') | (with_reducible exact HS.out _ (hcur.alloc' _)) | (with_reducible exact HS.out _ (hcur.drew'.alloc' _)) | (with_reducible exact HS.out _ (hcur.alloc' _).drew') | go_keep)
              (first
                | (go_at_call 26; refine (rtext_s _ (V14.out.ext ?_) BG.out.2.2.2.2.1 HSY).mono ?_; (first | exact hcur | exact hcur.drew' | exact hcur.alloc' _ | exact hcur.drew'.alloc' _ | exact (hcur.alloc' _).drew'); rintro e w20 ⟨rfl, hx⟩; have hcur := Ext.step hcur (by first | exact hx | exact Ext.undrew hx | exact Ext.step ((Ext.rfl' _).alloc' _) hx | exact Ext.step ((Ext.rfl' _).drew'.alloc' _) hx))
                | (go_at_call 25; refine (apply_h LM LA Md Y Yk su sa sd sy sz _ (HT.out.ext ?_) HAP HSU HSA HSD HSY HSZ).mono ?_; (first | exact hcur | exact hcur.drew' | exact hcur.alloc' _ | exact hcur.drew'.alloc' _ | exact (hcur.alloc' _).drew'); rintro e w26 ⟨rfl, hx⟩; have hcur := Ext.step hcur (by first | exact hx | exact Ext.undrew hx | exact Ext.step ((Ext.rfl' _).alloc' _) hx | exact Ext.step ((Ext.rfl' _).drew'.alloc' _) hx)))
            have hx := hcur
            replace HV := hid (HV.out.ext hx)
            replace RM := hid (RM.out.ext hx)
            replace HT := hid (HT.out.ext hx)
            replace HRA := hid (HRA.out.ext hx)
            replace R7 := hid (R7.out.ext hx)
            replace B9 := hid (B9.out.ext hx)
            replace B10 := hid (B10.out.ext hx)
            replace V9 := hid (V9.out.ext hx)
            replace V10 := hid (V10.out.ext hx)
            replace HV11 := hid (HV11.out.ext hx)
            replace B11 := hid (B11.out.ext hx)
            replace R12 := hid (R12.out.ext hx)
            replace HV12 := hid (HV12.out.ext hx)
            replace B12 := hid (B12.out.ext hx)
            replace B14 := hid (B14.out.ext hx)
            replace V14 := hid (V14.out.ext hx)
            replace B15 := hid (B15.out.ext hx)
            replace V15 := hid (V15.out.ext hx)
            replace B23 := hid (B23.out.ext hx)
            replace EX := hid (EX.out.step hx)
            clear hx hcur HS
            obtain ⟨f0, f1, f2, -, -, -⟩ := row_facts3 RM.out
            cases x4 with
            | false =>
              go_wp2_with fail
              refine (rregular_b _ m us ad w26 HV.out hM hb4).mono ?_
              rintro e w27 ⟨rfl, hx⟩
              replace HV := hid (HV.out.ext hx)
              replace RM := hid (RM.out.ext hx)
              replace HT := hid (HT.out.ext hx)
              replace HRA := hid (HRA.out.ext hx)
              replace R7 := hid (R7.out.ext hx)
              replace B9 := hid (B9.out.ext hx)
              replace B10 := hid (B10.out.ext hx)
              replace V9 := hid (V9.out.ext hx)
              replace V10 := hid (V10.out.ext hx)
              replace HV11 := hid (HV11.out.ext hx)
              replace B11 := hid (B11.out.ext hx)
              replace R12 := hid (R12.out.ext hx)
              replace HV12 := hid (HV12.out.ext hx)
              replace B12 := hid (B12.out.ext hx)
              replace B14 := hid (B14.out.ext hx)
              replace V14 := hid (V14.out.ext hx)
              replace B15 := hid (B15.out.ext hx)
              replace V15 := hid (V15.out.ext hx)
              replace B23 := hid (B23.out.ext hx)
              replace EX := hid (EX.out.step hx)
              clear hx f0 f1 f2
              go_wp2_with fail
              refine (leads_any w27 HT.out).mono ?_
              rintro e wL ⟨rfl, hx⟩
              have EL := hid (EX.out.step hx)
              go_wp2
              go_ret
              exact ⟨rfl, EL.out⟩
            | true =>
              go_wp2_with fail
              refine (rregular_b _ m us ad w26 HV.out hM hb4).mono ?_
              rintro e w27 ⟨rfl, hx⟩
              replace HV := hid (HV.out.ext hx)
              replace RM := hid (RM.out.ext hx)
              replace HT := hid (HT.out.ext hx)
              replace HRA := hid (HRA.out.ext hx)
              replace R7 := hid (R7.out.ext hx)
              replace B9 := hid (B9.out.ext hx)
              replace B10 := hid (B10.out.ext hx)
              replace V9 := hid (V9.out.ext hx)
              replace V10 := hid (V10.out.ext hx)
              replace HV11 := hid (HV11.out.ext hx)
              replace B11 := hid (B11.out.ext hx)
              replace R12 := hid (R12.out.ext hx)
              replace HV12 := hid (HV12.out.ext hx)
              replace B12 := hid (B12.out.ext hx)
              replace B14 := hid (B14.out.ext hx)
              replace V14 := hid (V14.out.ext hx)
              replace B15 := hid (B15.out.ext hx)
              replace V15 := hid (V15.out.ext hx)
              replace B23 := hid (B23.out.ext hx)
              replace EX := hid (EX.out.step hx)
              clear hx f0 f1 f2
              have HVW : Hid (wordB m vs = true) := hid (wordB_iff.2 ⟨by have := HL7.out; omega, HVB.out⟩)
              obtain ⟨f0, f1, f2, -, -, -⟩ := row_facts3 RM.out
              go_wp2_with fail
              refine (wrest_ok _ m us ad L7 j c7 vs w27 HV.out R7.out HL7.out (by omega) hM HVW hb4 HT.out).mono ?_
              rintro e w28 ⟨R, rfl, hR0, hR1, hRI, hx⟩
              replace HV := hid (HV.out.ext hx)
              replace RM := hid (RM.out.ext hx)
              replace HT := hid (HT.out.ext hx)
              replace HRA := hid (HRA.out.ext hx)
              replace R7 := hid (R7.out.ext hx)
              replace B9 := hid (B9.out.ext hx)
              replace B10 := hid (B10.out.ext hx)
              replace V9 := hid (V9.out.ext hx)
              replace V10 := hid (V10.out.ext hx)
              replace HV11 := hid (HV11.out.ext hx)
              replace B11 := hid (B11.out.ext hx)
              replace R12 := hid (R12.out.ext hx)
              replace HV12 := hid (HV12.out.ext hx)
              replace B12 := hid (B12.out.ext hx)
              replace B14 := hid (B14.out.ext hx)
              replace V14 := hid (V14.out.ext hx)
              replace B15 := hid (B15.out.ext hx)
              replace V15 := hid (V15.out.ext hx)
              replace B23 := hid (B23.out.ext hx)
              replace EX := hid (EX.out.step hx)
              have hpl : m ^ vs.length = Md := by rw [HL7.out]; exact HMd.out
              rw [hpl] at hR1
              have hvr := word_iff hM.out hb4.out HVB.out hR0 (by rw [hpl]; exact hR1) hRI
              rw [hpl] at hvr
              obtain ⟨sr, hsr⟩ : ∃ sr, Str (K.txt R) = sr := ⟨_, rfl⟩
              rw [hpl, hsr, HSD.out]
              have HSR := hid hsr
              have HVR := hid hvr
              have HR0 := hid hR0
              have HR1 := hid hR1
              have SMd : Md.natAbs ≤ TOP 14 := by rw [← HMd.out]; exact pow_le_top hm0 hm1000 HK.out
              have SR : Hid (Sm 15 R) := hid (by
                have h1 := top_step 14 15 (by omega)
                have h2 := TOP_pos 14
                unfold Sm
                omega)
              have HFR := hid (SR.out.fits (by omega))
              obtain ⟨Z, hZ⟩ : ∃ Z, R + X * Md = Z := ⟨_, rfl⟩
              have SXM : Hid (Sm 82 (X * Md)) := hid (SX.out.mul SMd (by omega))
              have SZ : Hid (Sm 83 Z) := hid (by rw [← hZ]; exact (SR.out.mono (by omega)).add SXM.out (by omega))
              have HFZ : Hid (∀ i, i ≤ j → K.fits (orbN m us ad i Z)) := hid (fun i hi => (SZ.out.orb hM.out (k := i) (by have := HK.out; omega) (f := 100) (by omega)).fits (by omega))
              have HWZ : Hid (wordI m us ad j Z = vs) := hid (by
                have h1 : Z % Md = R := by rw [← hZ, Int.add_mul_emod_self_right, Int.emod_eq_of_lt hR0 hR1]
                have h2 := (HVR.out Z).2 h1
                have h3 := wordI_iff.2 h2
                rwa [HL7.out] at h3)
              have HZ := hid hZ
              have HSB2 : Hid (R.natAbs ≤ BIG ∧ (X * Md).natAbs ≤ BIG) := hid ⟨SR.out.big (by omega), SXM.out.big (by omega)⟩
              obtain ⟨sg, hsg⟩ : ∃ sg, sgn0 R = sg := ⟨_, rfl⟩
              have qs0 : ¬ sg < 0 := by rw [← hsg]; unfold sgn0; split <;> (try split) <;> omega
              have qs1 : decide (sg < 0) = false := decide_eq_false qs0
              have HS0 := hid hsg
              have HC1 : Hid (sgnI R Md = -1) := hid (by unfold sgnI; rw [if_pos hR1])
              clear hx f0 f1 f2 hsr hvr hR0 hR1 hRI hpl hsg hZ SMd
              have HS : Hid (∀ W', Ext w28 W' → W'.cell? ⟨H11, 0, none⟩ = some (.bool b11) ∧ W'.cell? ⟨H11, 1, none⟩ = some (.slice A11 k11 c11)) := hid (by
                intro W' e
                obtain ⟨x0, y0, -, -⟩ := row_facts (B11.out.ext e)
                exact ⟨x0, y0⟩)
              have hcur : Ext w28 w28 := Ext.rfl' _
              go_upto_region 26 with fail
              go_cut [208] (fun sx wx => sx = .bool false ∧ Ext w28 wx)
              case first => as_aux_lemma =>
                clear HT HV RM HRA R7 R12 HL7 HVB HK EX HL SX SD hb1 hM HFY HMd HYk hm1000 hm0 hm1 B9 B10 B11 B12 B14 B15 B23 HLI HAP HSX HSY HSU HSA HN1 HWB V9 V10 V14 V15 HV12 HVR SR SXM SZ HFZ HWZ HZ HVW hb4 HSZ HWL
                first
                  | (go_region_held_law (fun W' => W'.cell? ⟨H11, 0, none⟩ = some (.bool b11) ∧ W'.cell? ⟨H11, 1, none⟩ = some (.slice A11 k11 c11))
                      (first | (with_reducible exact HS.out _ hcur) | (with_reducible exact HS.out _ hcur.drew') | (with_reducible exact HS.out _ (hcur.alloc' _)) | (with_reducible exact HS.out _ (hcur.drew'.alloc' _)) | (with_reducible exact HS.out _ (hcur.alloc' _).drew') | go_keep)
                      (first
                        | (go_at_call 26; refine (rtext_s _ (HV11.out.ext ?_) BG.out.2.2.1 HSD).mono ?_; (first | exact hcur | exact hcur.drew' | exact hcur.alloc' _ | exact hcur.drew'.alloc' _ | exact (hcur.alloc' _).drew'); rintro e w20 ⟨rfl, hx⟩; have hcur := Ext.step hcur (by first | exact hx | exact Ext.undrew hx | exact Ext.step ((Ext.rfl' _).alloc' _) hx | exact Ext.step ((Ext.rfl' _).drew'.alloc' _) hx))
                        | (go_at_call 19; refine (rvalid_s R sr _ HFR.out HSR).mono ?_; rintro e wz ⟨rfl, rfl⟩)
                        | (go_at_call 21; refine (parse_s R sr _ HFR.out HSR).mono ?_; rintro e w21 ⟨v21, rfl, hv21, hx⟩; have hcur := Ext.step hcur (by first | exact hx | exact Ext.undrew hx | exact Ext.step ((Ext.rfl' _).alloc' _) hx | exact Ext.step ((Ext.rfl' _).drew'.alloc' _) hx); have HV21 := hid hv21; obtain ⟨A21, k21, c21, xs21, b21, rfl, -⟩ := hv21)
                        | (go_at_call 34; refine (rsign_at0 _ (HV21.out.ext ?_) HS0).mono ?_; (first | exact Ext.rfl' _ | exact (Ext.rfl' _).drew' | exact (Ext.rfl' _).alloc' _ | exact (Ext.rfl' _).drew'.alloc' _); rintro e w22 ⟨rfl, hx⟩; have hcur := Ext.step hcur (by first | exact hx | exact Ext.undrew hx | exact Ext.step ((Ext.rfl' _).alloc' _) hx | exact Ext.step ((Ext.rfl' _).drew'.alloc' _) hx))
                        | (go_at_call 23; refine (rcmp_s _ _ R Md _ (HV21.out.ext ?_) (HV11.out.ext ?_) HSB2.out.1 BG.out.2.2.1 HC1).mono ?_; (first | exact Ext.rfl' _ | exact (Ext.rfl' _).drew' | exact (Ext.rfl' _).alloc' _ | exact (Ext.rfl' _).drew'.alloc' _); (first | exact hcur | exact hcur.drew' | exact hcur.alloc' _ | exact hcur.drew'.alloc' _ | exact (hcur.alloc' _).drew'); rintro e w23 ⟨rfl, hx⟩; have hcur := Ext.step hcur (by first | exact hx | exact Ext.undrew hx | exact Ext.step ((Ext.rfl' _).alloc' _) hx | exact Ext.step ((Ext.rfl' _).drew'.alloc' _) hx))))
                  | fail
                all_goals
                  go_wp2_with fail
                  go_meet
                  exact ⟨rfl, hcur⟩
              case rest => as_aux_lemma =>
                obtain ⟨rfl, hx⟩ := hcut
                clear hcur HS
                replace HV := hid (HV.out.ext hx)
                replace RM := hid (RM.out.ext hx)
                replace HT := hid (HT.out.ext hx)
                replace HRA := hid (HRA.out.ext hx)
                replace R7 := hid (R7.out.ext hx)
                replace B9 := hid (B9.out.ext hx)
                replace B10 := hid (B10.out.ext hx)
                replace V9 := hid (V9.out.ext hx)
                replace V10 := hid (V10.out.ext hx)
                replace HV11 := hid (HV11.out.ext hx)
                replace B11 := hid (B11.out.ext hx)
                replace R12 := hid (R12.out.ext hx)
                replace HV12 := hid (HV12.out.ext hx)
                replace B12 := hid (B12.out.ext hx)
                replace B14 := hid (B14.out.ext hx)
                replace V14 := hid (V14.out.ext hx)
                replace B15 := hid (B15.out.ext hx)
                replace V15 := hid (V15.out.ext hx)
                replace B23 := hid (B23.out.ext hx)
                replace EX := hid (EX.out.step hx)
                clear hx
                have HS : Hid (∀ W', Ext wc W' → W'.cell? ⟨w.heap.size, 0, none⟩ = some (.int .i64 m) ∧ W'.cell? ⟨w.heap.size, 1, none⟩ = some (.slice (some ⟨ba, oa, none⟩) n cc) ∧ W'.cell? ⟨w.heap.size, 2, none⟩ = some (.slice B n2 d) ∧ W'.cell? ⟨H9, 0, none⟩ = some (.bool b9) ∧ W'.cell? ⟨H9, 1, none⟩ = some (.slice A9 k9 c9) ∧ W'.cell? ⟨H11, 0, none⟩ = some (.bool b11) ∧ W'.cell? ⟨H11, 1, none⟩ = some (.slice A11 k11 c11)) := hid (by
                  intro W' e
                  obtain ⟨x0, y0, z0, -, -, -⟩ := row_facts3 (RM.out.ext e)
                  obtain ⟨x1, y1, -, -⟩ := row_facts (B9.out.ext e)
                  obtain ⟨x2, y2, -, -⟩ := row_facts (B11.out.ext e)
                  exact ⟨x0, y0, z0, x1, y1, x2, y2⟩)
                have hcur : Ext wc wc := Ext.rfl' _
                have HIS : Hid (Is vs = I64s (vs.map Int.toNat)) := hid (is_nat (fun r hr => (HVB.out r hr).1))
                go_upto_region 28 with fail
                go_cut [30] (fun sx wx => ∃ (WN : World) (L30 : Option Addr) (c30 : Nat), WN = wx ∧ sx = .slice L30 j c30 ∧ Rd wx L30 (Is vs) ∧ Ext wc wx)
                case first => as_aux_lemma =>
                  clear RM HRA R7 R12 HL7 HVB EX HL SX SD hb1 HFY HMd HYk hm1000 hm0 hm1 B9 B10 B11 B12 B14 B15 B23 HLI HAP HSX HSY HSU HSA HN1 HWB V10 V14 V15 HV12 HVR SR SXM SZ HVW hb4 HSZ HWL HS0 HC1 qs0 qs1
                  go_region_held3 (fun W' => W'.cell? ⟨w.heap.size, 0, none⟩ = some (.int .i64 m) ∧ W'.cell? ⟨w.heap.size, 1, none⟩ = some (.slice (some ⟨ba, oa, none⟩) n cc) ∧ W'.cell? ⟨w.heap.size, 2, none⟩ = some (.slice B n2 d) ∧ W'.cell? ⟨H9, 0, none⟩ = some (.bool b9) ∧ W'.cell? ⟨H9, 1, none⟩ = some (.slice A9 k9 c9) ∧ W'.cell? ⟨H11, 0, none⟩ = some (.bool b11) ∧ W'.cell? ⟨H11, 1, none⟩ = some (.slice A11 k11 c11))
                    (first | (with_reducible exact HS.out _ hcur) | (with_reducible exact HS.out _ hcur.drew') | (with_reducible exact HS.out _ (hcur.alloc' _)) | (with_reducible exact HS.out _ (hcur.drew'.alloc' _)) | (with_reducible exact HS.out _ (hcur.alloc' _).drew') | exact HS.out _ ((hcur.set' HB2.out.1 _).set' HB2.out.1 _) | go_keep)
                    (first
                      | (go_at_call 21; refine (parse_s R sr _ HFR.out HSR).mono ?_; rintro e w21 ⟨v21, rfl, hv21, hx⟩; (first | have HB2 := hid (HB2.out.ext hx) | have HB2 := hid ((NB.new hcur.size).ext hx) | have HB2 := hid ((NB.newD hcur.size).ext hx) | skip); have hcur := Ext.step hcur (by first | exact hx | exact Ext.undrew hx | exact Ext.step ((Ext.rfl' _).alloc' _) hx | exact Ext.step ((Ext.rfl' _).drew'.alloc' _) hx); have HV21 := hid hv21; obtain ⟨A21, k21, c21, xs21, b21, rfl, -⟩ := hv21; (first | (have hyy := row_facts HB2.out.2; obtain ⟨y0, y1, y2, y3⟩ := hyy) | skip))
                      | (go_at_call 31; refine (rmul_any _ _ X Md _ (V9.out.ext ?_) (HV11.out.ext ?_) BG.out.1 BG.out.2.2.1).mono ?_; (first | exact hcur | exact hcur.drew' | exact hcur.alloc' _ | exact hcur.drew'.alloc' _ | exact (hcur.alloc' _).drew'); (first | exact hcur | exact hcur.drew' | exact hcur.alloc' _ | exact hcur.drew'.alloc' _ | exact (hcur.alloc' _).drew'); rintro e w22 ⟨v22, rfl, hv22, hx⟩; have HV21 := hid (by first | exact HV21.out.ext hx | exact HV21.out.ext (Ext.undrew hx) | exact HV21.out.ext (Ext.step ((Ext.rfl' _).alloc' _) hx) | exact HV21.out.ext (Ext.step ((Ext.rfl' _).drew'.alloc' _) hx)); (first | have HB2 := hid (HB2.out.ext hx) | have HB2 := hid ((NB.new hcur.size).ext hx) | have HB2 := hid ((NB.newD hcur.size).ext hx) | skip); have hcur := Ext.step hcur (by first | exact hx | exact Ext.undrew hx | exact Ext.step ((Ext.rfl' _).alloc' _) hx | exact Ext.step ((Ext.rfl' _).drew'.alloc' _) hx); have HV22 := hid hv22; obtain ⟨A22, k22, c22, xs22, b22, rfl, -⟩ := hv22; (first | (have hyy := row_facts HB2.out.2; obtain ⟨y0, y1, y2, y3⟩ := hyy) | skip))
                      | (go_at_call 32; refine (radd_any _ _ R (X * Md) _ (HV21.out.ext ?_) (HV22.out.ext ?_) HSB2.out.1 HSB2.out.2).mono ?_; (first | exact Ext.rfl' _ | exact (Ext.rfl' _).drew' | exact (Ext.rfl' _).alloc' _ | exact (Ext.rfl' _).drew'.alloc' _); (first | exact Ext.rfl' _ | exact (Ext.rfl' _).drew' | exact (Ext.rfl' _).alloc' _ | exact (Ext.rfl' _).drew'.alloc' _); rintro e w23 ⟨v23, rfl, hv23, hx⟩; (first | have HB2 := hid (HB2.out.ext hx) | have HB2 := hid ((NB.new hcur.size).ext hx) | have HB2 := hid ((NB.newD hcur.size).ext hx) | skip); have hcur := Ext.step hcur (by first | exact hx | exact Ext.undrew hx | exact Ext.step ((Ext.rfl' _).alloc' _) hx | exact Ext.step ((Ext.rfl' _).drew'.alloc' _) hx); have HV23 := hid hv23; obtain ⟨A23, k23, c23, xs23, b23, rfl, -⟩ := hv23; (first | (have hyy := row_facts HB2.out.2; obtain ⟨y0, y1, y2, y3⟩ := hyy) | skip); rw [HZ.out] at HV23)
                      | (go_at_call 39; refine (hafter_any _ _ m Z us ad j _ (HV.out.ext ?_) hM (HV23.out.ext ?_) HFZ (by omega)).mono ?_; (first | exact hcur | exact hcur.drew' | exact hcur.alloc' _ | exact hcur.drew'.alloc' _ | exact (hcur.alloc' _).drew'); (first | exact Ext.rfl' _ | exact (Ext.rfl' _).drew' | exact (Ext.rfl' _).alloc' _ | exact (Ext.rfl' _).drew'.alloc' _); rintro e w24 ⟨v24, L30, c30, rfl, hv24, hr24, hx⟩; (first | have HB2 := hid (HB2.out.ext hx) | have HB2 := hid ((NB.new hcur.size).ext hx) | have HB2 := hid ((NB.newD hcur.size).ext hx) | skip); have hcur := Ext.step hcur (by first | exact hx | exact Ext.undrew hx | exact Ext.step ((Ext.rfl' _).alloc' _) hx | exact Ext.step ((Ext.rfl' _).drew'.alloc' _) hx); (rw [HWZ.out, HIS.out] at hr24); have HR24 := hid hr24; obtain ⟨A24, k24, c24, xs24, b24, rfl, -⟩ := hv24; (first | (have hyy := row_facts HB2.out.2; obtain ⟨y0, y1, y2, y3⟩ := hyy) | skip)))
                  all_goals
                    go_wp2_with fail
                    go_meet
                    rw [HIS.out]
                    first
                      | exact ⟨_, L30, c30, rfl, rfl, ((KeepRd.rfl' _).setN (nb_int HB2.out)).setN (nb_int2 HB2.out) _ _ HR24.out, (hcur.set' HB2.out.1 _).set' HB2.out.1 _⟩
                      | exact ⟨_, L30, c30, rfl, rfl, HR24.out.ext ((Ext.rfl' _).alloc' _), hcur.alloc' _⟩
                case rest => as_aux_lemma =>
                  obtain ⟨w29, L30, c30, rfl, rfl, hr30, hx⟩ := hcut
                  have R30 := hid hr30
                  clear hcur HS HIS
                  replace HV := hid (HV.out.ext hx)
                  replace RM := hid (RM.out.ext hx)
                  replace HT := hid (HT.out.ext hx)
                  replace HRA := hid (HRA.out.ext hx)
                  replace R7 := hid (R7.out.ext hx)
                  replace B9 := hid (B9.out.ext hx)
                  replace B10 := hid (B10.out.ext hx)
                  replace V9 := hid (V9.out.ext hx)
                  replace V10 := hid (V10.out.ext hx)
                  replace HV11 := hid (HV11.out.ext hx)
                  replace B11 := hid (B11.out.ext hx)
                  replace R12 := hid (R12.out.ext hx)
                  replace HV12 := hid (HV12.out.ext hx)
                  replace B12 := hid (B12.out.ext hx)
                  replace B14 := hid (B14.out.ext hx)
                  replace V14 := hid (V14.out.ext hx)
                  replace B15 := hid (B15.out.ext hx)
                  replace V15 := hid (V15.out.ext hx)
                  replace B23 := hid (B23.out.ext hx)
                  replace EX := hid (EX.out.step hx)
                  clear hx hr30
                  obtain ⟨Q, hQ⟩ : ∃ Q, X % Md = Q := ⟨_, rfl⟩
                  have hMd0 : 0 < Md := HAP.out.2.2.2.2.1
                  have hq0 := Int.emod_nonneg X (show Md ≠ 0 by omega)
                  have hq1 := Int.emod_lt_of_pos X hMd0
                  rw [hQ] at hq0 hq1
                  have HWR : Hid (∀ R', 0 ≤ R' → R' < Md → IsWord m us ad Ws R' → R' = Q) := hid (by
                    intro R' h0 h1 h2
                    have h3 := (word_iff hM.out hb4.out (wordB_iff.1 HWB.out).2 h0 (by rw [HWL.out, HMd.out]; exact h1) h2 X).1 (wordI_iff.1 (by rw [HWL.out]; exact HWs.out))
                    rw [HWL.out, HMd.out, hQ] at h3
                    exact h3.symm)
                  obtain ⟨sq, hsq⟩ : ∃ sq, Str (K.txt Q) = sq := ⟨_, rfl⟩
                  have HSQ := hid hsq
                  have HQ := hid hQ
                  have HQB : Hid (Q.natAbs ≤ BIG) := hid (by have := BG.out.2.2.1; omega)
                  have HPW : Hid (m ^ Ws.length = Md) := hid (by rw [HWL.out]; exact HMd.out)
                  obtain ⟨dn, hdn⟩ := Int.eq_ofNat_of_zero_le (show 0 ≤ Md by omega)
                  have HD0 := hid (show 0 < dn by omega)
                  have HDB := hid (show dn ≤ BIG by have := BG.out.2.2.1; omega)
                  have HDN := hid hdn
                  clear hQ hsq hq0 hq1 hdn hMd0
                  obtain ⟨f0, f1, f2, -, -, -⟩ := row_facts3 RM.out
                  go_wp2_with fail
                  refine (wrest_h _ m us ad L12 j q12 Ws Q Md sq sd w29 HV.out R12.out HWL (by omega) hM HWB hb4 HT.out HPW HWR HSQ HSD).mono ?_
                  rintro e w30 ⟨rfl, hx⟩
                  replace HV := hid (HV.out.ext hx)
                  replace RM := hid (RM.out.ext hx)
                  replace HT := hid (HT.out.ext hx)
                  replace HRA := hid (HRA.out.ext hx)
                  replace R7 := hid (R7.out.ext hx)
                  replace B9 := hid (B9.out.ext hx)
                  replace B10 := hid (B10.out.ext hx)
                  replace V9 := hid (V9.out.ext hx)
                  replace V10 := hid (V10.out.ext hx)
                  replace HV11 := hid (HV11.out.ext hx)
                  replace B11 := hid (B11.out.ext hx)
                  replace R12 := hid (R12.out.ext hx)
                  replace HV12 := hid (HV12.out.ext hx)
                  replace B12 := hid (B12.out.ext hx)
                  replace B14 := hid (B14.out.ext hx)
                  replace V14 := hid (V14.out.ext hx)
                  replace B15 := hid (B15.out.ext hx)
                  replace V15 := hid (V15.out.ext hx)
                  replace B23 := hid (B23.out.ext hx)
                  replace R30 := hid (R30.out.ext hx)
                  replace EX := hid (EX.out.step hx)
                  clear hx f0 f1 f2
                  obtain ⟨g0, g1, -, -⟩ := row_facts B9.out
                  obtain ⟨t0, t1, -, -⟩ := row_facts B11.out
                  have HV11N : Hid (RefV w30 (.agg #[.bool b11, .slice A11 k11 c11]) (dn : Int)) := hid (by rw [← HDN.out]; exact HV11.out)
                  go_wp2_with fail
                  refine (rdiv_any _ _ X dn w30 V9.out HV11N.out BG.out.1 HDB.out HD0.out).mono ?_
                  rintro e w31 ⟨v32, v33, rfl, hv32, hv33, hx⟩
                  replace HV := hid (HV.out.ext hx)
                  replace RM := hid (RM.out.ext hx)
                  replace HT := hid (HT.out.ext hx)
                  replace HRA := hid (HRA.out.ext hx)
                  replace R7 := hid (R7.out.ext hx)
                  replace B9 := hid (B9.out.ext hx)
                  replace B10 := hid (B10.out.ext hx)
                  replace V9 := hid (V9.out.ext hx)
                  replace V10 := hid (V10.out.ext hx)
                  replace HV11 := hid (HV11.out.ext hx)
                  replace B11 := hid (B11.out.ext hx)
                  replace R12 := hid (R12.out.ext hx)
                  replace HV12 := hid (HV12.out.ext hx)
                  replace B12 := hid (B12.out.ext hx)
                  replace B14 := hid (B14.out.ext hx)
                  replace V14 := hid (V14.out.ext hx)
                  replace B15 := hid (B15.out.ext hx)
                  replace V15 := hid (V15.out.ext hx)
                  replace B23 := hid (B23.out.ext hx)
                  replace R30 := hid (R30.out.ext hx)
                  replace EX := hid (EX.out.step hx)
                  rw [← HDN.out, HQ.out] at hv33
                  have HV33 := hid hv33
                  obtain ⟨A32, k32, c32, xs32, b32, rfl, -⟩ := hv32
                  obtain ⟨A33, k33, c33, xs33, b33, rfl, -⟩ := hv33
                  clear hx g0 g1 t0 t1 HV11N
                  have ha := (((Ext.rfl' w31).alloc' (.cells #[.bool b32, .slice A32 k32 c32] 47)).alloc' (.cells #[.bool b33, .slice A33 k33 c33] 47))
                  have hq : Row ((w31.alloc (.cells #[.bool b32, .slice A32 k32 c32] 47)).alloc (.cells #[.bool b33, .slice A33 k33 c33] 47)) (w31.heap.size + 1) 47 [.bool b33, .slice A33 k33 c33] := by
                    have := Row.new (w31.alloc (.cells #[.bool b32, .slice A32 k32 c32] 47)) 47 [.bool b33, .slice A33 k33 c33]
                    rwa [World.size_alloc] at this
                  obtain ⟨w32, hw32⟩ : ∃ w32, ((w31.alloc (.cells #[.bool b32, .slice A32 k32 c32] 47)).alloc (.cells #[.bool b33, .slice A33 k33 c33] 47)) = w32 := ⟨_, rfl⟩
                  rw [hw32] at ha hq
                  have EW32 := hid hw32
                  have B33 := hid hq
                  replace HV33 := hid (HV33.out.ext ha)
                  replace HV := hid (HV.out.ext ha)
                  replace RM := hid (RM.out.ext ha)
                  replace HT := hid (HT.out.ext ha)
                  replace HRA := hid (HRA.out.ext ha)
                  replace R7 := hid (R7.out.ext ha)
                  replace B9 := hid (B9.out.ext ha)
                  replace B10 := hid (B10.out.ext ha)
                  replace V9 := hid (V9.out.ext ha)
                  replace V10 := hid (V10.out.ext ha)
                  replace HV11 := hid (HV11.out.ext ha)
                  replace B11 := hid (B11.out.ext ha)
                  replace R12 := hid (R12.out.ext ha)
                  replace HV12 := hid (HV12.out.ext ha)
                  replace B12 := hid (B12.out.ext ha)
                  replace B14 := hid (B14.out.ext ha)
                  replace V14 := hid (V14.out.ext ha)
                  replace B15 := hid (B15.out.ext ha)
                  replace V15 := hid (V15.out.ext ha)
                  replace B23 := hid (B23.out.ext ha)
                  replace R30 := hid (R30.out.ext ha)
                  replace EX := hid (EX.out.step ha)
                  clear ha hq hw32
                  go_upto_region 31 with fail
                  rw [EW32.out]
                  clear EW32
                  obtain ⟨H33, hH33⟩ : ∃ H33, w31.heap.size + 1 = H33 := ⟨_, rfl⟩
                  rw [hH33] at B33
                  rw [hH33]
                  clear hH33
                  go_wp2_with fail
                  refine (sames_any L30 L7 j c30 j c7 vs vs w32 R30.out R7.out HL7.out HL7.out (by omega) (by omega) (b := true) (hid ⟨fun _ => rfl, fun _ => rfl⟩)).mono ?_
                  rintro e w33 ⟨rfl, hx⟩
                  replace HV := hid (HV.out.ext hx)
                  replace RM := hid (RM.out.ext hx)
                  replace HT := hid (HT.out.ext hx)
                  replace HRA := hid (HRA.out.ext hx)
                  replace R7 := hid (R7.out.ext hx)
                  replace B9 := hid (B9.out.ext hx)
                  replace B10 := hid (B10.out.ext hx)
                  replace V9 := hid (V9.out.ext hx)
                  replace V10 := hid (V10.out.ext hx)
                  replace HV11 := hid (HV11.out.ext hx)
                  replace B11 := hid (B11.out.ext hx)
                  replace R12 := hid (R12.out.ext hx)
                  replace HV12 := hid (HV12.out.ext hx)
                  replace B12 := hid (B12.out.ext hx)
                  replace B14 := hid (B14.out.ext hx)
                  replace V14 := hid (V14.out.ext hx)
                  replace B15 := hid (B15.out.ext hx)
                  replace V15 := hid (V15.out.ext hx)
                  replace B23 := hid (B23.out.ext hx)
                  replace R30 := hid (R30.out.ext hx)
                  replace B33 := hid (B33.out.ext hx)
                  replace HV33 := hid (HV33.out.ext hx)
                  replace EX := hid (EX.out.step hx)
                  clear hx
                  obtain ⟨g0, g1, -, -⟩ := row_facts B33.out
                  go_wp2_with fail
                  refine (rtext_s _ HV33.out HQB.out HSQ).mono ?_
                  rintro e w34 ⟨rfl, hx⟩
                  replace HV := hid (HV.out.ext hx)
                  replace RM := hid (RM.out.ext hx)
                  replace HT := hid (HT.out.ext hx)
                  replace HRA := hid (HRA.out.ext hx)
                  replace R7 := hid (R7.out.ext hx)
                  replace B9 := hid (B9.out.ext hx)
                  replace B10 := hid (B10.out.ext hx)
                  replace V9 := hid (V9.out.ext hx)
                  replace V10 := hid (V10.out.ext hx)
                  replace HV11 := hid (HV11.out.ext hx)
                  replace B11 := hid (B11.out.ext hx)
                  replace R12 := hid (R12.out.ext hx)
                  replace HV12 := hid (HV12.out.ext hx)
                  replace B12 := hid (B12.out.ext hx)
                  replace B14 := hid (B14.out.ext hx)
                  replace V14 := hid (V14.out.ext hx)
                  replace B15 := hid (B15.out.ext hx)
                  replace V15 := hid (V15.out.ext hx)
                  replace B23 := hid (B23.out.ext hx)
                  replace R30 := hid (R30.out.ext hx)
                  replace B33 := hid (B33.out.ext hx)
                  replace HV33 := hid (HV33.out.ext hx)
                  replace EX := hid (EX.out.step hx)
                  clear hx g0 g1
                  obtain ⟨g0, g1, -, -⟩ := row_facts B11.out
                  go_wp2_with fail
                  refine (rtext_s _ HV11.out BG.out.2.2.1 HSD).mono ?_
                  rintro e w35 ⟨rfl, hx⟩
                  replace HV := hid (HV.out.ext hx)
                  replace RM := hid (RM.out.ext hx)
                  replace HT := hid (HT.out.ext hx)
                  replace HRA := hid (HRA.out.ext hx)
                  replace R7 := hid (R7.out.ext hx)
                  replace B9 := hid (B9.out.ext hx)
                  replace B10 := hid (B10.out.ext hx)
                  replace V9 := hid (V9.out.ext hx)
                  replace V10 := hid (V10.out.ext hx)
                  replace HV11 := hid (HV11.out.ext hx)
                  replace B11 := hid (B11.out.ext hx)
                  replace R12 := hid (R12.out.ext hx)
                  replace HV12 := hid (HV12.out.ext hx)
                  replace B12 := hid (B12.out.ext hx)
                  replace B14 := hid (B14.out.ext hx)
                  replace V14 := hid (V14.out.ext hx)
                  replace B15 := hid (B15.out.ext hx)
                  replace V15 := hid (V15.out.ext hx)
                  replace B23 := hid (B23.out.ext hx)
                  replace R30 := hid (R30.out.ext hx)
                  replace B33 := hid (B33.out.ext hx)
                  replace HV33 := hid (HV33.out.ext hx)
                  replace EX := hid (EX.out.step hx)
                  clear hx g0 g1
                  go_wp2_with fail
                  refine (leads_any w35 HT.out).mono ?_
                  rintro e wL ⟨rfl, hx⟩
                  have EL := hid (EX.out.step hx)
                  go_wp2
                  go_ret
                  exact ⟨rfl, EL.out⟩
theorem law_TopWords (v : Value) (m : Int) (us ad : List Int) (l0 l1 : List UInt8) (Wd : Option Addr) (wn wc : Nat) (ws : List Int) (w : World) (hv : MapV w v m us ad) (hw : Rd w Wd (Is ws)) (hl : ws.length = wn) (hwb : wn ≤ 140737488351232) (HLN : Hid (∀ l ∈ [l0, l1], l.length ≤ 140737488351232)) (ht : Tab w) : Calls Tryz.prog 8 #[v, .agg #[.string (Str l0), .string (Str l1)], .slice Wd wn wc] w (TruePost w) := by
  by_cases h : mapB m us ad = true ∧ [l0, l1].all shortB = true
  · have hM := (mapB_iff m us ad).1 h.1
    have hv2 := hv
    obtain ⟨A, n, cc, B, n2, d, rfl, h1, h2, h3, h4, h5, h6, h7, h9⟩ := hv
    obtain ⟨ba, oa, eA, -, -⟩ := h5.atI (k := 0) (by have := hM.1; have := hM.2.2.1; omega)
    subst eA
    exact words_yes ba oa n cc B n2 d m us ad l0 l1 _ _ Wd wn wc ws w hv2 hw hl hwb (hid rfl) (hid rfl) HLN ht _ (hid rfl) h5 h1 (hid hM) (hid h.2)
  · obtain ⟨A, n, cc, B, n2, d, rfl, h1⟩ := id hv
    exact words_no A n cc B n2 d m us ad l0 l1 _ _ Wd wn wc ws w hv hw hl hwb (hid rfl) (hid rfl) HLN ht _ _ (hid rfl) (hid rfl) (hid h)
end Go.Proofs.YtimokpcopeldfaaGreatDoor
