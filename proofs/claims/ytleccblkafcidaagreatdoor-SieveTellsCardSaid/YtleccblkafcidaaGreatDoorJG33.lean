/- the law SieveTells -/
import Derived.Deep.QuietTactic
import Derived.BigQuiet
import Derived.Test.YtleccblkafcidaaGreatDoorJG29
import Derived.Test.YtleccblkafcidaaGreatDoorJG32
import Derived.Test.YtleccblkafcidaaGreatDoorJG21
import Derived.Test.YtleccblkafcidaaGreatDoorJG11
import Derived.Test.YtleccblkafcidaaGreatDoorJG15
set_option linter.unusedSimpArgs false
set_option linter.unusedVariables false
namespace Go.Proofs.YtleccblkafcidaaGreatDoor
open Go.RowKit
set_option maxRecDepth 100000 in
set_option maxHeartbeats 6400000 in
theorem tells_form (v : Value) (m : Int) (us ad : List Int) (k : Int) (w : World) (hv : MapV w v m us ad) (h8 : Fit8 v) (hk : -9223372036854775808 ≤ k) (hk2 : k ≤ 9223372036854775807) (ht : Tab w) (HB : Hid (mapB m us ad = false)) :
    Calls Tryz.prog 3 #[v, .int .i64 k] w (TruePost w) := by
  have hb1 : Hid (mapB m us ad = false) := HB
  have H8 := hid h8
  have HV := hid hv
  have HT := hid ht
  obtain ⟨A, n, cc, B, n2, d2, rfl, -⟩ := hv
  have hx : Ext w (w.alloc (.cells #[.int .i64 m, .slice A n cc, .slice B n2 d2] 24)) := (Ext.rfl' w).alloc' _
  have hr1 : Row (w.alloc (.cells #[.int .i64 m, .slice A n cc, .slice B n2 d2] 24)) w.heap.size 24 [.int .i64 m, .slice A n cc, .slice B n2 d2] := Row.new w _ _
  obtain ⟨w1, hw1⟩ : ∃ w1, w.alloc (.cells #[.int .i64 m, .slice A n cc, .slice B n2 d2] 24) = w1 := ⟨_, rfl⟩
  rw [hw1] at hx hr1
  have HW1 := hid hw1
  have EX := hid hx
  have RM := hid hr1
  replace HV := hid (HV.out.ext hx)
  replace HT := hid (HT.out.ext hx)
  clear hw1 hx hr1
  go_enter Tryz.func3, Tryz.ntmps3
  go_upto_region 1 with fail
  rw [HW1.out]
  obtain ⟨f0, f1, f2, -, -, -⟩ := row_facts3 RM.out
  go_wp2_with fail
  refine (twin_any _ m us ad w1 HV.out H8.out).mono ?_
  rintro e w2 ⟨v2, rfl, hv2, hx⟩
  replace HV := hid (HV.out.ext hx)
  replace RM := hid (RM.out.ext hx)
  replace HT := hid (HT.out.ext hx)
  replace EX := hid (EX.out.step hx)
  clear hx f0 f1 f2
  have HV2 := hid hv2
  obtain ⟨A2, l2, e2, B2, p2, g2, rfl, -⟩ := hv2
  have ha := (Ext.rfl' w2).alloc' (.cells #[.int .i64 m, .slice A2 l2 e2, .slice B2 p2 g2] 24)
  have hq : Row (w2.alloc (.cells #[.int .i64 m, .slice A2 l2 e2, .slice B2 p2 g2] 24)) w2.heap.size 24 [.int .i64 m, .slice A2 l2 e2, .slice B2 p2 g2] := Row.new w2 _ _
  obtain ⟨w3, hw3⟩ : ∃ w3, w2.alloc (.cells #[.int .i64 m, .slice A2 l2 e2, .slice B2 p2 g2] 24) = w3 := ⟨_, rfl⟩
  rw [hw3] at ha hq
  have Ew3 := hid hw3
  have B5 := hid hq
  replace HV := hid (HV.out.ext ha)
  replace RM := hid (RM.out.ext ha)
  replace HT := hid (HT.out.ext ha)
  replace HV2 := hid (HV2.out.ext ha)
  replace EX := hid (EX.out.step ha)
  have ha5 := ha
  clear ha hq hw3
  go_upto_region 2 with fail
  rw [Ew3.out]
  clear Ew3
  obtain ⟨H5, hH5⟩ : ∃ H5, w2.heap.size = H5 := ⟨_, rfl⟩
  rw [hH5] at B5
  rw [hH5]
  have HH5 := hid hH5
  have HA5 := hid ha5
  clear hH5 ha5
  obtain ⟨f0, f1, f2, -, -, -⟩ := row_facts3 RM.out
  go_wp2_with fail
  refine (sieve_bad _ m us ad k w3 HV.out hk hk2 hb1 (hid (by simp)) (c := 1) (hid (by simp))).mono ?_
  rintro e w4 ⟨rfl, hx⟩
  replace HV := hid (HV.out.ext hx)
  replace RM := hid (RM.out.ext hx)
  replace HT := hid (HT.out.ext hx)
  replace HV2 := hid (HV2.out.ext hx)
  replace B5 := hid (B5.out.ext hx)
  replace EX := hid (EX.out.step hx)
  clear hx f0 f1 f2
  obtain ⟨f0, f1, f2, -, -, -⟩ := row_facts3 RM.out
  obtain ⟨t0, t1, t2, -, -, -⟩ := row_facts3 B5.out
  go_wp2_with fail
  refine (rsame_eq _ _ m us ad w4 HV.out HV2.out).mono ?_
  rintro e w6 ⟨rfl, hx⟩
  replace HV := hid (HV.out.ext hx)
  replace RM := hid (RM.out.ext hx)
  replace HT := hid (HT.out.ext hx)
  replace HV2 := hid (HV2.out.ext hx)
  replace B5 := hid (B5.out.ext hx)
  replace EX := hid (EX.out.step hx)
  clear hx f0 f1 f2 t0 t1 t2
  obtain ⟨f0, f1, f2, -, -, -⟩ := row_facts3 RM.out
  go_wp2_with fail
  refine (refvalid_any _ m us ad w6 HV.out hb1).mono ?_
  rintro e w7 ⟨rfl, hx⟩
  replace HV := hid (HV.out.ext hx)
  replace RM := hid (RM.out.ext hx)
  replace HT := hid (HT.out.ext hx)
  replace HV2 := hid (HV2.out.ext hx)
  replace B5 := hid (B5.out.ext hx)
  replace EX := hid (EX.out.step hx)
  clear hx f0 f1 f2
  go_wp2_with fail
  refine (awake4_any w7 HT.out).mono ?_
  rintro e wL ⟨rfl, hx⟩
  have EL := hid (EX.out.step hx)
  go_wp2
  go_ret
  exact ⟨rfl, EL.out⟩
set_option maxRecDepth 100000 in
set_option maxHeartbeats 6400000 in
theorem tells_no (v : Value) (m : Int) (us ad : List Int) (k : Int) (w : World) (hv : MapV w v m us ad) (h8 : Fit8 v) (hk : -9223372036854775808 ≤ k) (hk2 : k ≤ 9223372036854775807) (ht : Tab w) (HB : Hid (mapB m us ad = true)) (HNS : Hid (¬ SuitP m us k)) :
    Calls Tryz.prog 3 #[v, .int .i64 k] w (TruePost w) := by
  have hb1 : Hid (mapB m us ad = true) := HB
  have H8 := hid h8
  have HV := hid hv
  have HT := hid ht
  obtain ⟨A, n, cc, B, n2, d2, rfl, -⟩ := hv
  have hx : Ext w (w.alloc (.cells #[.int .i64 m, .slice A n cc, .slice B n2 d2] 24)) := (Ext.rfl' w).alloc' _
  have hr1 : Row (w.alloc (.cells #[.int .i64 m, .slice A n cc, .slice B n2 d2] 24)) w.heap.size 24 [.int .i64 m, .slice A n cc, .slice B n2 d2] := Row.new w _ _
  obtain ⟨w1, hw1⟩ : ∃ w1, w.alloc (.cells #[.int .i64 m, .slice A n cc, .slice B n2 d2] 24) = w1 := ⟨_, rfl⟩
  rw [hw1] at hx hr1
  have HW1 := hid hw1
  have EX := hid hx
  have RM := hid hr1
  replace HV := hid (HV.out.ext hx)
  replace HT := hid (HT.out.ext hx)
  clear hw1 hx hr1
  go_enter Tryz.func3, Tryz.ntmps3
  go_upto_region 1 with fail
  rw [HW1.out]
  obtain ⟨f0, f1, f2, -, -, -⟩ := row_facts3 RM.out
  go_wp2_with fail
  refine (twin_any _ m us ad w1 HV.out H8.out).mono ?_
  rintro e w2 ⟨v2, rfl, hv2, hx⟩
  replace HV := hid (HV.out.ext hx)
  replace RM := hid (RM.out.ext hx)
  replace HT := hid (HT.out.ext hx)
  replace EX := hid (EX.out.step hx)
  clear hx f0 f1 f2
  have HV2 := hid hv2
  obtain ⟨A2, l2, e2, B2, p2, g2, rfl, -⟩ := hv2
  have ha := (Ext.rfl' w2).alloc' (.cells #[.int .i64 m, .slice A2 l2 e2, .slice B2 p2 g2] 24)
  have hq : Row (w2.alloc (.cells #[.int .i64 m, .slice A2 l2 e2, .slice B2 p2 g2] 24)) w2.heap.size 24 [.int .i64 m, .slice A2 l2 e2, .slice B2 p2 g2] := Row.new w2 _ _
  obtain ⟨w3, hw3⟩ : ∃ w3, w2.alloc (.cells #[.int .i64 m, .slice A2 l2 e2, .slice B2 p2 g2] 24) = w3 := ⟨_, rfl⟩
  rw [hw3] at ha hq
  have Ew3 := hid hw3
  have B5 := hid hq
  replace HV := hid (HV.out.ext ha)
  replace RM := hid (RM.out.ext ha)
  replace HT := hid (HT.out.ext ha)
  replace HV2 := hid (HV2.out.ext ha)
  replace EX := hid (EX.out.step ha)
  have ha5 := ha
  clear ha hq hw3
  go_upto_region 2 with fail
  rw [Ew3.out]
  clear Ew3
  obtain ⟨H5, hH5⟩ : ∃ H5, w2.heap.size = H5 := ⟨_, rfl⟩
  rw [hH5] at B5
  rw [hH5]
  have HH5 := hid hH5
  have HA5 := hid ha5
  clear hH5 ha5
  obtain ⟨f0, f1, f2, -, -, -⟩ := row_facts3 RM.out
  go_wp2_with fail
  refine (sieve_bad _ m us ad k w3 HV.out hk hk2 hb1 (hid (by exact fun h => HNS.out h.2)) (c := 2) (hid (by simp))).mono ?_
  rintro e w4 ⟨rfl, hx⟩
  replace HV := hid (HV.out.ext hx)
  replace RM := hid (RM.out.ext hx)
  replace HT := hid (HT.out.ext hx)
  replace HV2 := hid (HV2.out.ext hx)
  replace B5 := hid (B5.out.ext hx)
  replace EX := hid (EX.out.step hx)
  clear hx f0 f1 f2
  obtain ⟨f0, f1, f2, -, -, -⟩ := row_facts3 RM.out
  obtain ⟨t0, t1, t2, -, -, -⟩ := row_facts3 B5.out
  go_wp2_with fail
  refine (rsame_eq _ _ m us ad w4 HV.out HV2.out).mono ?_
  rintro e w6 ⟨rfl, hx⟩
  replace HV := hid (HV.out.ext hx)
  replace RM := hid (RM.out.ext hx)
  replace HT := hid (HT.out.ext hx)
  replace HV2 := hid (HV2.out.ext hx)
  replace B5 := hid (B5.out.ext hx)
  replace EX := hid (EX.out.step hx)
  clear hx f0 f1 f2 t0 t1 t2
  obtain ⟨f0, f1, f2, -, -, -⟩ := row_facts3 RM.out
  go_wp2_with fail
  refine (refvalid_any _ m us ad w6 HV.out hb1).mono ?_
  rintro e w7 ⟨rfl, hx⟩
  replace HV := hid (HV.out.ext hx)
  replace RM := hid (RM.out.ext hx)
  replace HT := hid (HT.out.ext hx)
  replace HV2 := hid (HV2.out.ext hx)
  replace B5 := hid (B5.out.ext hx)
  replace EX := hid (EX.out.step hx)
  clear hx f0 f1 f2
  obtain ⟨f0, f1, f2, -, -, -⟩ := row_facts3 RM.out
  go_wp2_with fail
  refine (may_any _ m us ad k w7 HV.out hk hk2 (b := false) (hid ⟨fun h => Bool.noConfusion h, fun h => absurd h.2 HNS.out⟩)).mono ?_
  rintro e w8 ⟨rfl, hx⟩
  replace HV := hid (HV.out.ext hx)
  replace RM := hid (RM.out.ext hx)
  replace HT := hid (HT.out.ext hx)
  replace HV2 := hid (HV2.out.ext hx)
  replace B5 := hid (B5.out.ext hx)
  replace EX := hid (EX.out.step hx)
  clear hx f0 f1 f2
  go_wp2_with fail
  refine (awake4_any w8 HT.out).mono ?_
  rintro e wL ⟨rfl, hx⟩
  have EL := hid (EX.out.step hx)
  go_wp2
  go_ret
  exact ⟨rfl, EL.out⟩
set_option maxRecDepth 100000 in
set_option maxHeartbeats 12800000 in
theorem tells_yes (v : Value) (m : Int) (us ad : List Int) (q : Nat) (w : World) (hv : MapV w v m us ad) (h8 : Fit8 v) (hqq : (q : Int) ≤ 9223372036854775807) (ht : Tab w) (M : Nat) (hmM : Hid (m = (M : Int))) (hM : Hid (mapP m us ad)) (hS : Hid (SuitP m us (q : Int))) :
    Calls Tryz.prog 3 #[v, .int .i64 (q : Int)] w (TruePost w) := by
  have hb1 : Hid (mapB m us ad = true) := hid ((mapB_iff m us ad).2 hM.out)
  have hM2 : mapP (M : Int) us ad := by rw [← hmM.out]; exact hM.out
  have HM2 := hid hM2
  clear hM2
  have H8 := hid h8
  have HV := hid hv
  have HT := hid ht
  obtain ⟨A, n, cc, B, n2, d2, rfl, -⟩ := hv
  have hx : Ext w (w.alloc (.cells #[.int .i64 m, .slice A n cc, .slice B n2 d2] 24)) := (Ext.rfl' w).alloc' _
  have hr1 : Row (w.alloc (.cells #[.int .i64 m, .slice A n cc, .slice B n2 d2] 24)) w.heap.size 24 [.int .i64 m, .slice A n cc, .slice B n2 d2] := Row.new w _ _
  obtain ⟨w1, hw1⟩ : ∃ w1, w.alloc (.cells #[.int .i64 m, .slice A n cc, .slice B n2 d2] 24) = w1 := ⟨_, rfl⟩
  rw [hw1] at hx hr1
  have HW1 := hid hw1
  have EX := hid hx
  have RM := hid hr1
  replace HV := hid (HV.out.ext hx)
  replace HT := hid (HT.out.ext hx)
  clear hw1 hx hr1
  go_enter Tryz.func3, Tryz.ntmps3
  go_upto_region 1 with fail
  rw [HW1.out]
  obtain ⟨f0, f1, f2, -, -, -⟩ := row_facts3 RM.out
  go_wp2_with fail
  refine (twin_any _ m us ad w1 HV.out H8.out).mono ?_
  rintro e w2 ⟨v2, rfl, hv2, hx⟩
  replace HV := hid (HV.out.ext hx)
  replace RM := hid (RM.out.ext hx)
  replace HT := hid (HT.out.ext hx)
  replace EX := hid (EX.out.step hx)
  clear hx f0 f1 f2
  have HV2 := hid hv2
  obtain ⟨A2, l2, e2, B2, p2, g2, rfl, -⟩ := hv2
  have ha := (Ext.rfl' w2).alloc' (.cells #[.int .i64 m, .slice A2 l2 e2, .slice B2 p2 g2] 24)
  have hq : Row (w2.alloc (.cells #[.int .i64 m, .slice A2 l2 e2, .slice B2 p2 g2] 24)) w2.heap.size 24 [.int .i64 m, .slice A2 l2 e2, .slice B2 p2 g2] := Row.new w2 _ _
  obtain ⟨w3, hw3⟩ : ∃ w3, w2.alloc (.cells #[.int .i64 m, .slice A2 l2 e2, .slice B2 p2 g2] 24) = w3 := ⟨_, rfl⟩
  rw [hw3] at ha hq
  have Ew3 := hid hw3
  have B5 := hid hq
  replace HV := hid (HV.out.ext ha)
  replace RM := hid (RM.out.ext ha)
  replace HT := hid (HT.out.ext ha)
  replace HV2 := hid (HV2.out.ext ha)
  replace EX := hid (EX.out.step ha)
  have ha5 := ha
  clear ha hq hw3
  go_upto_region 2 with fail
  rw [Ew3.out]
  clear Ew3
  obtain ⟨H5, hH5⟩ : ∃ H5, w2.heap.size = H5 := ⟨_, rfl⟩
  rw [hH5] at B5
  rw [hH5]
  have HH5 := hid hH5
  have HA5 := hid ha5
  clear hH5 ha5
  obtain ⟨f0, f1, f2, -, -, -⟩ := row_facts3 RM.out
  go_wp2_with fail
  refine (sieve_ok _ m us ad q M w3 HV.out hM hS hqq hmM HT.out).mono ?_
  rintro e w4 ⟨vF, vL, base, nF, nL, rfl, -, hF, hL, hx⟩
  replace HV := hid (HV.out.ext hx)
  replace RM := hid (RM.out.ext hx)
  replace HT := hid (HT.out.ext hx)
  replace HV2 := hid (HV2.out.ext hx)
  replace B5 := hid (B5.out.ext hx)
  replace EX := hid (EX.out.step hx)
  clear hx f0 f1 f2
  obtain ⟨F, hFe⟩ : ∃ F, srtF (vis M us ad q q 0 0).1 = F := ⟨_, rfl⟩
  obtain ⟨Ls, hLe⟩ : ∃ Ls, srtI (vis M us ad q q 0 0).2 = Ls := ⟨_, rfl⟩
  rw [hFe] at hF
  rw [hLe] at hL
  have hvl := vis_len (M := M) (by have := HM2.out.1; omega) us ad q q 0 0
  have hMq : M ^ q ≤ 65536 := by
    have h : ((M ^ q : Nat) : Int) = m ^ q := by rw [Int.natCast_pow, ← hmM.out]
    have h2 : m ^ q ≤ 65536 := by have := hS.out.2.2; rwa [Int.toNat_natCast] at this
    omega
  have hlF : F.length ≤ 65536 := by rw [← hFe]; unfold srtF; rw [List.length_mergeSort]; exact Nat.le_trans hvl.1 hMq
  have hlL : Ls.length ≤ 65536 := by rw [← hLe]; unfold srtI; rw [List.length_mergeSort]; exact Nat.le_trans hvl.2 hMq
  have HFE : Hid (refF M us ad q = F) := hid (by rw [ref_falls HM2.out, hFe])
  have HLE : Hid (refL M us ad q = Ls) := hid (by rw [ref_left HM2.out, hLe])
  clear hvl hMq hFe hLe
  have hnF : nF = F.length := by
    have h := hF.1
    rw [show (F.flatMap (encF (fTxt m us ad))).length = F.length * 6 by rw [List.length_flatMap]; simp [encF, List.map_const', List.sum_replicate_nat]] at h
    omega
  have hnL : nL = Ls.length := by have h := hL.1; simp at h; omega
  subst hnF hnL
  obtain ⟨AF, cF, rfl, hrF, hgF⟩ := own_rd hF
  obtain ⟨AL, cL, rfl, hrL, -⟩ := own_rd hL
  have RF := hid hrF
  have RL := hid hrL
  have HGF := hid hgF
  clear hF hL hrF hrL hgF
  obtain ⟨f0, f1, f2, -, -, -⟩ := row_facts3 RM.out
  obtain ⟨t0, t1, t2, -, -, -⟩ := row_facts3 B5.out
  go_wp2_with fail
  refine (rsame_eq _ _ m us ad w4 HV.out HV2.out).mono ?_
  rintro e w6 ⟨rfl, hx⟩
  replace HV := hid (HV.out.ext hx)
  replace RM := hid (RM.out.ext hx)
  replace HT := hid (HT.out.ext hx)
  replace HV2 := hid (HV2.out.ext hx)
  replace B5 := hid (B5.out.ext hx)
  replace RF := hid (RF.out.ext hx)
  replace RL := hid (RL.out.ext hx)
  replace EX := hid (EX.out.step hx)
  clear hx f0 f1 f2 t0 t1 t2
  obtain ⟨f0, f1, f2, -, -, -⟩ := row_facts3 RM.out
  go_wp2_with fail
  refine (refvalid_any _ m us ad w6 HV.out hb1).mono ?_
  rintro e w7 ⟨rfl, hx⟩
  replace HV := hid (HV.out.ext hx)
  replace RM := hid (RM.out.ext hx)
  replace HT := hid (HT.out.ext hx)
  replace HV2 := hid (HV2.out.ext hx)
  replace B5 := hid (B5.out.ext hx)
  replace RF := hid (RF.out.ext hx)
  replace RL := hid (RL.out.ext hx)
  replace EX := hid (EX.out.step hx)
  clear hx f0 f1 f2
  obtain ⟨f0, f1, f2, -, -, -⟩ := row_facts3 RM.out
  go_wp2_with fail
  refine (may_any _ m us ad (q : Int) w7 HV.out (by omega) hqq (b := true) (hid ⟨fun _ => ⟨hM.out, hS.out⟩, fun _ => rfl⟩)).mono ?_
  rintro e w8 ⟨rfl, hx⟩
  replace HV := hid (HV.out.ext hx)
  replace RM := hid (RM.out.ext hx)
  replace HT := hid (HT.out.ext hx)
  replace HV2 := hid (HV2.out.ext hx)
  replace B5 := hid (B5.out.ext hx)
  replace RF := hid (RF.out.ext hx)
  replace RL := hid (RL.out.ext hx)
  replace EX := hid (EX.out.step hx)
  clear hx f0 f1 f2
  obtain ⟨f0, f1, f2, -, -, -⟩ := row_facts3 RM.out
  go_wp2_with fail
  refine (rsieve_any _ m us ad q M w8 HV.out hM hS hqq hmM).mono ?_
  rintro e w9 ⟨vW, vR, base2, nW, nR, rfl, -, hW, hR, hx⟩
  replace HV := hid (HV.out.ext hx)
  replace RM := hid (RM.out.ext hx)
  replace HT := hid (HT.out.ext hx)
  replace HV2 := hid (HV2.out.ext hx)
  replace B5 := hid (B5.out.ext hx)
  replace RF := hid (RF.out.ext hx)
  replace RL := hid (RL.out.ext hx)
  replace EX := hid (EX.out.step hx)
  clear hx f0 f1 f2
  rw [HFE.out] at hW
  rw [HLE.out] at hR
  have hnW : nW = F.length := by
    have h := hW.1
    rw [show (F.flatMap (encF (fTxt m us ad))).length = F.length * 6 by rw [List.length_flatMap]; simp [encF, List.map_const', List.sum_replicate_nat]] at h
    omega
  have hnR : nR = Ls.length := by have h := hR.1; simp at h; omega
  subst hnW hnR
  obtain ⟨AW, cW, rfl, hrW, hgW⟩ := own_rd hW
  obtain ⟨AR, cR, rfl, hrR, -⟩ := own_rd hR
  have RW := hid hrW
  have RR := hid hrR
  have HGW := hid hgW
  clear hW hR hrW hrR hgW
  go_wp2_with fail
  refine (ralike_eq AL AR Ls.length cL cR Ls w9 RL.out RR.out rfl (by omega)).mono ?_
  rintro e w10 ⟨rfl, hx⟩
  replace HV := hid (HV.out.ext hx)
  replace RM := hid (RM.out.ext hx)
  replace HT := hid (HT.out.ext hx)
  replace HV2 := hid (HV2.out.ext hx)
  replace B5 := hid (B5.out.ext hx)
  replace RF := hid (RF.out.ext hx)
  replace RL := hid (RL.out.ext hx)
  replace RW := hid (RW.out.ext hx)
  replace RR := hid (RR.out.ext hx)
  replace EX := hid (EX.out.step hx)
  clear hx
  have E7 : Hid (Ext w10 w10) := hid (Ext.rfl' _)
  have HT7 := HT
  have RF7 := RF
  have RW7 := RW
  have EX7 := EX
  go_wp2_with fail
  go_loopw [11] (fun iz wr => ∃ j : Nat, j ≤ F.length ∧ iz = .int .i64 (j : Int) ∧ Ext w10 wr) (fun iz _ => F.length - (intOf iz).toNat)
  case atStart => exact ⟨0, by omega, rfl, E7.out⟩
  case round =>
    clear HV RM HV2 B5 RL RR HT RF RW EX E7
    obtain ⟨j, hj, rfl, hex⟩ := hrel
    have E7 := hid hex
    have HT := hid (HT7.out.ext hex)
    have EX := hid (EX7.out.step hex)
    clear hex
    by_cases hlt : j < F.length
    · obtain ⟨gF, hgF⟩ := HGF.out (by omega)
      obtain ⟨gW, hgW⟩ := HGW.out (by omega)
      subst hgF hgW
      obtain ⟨⟨s, r⟩, hp⟩ : ∃ p, F[j]? = some p := ⟨_, List.getElem?_eq_getElem hlt⟩
      have hlt2 : (j : Int) < (F.length : Int) := by omega
      have i0 : (0 : Int) ≤ (j : Int) := by omega
      obtain ⟨tu, ta, td, tb, htx⟩ : ∃ tu ta td tb, fTxt m us ad (s, r) = (tu, ta, td, tb) := ⟨_, _, _, _, rfl⟩
      have c := (RF7.out.ext E7.out).fall hp
      have d := (RW7.out.ext E7.out).fall hp
      rw [htx] at c d
      obtain ⟨c0, c1, c2, c3, c4, c5⟩ := c
      obtain ⟨d0, d1, d2', d3, d4, d5⟩ := d
      simp only at c0 c1 c2 c3 c4 c5 d0 d1 d2' d3 d4 d5
      go_wp2_with fail
      go_quiet (fail)
      go_wp2_with fail
      go_roundw
      case rel => exact ⟨j + 1, by omega, by simp, E7.out.step (Ext.of_drewN _ _)⟩
      case measure => first | (simp [intOf]; done) | (simp [intOf]; omega)
    · obtain rfl : j = F.length := by omega
      have hjl : ¬ (F.length : Int) < (F.length : Int) := by omega
      go_wp2_with fail
      refine (awake4_any wr HT.out).mono ?_
      rintro e wL ⟨rfl, hx⟩
      have EL := hid (EX.out.step hx)
      go_wp2
      go_ret
      exact ⟨rfl, EL.out⟩
theorem law_SieveTells (v : Value) (m : Int) (us ad : List Int) (k : Int) (w : World) (hv : MapV w v m us ad) (h8 : Fit8 v) (hk : -9223372036854775808 ≤ k) (hk2 : k ≤ 9223372036854775807) (ht : Tab w) : Calls Tryz.prog 3 #[v, .int .i64 k] w (TruePost w) := by
  cases h1 : mapB m us ad with
  | false => exact tells_form v m us ad k w hv h8 hk hk2 ht (hid h1)
  | true =>
    have hM := (mapB_iff m us ad).1 h1
    by_cases h3 : SuitP m us k
    · obtain ⟨q, rfl⟩ := Int.eq_ofNat_of_zero_le (show 0 ≤ k by have := h3.2.1; omega)
      exact tells_yes v m us ad q w hv h8 hk2 ht m.toNat (hid (by have := hM.1; omega)) (hid hM) (hid h3)
    · exact tells_no v m us ad k w hv h8 hk hk2 ht (hid h1) (hid h3)
end Go.Proofs.YtleccblkafcidaaGreatDoor
