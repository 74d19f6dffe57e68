/- the law SieveFinds -/
import Derived.Test.YtleccblkafcidaaGreatDoorJG26
import Derived.Test.YtleccblkafcidaaGreatDoorJG21
import Derived.Test.YtleccblkafcidaaGreatDoorJG11
set_option linter.unusedSimpArgs false
set_option linter.unusedVariables false
namespace Go.Proofs.YtleccblkafcidaaGreatDoor
open Go.RowKit
theorem findC_form {m : Int} {us ad : List Int} {X : Int} {k : Nat} {v : Value} {b : Bool} (h : FindC m us ad X k v b) : ∃ s r su sa sd sb, v = FaV s r su sa sd sb := by
  rcases h with ⟨-, i, -, -, -, -, rfl⟩ | ⟨-, rfl, -⟩
  · exact ⟨_, _, _, _, _, _, rfl⟩
  · exact ⟨0, 0, ⟨#[]⟩, ⟨#[]⟩, ⟨#[]⟩, ⟨#[]⟩, rfl⟩
theorem findC_uniq {m : Int} {us ad : List Int} {X : Int} {k : Nat} {v v' : Value} {b b' : Bool} (h : FindC m us ad X k v b) (h' : FindC m us ad X k v' b') : v' = v ∧ b' = b := by
  rcases h with ⟨rfl, i, i1, i2, i3, i4, rfl⟩ | ⟨rfl, rfl, n⟩ <;> rcases h' with ⟨rfl, j, j1, j2, j3, j4, rfl⟩ | ⟨rfl, rfl, n'⟩
  · have : i = j := by
      rcases Nat.lt_trichotomy i j with h | h | h
      · exact absurd i3 (j4 i i1 h)
      · exact h
      · exact absurd j3 (i4 j j1 h)
    subst this
    exact ⟨rfl, rfl⟩
  · exact absurd i3 (n' i i1 i2)
  · exact absurd j3 (n j j1 j2)
  · exact ⟨rfl, rfl⟩
theorem rfind_s (v vn : Value) (m : Int) (us ad : List Int) (X : Int) (q : Nat) (fv : Value) (b : Bool) (w : World) (hv : MapV w v m us ad) (hM : Hid (mapP m us ad)) (hn : RefV w vn X) (hX : X.natAbs ≤ BIG) (hS : Hid (SuitP m us (q : Int))) (hqq : (q : Int) ≤ 9223372036854775807) (hF : Hid (FindC m us ad X q fv b)) :
    Calls Tryz.prog 24 #[v, vn, .int .i64 (q : Int)] w (fun e w' => e = .returned (.tuple #[fv, .bool b]) ∧ Ext w w') := by
  refine (rfind_any v vn m us ad X q w hv hM hn hX hS hqq).mono ?_
  rintro e w' ⟨fv', b', rfl, h, hx⟩
  obtain ⟨rfl, rfl⟩ := findC_uniq hF.out h
  exact ⟨rfl, hx⟩
/-- a fall's box that was made on the way -/
def NF (B : Nat) (w : World) (g : Nat) : Prop := B ≤ g ∧ Row w g 40 [.int .i64 0, .int .i64 0, .string ⟨#[]⟩, .string ⟨#[]⟩, .string ⟨#[]⟩, .string ⟨#[]⟩]
theorem NF.new {B : Nat} {w : World} (h : B ≤ w.heap.size) : NF B (w.alloc (.cells #[.int .i64 0, .int .i64 0, .string ⟨#[]⟩, .string ⟨#[]⟩, .string ⟨#[]⟩, .string ⟨#[]⟩] 40)) w.heap.size := ⟨h, Row.new w _ [.int .i64 0, .int .i64 0, .string ⟨#[]⟩, .string ⟨#[]⟩, .string ⟨#[]⟩, .string ⟨#[]⟩]⟩
theorem NF.newD {B : Nat} {w : World} (h : B ≤ w.heap.size) : NF B (w.drew.alloc (.cells #[.int .i64 0, .int .i64 0, .string ⟨#[]⟩, .string ⟨#[]⟩, .string ⟨#[]⟩, .string ⟨#[]⟩] 40)) w.heap.size := ⟨h, Row.new w.drew _ [.int .i64 0, .int .i64 0, .string ⟨#[]⟩, .string ⟨#[]⟩, .string ⟨#[]⟩, .string ⟨#[]⟩]⟩
theorem NF.ext {B g : Nat} {w w' : World} (h : NF B w g) (e : Ext w w') : NF B w' g := ⟨h.1, h.2.ext e⟩
set_option maxRecDepth 100000 in
set_option maxHeartbeats 6400000 in
theorem finds_form (v : Value) (m : Int) (us ad : List Int) (l : List UInt8) (k : Int) (w : World) (hv : MapV w v m us ad) (h8 : Fit8 v) (hlen : l.length ≤ 140737488351232) (hk : -9223372036854775808 ≤ k) (hk2 : k ≤ 9223372036854775807) (ht : Tab w) (x2 : Bool) (HB : Hid (mapB m us ad = false) ∧ Hid (K.validL l = x2)) :
    Calls Tryz.prog 4 #[v, .string (Str l), .int .i64 k] w (TruePost w) := by
  have hb1 : Hid (mapB m us ad = false) := HB.1
  have hb2 : Hid (K.validL l = x2) := HB.2
  have H8 := hid h8
  have HV := hid hv
  have HT := hid ht
  obtain ⟨A, n, cc, B, n2, d2, rfl, -⟩ := hv
  have hx : Ext w (w.alloc (.cells #[.int .i64 m, .slice A n cc, .slice B n2 d2] 24)) := (Ext.rfl' w).alloc' _
  have hr1 : Row (w.alloc (.cells #[.int .i64 m, .slice A n cc, .slice B n2 d2] 24)) w.heap.size 24 [.int .i64 m, .slice A n cc, .slice B n2 d2] := Row.new w _ _
  obtain ⟨w1, hw1⟩ : ∃ w1, w.alloc (.cells #[.int .i64 m, .slice A n cc, .slice B n2 d2] 24) = w1 := ⟨_, rfl⟩
  rw [hw1] at hx hr1
  have HW1 := hid hw1
  have EX := hid hx
  have RM := hid hr1
  replace HV := hid (HV.out.ext hx)
  replace HT := hid (HT.out.ext hx)
  clear hw1 hx hr1
  go_enter Tryz.func4, Tryz.ntmps4
  go_upto_region 1 with fail
  rw [HW1.out]
  obtain ⟨f0, f1, f2, -, -, -⟩ := row_facts3 RM.out
  go_wp2_with fail
  refine (twin_any _ m us ad w1 HV.out H8.out).mono ?_
  rintro e w2 ⟨v2, rfl, hv2, hx⟩
  replace HV := hid (HV.out.ext hx)
  replace RM := hid (RM.out.ext hx)
  replace HT := hid (HT.out.ext hx)
  replace EX := hid (EX.out.step hx)
  clear hx f0 f1 f2
  have HV2 := hid hv2
  obtain ⟨A2, l2, e2, B2, p2, g2, rfl, -⟩ := hv2
  have ha := (Ext.rfl' w2).alloc' (.cells #[.int .i64 m, .slice A2 l2 e2, .slice B2 p2 g2] 24)
  have hq : Row (w2.alloc (.cells #[.int .i64 m, .slice A2 l2 e2, .slice B2 p2 g2] 24)) w2.heap.size 24 [.int .i64 m, .slice A2 l2 e2, .slice B2 p2 g2] := Row.new w2 _ _
  obtain ⟨w3, hw3⟩ : ∃ w3, w2.alloc (.cells #[.int .i64 m, .slice A2 l2 e2, .slice B2 p2 g2] 24) = w3 := ⟨_, rfl⟩
  rw [hw3] at ha hq
  have Ew3 := hid hw3
  have B7 := hid hq
  replace HV := hid (HV.out.ext ha)
  replace RM := hid (RM.out.ext ha)
  replace HT := hid (HT.out.ext ha)
  replace HV2 := hid (HV2.out.ext ha)
  replace EX := hid (EX.out.step ha)
  have ha7 := ha
  clear ha hq hw3
  go_upto_region 2 with fail
  rw [Ew3.out]
  clear Ew3
  obtain ⟨H7, hH7⟩ : ∃ H7, w2.heap.size = H7 := ⟨_, rfl⟩
  rw [hH7] at B7
  rw [hH7]
  have HH7 := hid hH7
  have HA7 := hid ha7
  clear hH7 ha7
  obtain ⟨f0, f1, f2, -, -, -⟩ := row_facts3 RM.out
  go_wp2_with fail
  refine (find_bad _ m us ad l k w3 HV.out hlen hb1 hb2 hk hk2 (hid (by simp)) (c := 1) (hid (by simp))).mono ?_
  rintro e w4 ⟨rfl, hx⟩
  replace HV := hid (HV.out.ext hx)
  replace RM := hid (RM.out.ext hx)
  replace HT := hid (HT.out.ext hx)
  replace HV2 := hid (HV2.out.ext hx)
  replace B7 := hid (B7.out.ext hx)
  replace EX := hid (EX.out.step hx)
  clear hx f0 f1 f2
  have ha := (Ext.rfl' w4).alloc' (.cells #[.int .i64 0, .int .i64 0, .string ⟨#[]⟩, .string ⟨#[]⟩, .string ⟨#[]⟩, .string ⟨#[]⟩] 40)
  have hq : Row (w4.alloc (.cells #[.int .i64 0, .int .i64 0, .string ⟨#[]⟩, .string ⟨#[]⟩, .string ⟨#[]⟩, .string ⟨#[]⟩] 40)) w4.heap.size 40 [.int .i64 0, .int .i64 0, .string ⟨#[]⟩, .string ⟨#[]⟩, .string ⟨#[]⟩, .string ⟨#[]⟩] := Row.new w4 _ _
  obtain ⟨w5, hw5⟩ : ∃ w5, w4.alloc (.cells #[.int .i64 0, .int .i64 0, .string ⟨#[]⟩, .string ⟨#[]⟩, .string ⟨#[]⟩, .string ⟨#[]⟩] 40) = w5 := ⟨_, rfl⟩
  rw [hw5] at ha hq
  have Ew5 := hid hw5
  have B8 := hid hq
  replace HV := hid (HV.out.ext ha)
  replace RM := hid (RM.out.ext ha)
  replace HT := hid (HT.out.ext ha)
  replace HV2 := hid (HV2.out.ext ha)
  replace B7 := hid (B7.out.ext ha)
  replace EX := hid (EX.out.step ha)
  have ha8 := ha
  clear ha hq hw5
  go_upto_region 3 with fail
  rw [Ew5.out]
  clear Ew5
  obtain ⟨H8, hH8⟩ : ∃ H8, w4.heap.size = H8 := ⟨_, rfl⟩
  rw [hH8] at B8
  rw [hH8]
  have HH8 := hid hH8
  have HA8 := hid ha8
  clear hH8 ha8
  obtain ⟨f0, f1, f2, -, -, -⟩ := row_facts3 RM.out
  obtain ⟨t0, t1, t2, -, -, -⟩ := row_facts3 B7.out
  go_wp2_with fail
  refine (rsame_eq _ _ m us ad w5 HV.out HV2.out).mono ?_
  rintro e w6 ⟨rfl, hx⟩
  replace HV := hid (HV.out.ext hx)
  replace RM := hid (RM.out.ext hx)
  replace HT := hid (HT.out.ext hx)
  replace HV2 := hid (HV2.out.ext hx)
  replace B7 := hid (B7.out.ext hx)
  replace B8 := hid (B8.out.ext hx)
  replace EX := hid (EX.out.step hx)
  clear hx f0 f1 f2 t0 t1 t2
  obtain ⟨f0, f1, f2, -, -, -⟩ := row_facts3 RM.out
  go_wp2_with fail
  refine (refvalid_any _ m us ad w6 HV.out hb1).mono ?_
  rintro e w7 ⟨rfl, hx⟩
  replace HV := hid (HV.out.ext hx)
  replace RM := hid (RM.out.ext hx)
  replace HT := hid (HT.out.ext hx)
  replace HV2 := hid (HV2.out.ext hx)
  replace B7 := hid (B7.out.ext hx)
  replace B8 := hid (B8.out.ext hx)
  replace EX := hid (EX.out.step hx)
  clear hx f0 f1 f2
  obtain ⟨⟨y0, y1, y2, y3, y4, y5⟩, -⟩ := row_facts6 B8.out
  go_wp2_with fail
  refine (awake4_any w7 HT.out).mono ?_
  rintro e wL ⟨rfl, hx⟩
  have EL := hid (EX.out.step hx)
  go_wp2
  go_ret
  exact ⟨rfl, EL.out⟩
set_option maxRecDepth 100000 in
set_option maxHeartbeats 6400000 in
theorem finds_num (v : Value) (m : Int) (us ad : List Int) (l : List UInt8) (k : Int) (w : World) (hv : MapV w v m us ad) (h8 : Fit8 v) (hlen : l.length ≤ 140737488351232) (hk : -9223372036854775808 ≤ k) (hk2 : k ≤ 9223372036854775807) (ht : Tab w) (HB : Hid (mapB m us ad = true) ∧ Hid (K.validL l = false)) :
    Calls Tryz.prog 4 #[v, .string (Str l), .int .i64 k] w (TruePost w) := by
  have hb1 : Hid (mapB m us ad = true) := HB.1
  have hb2 : Hid (K.validL l = false) := HB.2
  have H8 := hid h8
  have HV := hid hv
  have HT := hid ht
  obtain ⟨A, n, cc, B, n2, d2, rfl, -⟩ := hv
  have hx : Ext w (w.alloc (.cells #[.int .i64 m, .slice A n cc, .slice B n2 d2] 24)) := (Ext.rfl' w).alloc' _
  have hr1 : Row (w.alloc (.cells #[.int .i64 m, .slice A n cc, .slice B n2 d2] 24)) w.heap.size 24 [.int .i64 m, .slice A n cc, .slice B n2 d2] := Row.new w _ _
  obtain ⟨w1, hw1⟩ : ∃ w1, w.alloc (.cells #[.int .i64 m, .slice A n cc, .slice B n2 d2] 24) = w1 := ⟨_, rfl⟩
  rw [hw1] at hx hr1
  have HW1 := hid hw1
  have EX := hid hx
  have RM := hid hr1
  replace HV := hid (HV.out.ext hx)
  replace HT := hid (HT.out.ext hx)
  clear hw1 hx hr1
  go_enter Tryz.func4, Tryz.ntmps4
  go_upto_region 1 with fail
  rw [HW1.out]
  obtain ⟨f0, f1, f2, -, -, -⟩ := row_facts3 RM.out
  go_wp2_with fail
  refine (twin_any _ m us ad w1 HV.out H8.out).mono ?_
  rintro e w2 ⟨v2, rfl, hv2, hx⟩
  replace HV := hid (HV.out.ext hx)
  replace RM := hid (RM.out.ext hx)
  replace HT := hid (HT.out.ext hx)
  replace EX := hid (EX.out.step hx)
  clear hx f0 f1 f2
  have HV2 := hid hv2
  obtain ⟨A2, l2, e2, B2, p2, g2, rfl, -⟩ := hv2
  have ha := (Ext.rfl' w2).alloc' (.cells #[.int .i64 m, .slice A2 l2 e2, .slice B2 p2 g2] 24)
  have hq : Row (w2.alloc (.cells #[.int .i64 m, .slice A2 l2 e2, .slice B2 p2 g2] 24)) w2.heap.size 24 [.int .i64 m, .slice A2 l2 e2, .slice B2 p2 g2] := Row.new w2 _ _
  obtain ⟨w3, hw3⟩ : ∃ w3, w2.alloc (.cells #[.int .i64 m, .slice A2 l2 e2, .slice B2 p2 g2] 24) = w3 := ⟨_, rfl⟩
  rw [hw3] at ha hq
  have Ew3 := hid hw3
  have B7 := hid hq
  replace HV := hid (HV.out.ext ha)
  replace RM := hid (RM.out.ext ha)
  replace HT := hid (HT.out.ext ha)
  replace HV2 := hid (HV2.out.ext ha)
  replace EX := hid (EX.out.step ha)
  have ha7 := ha
  clear ha hq hw3
  go_upto_region 2 with fail
  rw [Ew3.out]
  clear Ew3
  obtain ⟨H7, hH7⟩ : ∃ H7, w2.heap.size = H7 := ⟨_, rfl⟩
  rw [hH7] at B7
  rw [hH7]
  have HH7 := hid hH7
  have HA7 := hid ha7
  clear hH7 ha7
  obtain ⟨f0, f1, f2, -, -, -⟩ := row_facts3 RM.out
  go_wp2_with fail
  refine (find_bad _ m us ad l k w3 HV.out hlen hb1 hb2 hk hk2 (hid (by simp)) (c := 1) (hid (by simp))).mono ?_
  rintro e w4 ⟨rfl, hx⟩
  replace HV := hid (HV.out.ext hx)
  replace RM := hid (RM.out.ext hx)
  replace HT := hid (HT.out.ext hx)
  replace HV2 := hid (HV2.out.ext hx)
  replace B7 := hid (B7.out.ext hx)
  replace EX := hid (EX.out.step hx)
  clear hx f0 f1 f2
  have ha := (Ext.rfl' w4).alloc' (.cells #[.int .i64 0, .int .i64 0, .string ⟨#[]⟩, .string ⟨#[]⟩, .string ⟨#[]⟩, .string ⟨#[]⟩] 40)
  have hq : Row (w4.alloc (.cells #[.int .i64 0, .int .i64 0, .string ⟨#[]⟩, .string ⟨#[]⟩, .string ⟨#[]⟩, .string ⟨#[]⟩] 40)) w4.heap.size 40 [.int .i64 0, .int .i64 0, .string ⟨#[]⟩, .string ⟨#[]⟩, .string ⟨#[]⟩, .string ⟨#[]⟩] := Row.new w4 _ _
  obtain ⟨w5, hw5⟩ : ∃ w5, w4.alloc (.cells #[.int .i64 0, .int .i64 0, .string ⟨#[]⟩, .string ⟨#[]⟩, .string ⟨#[]⟩, .string ⟨#[]⟩] 40) = w5 := ⟨_, rfl⟩
  rw [hw5] at ha hq
  have Ew5 := hid hw5
  have B8 := hid hq
  replace HV := hid (HV.out.ext ha)
  replace RM := hid (RM.out.ext ha)
  replace HT := hid (HT.out.ext ha)
  replace HV2 := hid (HV2.out.ext ha)
  replace B7 := hid (B7.out.ext ha)
  replace EX := hid (EX.out.step ha)
  have ha8 := ha
  clear ha hq hw5
  go_upto_region 3 with fail
  rw [Ew5.out]
  clear Ew5
  obtain ⟨H8, hH8⟩ : ∃ H8, w4.heap.size = H8 := ⟨_, rfl⟩
  rw [hH8] at B8
  rw [hH8]
  have HH8 := hid hH8
  have HA8 := hid ha8
  clear hH8 ha8
  obtain ⟨f0, f1, f2, -, -, -⟩ := row_facts3 RM.out
  obtain ⟨t0, t1, t2, -, -, -⟩ := row_facts3 B7.out
  go_wp2_with fail
  refine (rsame_eq _ _ m us ad w5 HV.out HV2.out).mono ?_
  rintro e w6 ⟨rfl, hx⟩
  replace HV := hid (HV.out.ext hx)
  replace RM := hid (RM.out.ext hx)
  replace HT := hid (HT.out.ext hx)
  replace HV2 := hid (HV2.out.ext hx)
  replace B7 := hid (B7.out.ext hx)
  replace B8 := hid (B8.out.ext hx)
  replace EX := hid (EX.out.step hx)
  clear hx f0 f1 f2 t0 t1 t2
  obtain ⟨f0, f1, f2, -, -, -⟩ := row_facts3 RM.out
  go_wp2_with fail
  refine (refvalid_any _ m us ad w6 HV.out hb1).mono ?_
  rintro e w7 ⟨rfl, hx⟩
  replace HV := hid (HV.out.ext hx)
  replace RM := hid (RM.out.ext hx)
  replace HT := hid (HT.out.ext hx)
  replace HV2 := hid (HV2.out.ext hx)
  replace B7 := hid (B7.out.ext hx)
  replace B8 := hid (B8.out.ext hx)
  replace EX := hid (EX.out.step hx)
  clear hx f0 f1 f2
  go_wp2_with fail
  refine (rvalid_at l w7 hb2 hlen).mono ?_
  rintro e wz ⟨rfl, rfl⟩
  obtain ⟨⟨y0, y1, y2, y3, y4, y5⟩, -⟩ := row_facts6 B8.out
  go_wp2_with fail
  refine (awake4_any w7 HT.out).mono ?_
  rintro e wL ⟨rfl, hx⟩
  have EL := hid (EX.out.step hx)
  go_wp2
  go_ret
  exact ⟨rfl, EL.out⟩
set_option maxRecDepth 100000 in
set_option maxHeartbeats 6400000 in
theorem finds_no (v : Value) (m : Int) (us ad : List Int) (l : List UInt8) (k : Int) (w : World) (hv : MapV w v m us ad) (h8 : Fit8 v) (hlen : l.length ≤ 140737488351232) (hk : -9223372036854775808 ≤ k) (hk2 : k ≤ 9223372036854775807) (ht : Tab w) (HB : Hid (mapB m us ad = true) ∧ Hid (K.validL l = true)) (HNS : Hid (¬ SuitP m us k)) :
    Calls Tryz.prog 4 #[v, .string (Str l), .int .i64 k] w (TruePost w) := by
  have hb1 : Hid (mapB m us ad = true) := HB.1
  have hb2 : Hid (K.validL l = true) := HB.2
  have H8 := hid h8
  have HV := hid hv
  have HT := hid ht
  obtain ⟨A, n, cc, B, n2, d2, rfl, -⟩ := hv
  have hx : Ext w (w.alloc (.cells #[.int .i64 m, .slice A n cc, .slice B n2 d2] 24)) := (Ext.rfl' w).alloc' _
  have hr1 : Row (w.alloc (.cells #[.int .i64 m, .slice A n cc, .slice B n2 d2] 24)) w.heap.size 24 [.int .i64 m, .slice A n cc, .slice B n2 d2] := Row.new w _ _
  obtain ⟨w1, hw1⟩ : ∃ w1, w.alloc (.cells #[.int .i64 m, .slice A n cc, .slice B n2 d2] 24) = w1 := ⟨_, rfl⟩
  rw [hw1] at hx hr1
  have HW1 := hid hw1
  have EX := hid hx
  have RM := hid hr1
  replace HV := hid (HV.out.ext hx)
  replace HT := hid (HT.out.ext hx)
  clear hw1 hx hr1
  go_enter Tryz.func4, Tryz.ntmps4
  go_upto_region 1 with fail
  rw [HW1.out]
  obtain ⟨f0, f1, f2, -, -, -⟩ := row_facts3 RM.out
  go_wp2_with fail
  refine (twin_any _ m us ad w1 HV.out H8.out).mono ?_
  rintro e w2 ⟨v2, rfl, hv2, hx⟩
  replace HV := hid (HV.out.ext hx)
  replace RM := hid (RM.out.ext hx)
  replace HT := hid (HT.out.ext hx)
  replace EX := hid (EX.out.step hx)
  clear hx f0 f1 f2
  have HV2 := hid hv2
  obtain ⟨A2, l2, e2, B2, p2, g2, rfl, -⟩ := hv2
  have ha := (Ext.rfl' w2).alloc' (.cells #[.int .i64 m, .slice A2 l2 e2, .slice B2 p2 g2] 24)
  have hq : Row (w2.alloc (.cells #[.int .i64 m, .slice A2 l2 e2, .slice B2 p2 g2] 24)) w2.heap.size 24 [.int .i64 m, .slice A2 l2 e2, .slice B2 p2 g2] := Row.new w2 _ _
  obtain ⟨w3, hw3⟩ : ∃ w3, w2.alloc (.cells #[.int .i64 m, .slice A2 l2 e2, .slice B2 p2 g2] 24) = w3 := ⟨_, rfl⟩
  rw [hw3] at ha hq
  have Ew3 := hid hw3
  have B7 := hid hq
  replace HV := hid (HV.out.ext ha)
  replace RM := hid (RM.out.ext ha)
  replace HT := hid (HT.out.ext ha)
  replace HV2 := hid (HV2.out.ext ha)
  replace EX := hid (EX.out.step ha)
  have ha7 := ha
  clear ha hq hw3
  go_upto_region 2 with fail
  rw [Ew3.out]
  clear Ew3
  obtain ⟨H7, hH7⟩ : ∃ H7, w2.heap.size = H7 := ⟨_, rfl⟩
  rw [hH7] at B7
  rw [hH7]
  have HH7 := hid hH7
  have HA7 := hid ha7
  clear hH7 ha7
  obtain ⟨f0, f1, f2, -, -, -⟩ := row_facts3 RM.out
  go_wp2_with fail
  refine (find_bad _ m us ad l k w3 HV.out hlen hb1 hb2 hk hk2 (hid (by exact fun h => HNS.out h.2.2)) (c := 2) (hid (by simp))).mono ?_
  rintro e w4 ⟨rfl, hx⟩
  replace HV := hid (HV.out.ext hx)
  replace RM := hid (RM.out.ext hx)
  replace HT := hid (HT.out.ext hx)
  replace HV2 := hid (HV2.out.ext hx)
  replace B7 := hid (B7.out.ext hx)
  replace EX := hid (EX.out.step hx)
  clear hx f0 f1 f2
  have ha := (Ext.rfl' w4).alloc' (.cells #[.int .i64 0, .int .i64 0, .string ⟨#[]⟩, .string ⟨#[]⟩, .string ⟨#[]⟩, .string ⟨#[]⟩] 40)
  have hq : Row (w4.alloc (.cells #[.int .i64 0, .int .i64 0, .string ⟨#[]⟩, .string ⟨#[]⟩, .string ⟨#[]⟩, .string ⟨#[]⟩] 40)) w4.heap.size 40 [.int .i64 0, .int .i64 0, .string ⟨#[]⟩, .string ⟨#[]⟩, .string ⟨#[]⟩, .string ⟨#[]⟩] := Row.new w4 _ _
  obtain ⟨w5, hw5⟩ : ∃ w5, w4.alloc (.cells #[.int .i64 0, .int .i64 0, .string ⟨#[]⟩, .string ⟨#[]⟩, .string ⟨#[]⟩, .string ⟨#[]⟩] 40) = w5 := ⟨_, rfl⟩
  rw [hw5] at ha hq
  have Ew5 := hid hw5
  have B8 := hid hq
  replace HV := hid (HV.out.ext ha)
  replace RM := hid (RM.out.ext ha)
  replace HT := hid (HT.out.ext ha)
  replace HV2 := hid (HV2.out.ext ha)
  replace B7 := hid (B7.out.ext ha)
  replace EX := hid (EX.out.step ha)
  have ha8 := ha
  clear ha hq hw5
  go_upto_region 3 with fail
  rw [Ew5.out]
  clear Ew5
  obtain ⟨H8, hH8⟩ : ∃ H8, w4.heap.size = H8 := ⟨_, rfl⟩
  rw [hH8] at B8
  rw [hH8]
  have HH8 := hid hH8
  have HA8 := hid ha8
  clear hH8 ha8
  obtain ⟨f0, f1, f2, -, -, -⟩ := row_facts3 RM.out
  obtain ⟨t0, t1, t2, -, -, -⟩ := row_facts3 B7.out
  go_wp2_with fail
  refine (rsame_eq _ _ m us ad w5 HV.out HV2.out).mono ?_
  rintro e w6 ⟨rfl, hx⟩
  replace HV := hid (HV.out.ext hx)
  replace RM := hid (RM.out.ext hx)
  replace HT := hid (HT.out.ext hx)
  replace HV2 := hid (HV2.out.ext hx)
  replace B7 := hid (B7.out.ext hx)
  replace B8 := hid (B8.out.ext hx)
  replace EX := hid (EX.out.step hx)
  clear hx f0 f1 f2 t0 t1 t2
  obtain ⟨f0, f1, f2, -, -, -⟩ := row_facts3 RM.out
  go_wp2_with fail
  refine (refvalid_any _ m us ad w6 HV.out hb1).mono ?_
  rintro e w7 ⟨rfl, hx⟩
  replace HV := hid (HV.out.ext hx)
  replace RM := hid (RM.out.ext hx)
  replace HT := hid (HT.out.ext hx)
  replace HV2 := hid (HV2.out.ext hx)
  replace B7 := hid (B7.out.ext hx)
  replace B8 := hid (B8.out.ext hx)
  replace EX := hid (EX.out.step hx)
  clear hx f0 f1 f2
  go_wp2_with fail
  refine (rvalid_at l w7 hb2 hlen).mono ?_
  rintro e wz ⟨rfl, rfl⟩
  obtain ⟨f0, f1, f2, -, -, -⟩ := row_facts3 RM.out
  go_wp2_with fail
  refine (may_any _ m us ad k w7 HV.out hk hk2 (b := false) (hid ⟨fun h => Bool.noConfusion h, fun h => absurd h.2 HNS.out⟩)).mono ?_
  rintro e w8 ⟨rfl, hx⟩
  replace HV := hid (HV.out.ext hx)
  replace RM := hid (RM.out.ext hx)
  replace HT := hid (HT.out.ext hx)
  replace HV2 := hid (HV2.out.ext hx)
  replace B7 := hid (B7.out.ext hx)
  replace B8 := hid (B8.out.ext hx)
  replace EX := hid (EX.out.step hx)
  clear hx f0 f1 f2
  obtain ⟨⟨y0, y1, y2, y3, y4, y5⟩, -⟩ := row_facts6 B8.out
  go_wp2_with fail
  refine (awake4_any w8 HT.out).mono ?_
  rintro e wL ⟨rfl, hx⟩
  have EL := hid (EX.out.step hx)
  go_wp2
  go_ret
  exact ⟨rfl, EL.out⟩
set_option maxRecDepth 100000 in
set_option maxHeartbeats 12800000 in
theorem finds_yes (v : Value) (m : Int) (us ad : List Int) (l : List UInt8) (q : Nat) (w : World) (hv : MapV w v m us ad) (h8 : Fit8 v) (hlen : l.length ≤ 140737488351232) (hqq : (q : Int) ≤ 9223372036854775807) (ht : Tab w) (hM : Hid (mapP m us ad)) (hS : Hid (SuitP m us (q : Int))) (hb2 : Hid (K.validL l = true)) :
    Calls Tryz.prog 4 #[v, .string (Str l), .int .i64 (q : Int)] w (TruePost w) := by
  have hb1 : Hid (mapB m us ad = true) := hid ((mapB_iff m us ad).2 hM.out)
  obtain ⟨X, hX⟩ : ∃ X, K.numL l = X := ⟨_, rfl⟩
  have HX := hid hX
  have HXB : Hid (X.natAbs ≤ BIG) := hid (by rw [← hX]; exact fits_big (K.txt_numL l hb2.out).2)
  clear hX
  have H8 := hid h8
  have HV := hid hv
  have HT := hid ht
  obtain ⟨A, n, cc, B, n2, d2, rfl, -⟩ := hv
  have hx : Ext w (w.alloc (.cells #[.int .i64 m, .slice A n cc, .slice B n2 d2] 24)) := (Ext.rfl' w).alloc' _
  have hr1 : Row (w.alloc (.cells #[.int .i64 m, .slice A n cc, .slice B n2 d2] 24)) w.heap.size 24 [.int .i64 m, .slice A n cc, .slice B n2 d2] := Row.new w _ _
  obtain ⟨w1, hw1⟩ : ∃ w1, w.alloc (.cells #[.int .i64 m, .slice A n cc, .slice B n2 d2] 24) = w1 := ⟨_, rfl⟩
  rw [hw1] at hx hr1
  have HW1 := hid hw1
  have EX := hid hx
  have RM := hid hr1
  replace HV := hid (HV.out.ext hx)
  replace HT := hid (HT.out.ext hx)
  clear hw1 hx hr1
  go_enter Tryz.func4, Tryz.ntmps4
  go_upto_region 1 with fail
  rw [HW1.out]
  obtain ⟨f0, f1, f2, -, -, -⟩ := row_facts3 RM.out
  go_wp2_with fail
  refine (twin_any _ m us ad w1 HV.out H8.out).mono ?_
  rintro e w2 ⟨v2, rfl, hv2, hx⟩
  replace HV := hid (HV.out.ext hx)
  replace RM := hid (RM.out.ext hx)
  replace HT := hid (HT.out.ext hx)
  replace EX := hid (EX.out.step hx)
  clear hx f0 f1 f2
  have HV2 := hid hv2
  obtain ⟨A2, l2, e2, B2, p2, g2, rfl, -⟩ := hv2
  have ha := (Ext.rfl' w2).alloc' (.cells #[.int .i64 m, .slice A2 l2 e2, .slice B2 p2 g2] 24)
  have hq : Row (w2.alloc (.cells #[.int .i64 m, .slice A2 l2 e2, .slice B2 p2 g2] 24)) w2.heap.size 24 [.int .i64 m, .slice A2 l2 e2, .slice B2 p2 g2] := Row.new w2 _ _
  obtain ⟨w3, hw3⟩ : ∃ w3, w2.alloc (.cells #[.int .i64 m, .slice A2 l2 e2, .slice B2 p2 g2] 24) = w3 := ⟨_, rfl⟩
  rw [hw3] at ha hq
  have Ew3 := hid hw3
  have B7 := hid hq
  replace HV := hid (HV.out.ext ha)
  replace RM := hid (RM.out.ext ha)
  replace HT := hid (HT.out.ext ha)
  replace HV2 := hid (HV2.out.ext ha)
  replace EX := hid (EX.out.step ha)
  have ha7 := ha
  clear ha hq hw3
  go_upto_region 2 with fail
  rw [Ew3.out]
  clear Ew3
  obtain ⟨H7, hH7⟩ : ∃ H7, w2.heap.size = H7 := ⟨_, rfl⟩
  rw [hH7] at B7
  rw [hH7]
  have HH7 := hid hH7
  have HA7 := hid ha7
  clear hH7 ha7
  obtain ⟨f0, f1, f2, -, -, -⟩ := row_facts3 RM.out
  go_wp2_with fail
  refine (find_ok _ m us ad l X q w3 HV.out hM hlen hb2 HX hS hqq HT.out).mono ?_
  rintro e w4 ⟨fv, b, rfl, hfc, hx⟩
  replace HV := hid (HV.out.ext hx)
  replace RM := hid (RM.out.ext hx)
  replace HT := hid (HT.out.ext hx)
  replace HV2 := hid (HV2.out.ext hx)
  replace B7 := hid (B7.out.ext hx)
  replace EX := hid (EX.out.step hx)
  clear hx f0 f1 f2
  have HFC := hid hfc
  obtain ⟨fs, fr, su, sa, sd, sb, rfl⟩ := findC_form hfc
  unfold FaV at *
  clear hfc
  have ha := (Ext.rfl' w4).alloc' (.cells #[.int .i64 fs, .int .i64 fr, .string su, .string sa, .string sd, .string sb] 40)
  have hq : Row (w4.alloc (.cells #[.int .i64 fs, .int .i64 fr, .string su, .string sa, .string sd, .string sb] 40)) w4.heap.size 40 [.int .i64 fs, .int .i64 fr, .string su, .string sa, .string sd, .string sb] := Row.new w4 _ _
  obtain ⟨w5, hw5⟩ : ∃ w5, w4.alloc (.cells #[.int .i64 fs, .int .i64 fr, .string su, .string sa, .string sd, .string sb] 40) = w5 := ⟨_, rfl⟩
  rw [hw5] at ha hq
  have Ew5 := hid hw5
  have B8 := hid hq
  replace HV := hid (HV.out.ext ha)
  replace RM := hid (RM.out.ext ha)
  replace HT := hid (HT.out.ext ha)
  replace HV2 := hid (HV2.out.ext ha)
  replace B7 := hid (B7.out.ext ha)
  replace EX := hid (EX.out.step ha)
  have ha8 := ha
  clear ha hq hw5
  go_upto_region 3 with fail
  rw [Ew5.out]
  clear Ew5
  obtain ⟨H8, hH8⟩ : ∃ H8, w4.heap.size = H8 := ⟨_, rfl⟩
  rw [hH8] at B8
  rw [hH8]
  have HH8 := hid hH8
  have HA8 := hid ha8
  clear hH8 ha8
  obtain ⟨f0, f1, f2, -, -, -⟩ := row_facts3 RM.out
  obtain ⟨t0, t1, t2, -, -, -⟩ := row_facts3 B7.out
  go_wp2_with fail
  refine (rsame_eq _ _ m us ad w5 HV.out HV2.out).mono ?_
  rintro e w6 ⟨rfl, hx⟩
  replace HV := hid (HV.out.ext hx)
  replace RM := hid (RM.out.ext hx)
  replace HT := hid (HT.out.ext hx)
  replace HV2 := hid (HV2.out.ext hx)
  replace B7 := hid (B7.out.ext hx)
  replace B8 := hid (B8.out.ext hx)
  replace EX := hid (EX.out.step hx)
  clear hx f0 f1 f2 t0 t1 t2
  obtain ⟨f0, f1, f2, -, -, -⟩ := row_facts3 RM.out
  go_wp2_with fail
  refine (refvalid_any _ m us ad w6 HV.out hb1).mono ?_
  rintro e w7 ⟨rfl, hx⟩
  replace HV := hid (HV.out.ext hx)
  replace RM := hid (RM.out.ext hx)
  replace HT := hid (HT.out.ext hx)
  replace HV2 := hid (HV2.out.ext hx)
  replace B7 := hid (B7.out.ext hx)
  replace B8 := hid (B8.out.ext hx)
  replace EX := hid (EX.out.step hx)
  clear hx f0 f1 f2
  go_wp2_with fail
  refine (rvalid_at l w7 hb2 hlen).mono ?_
  rintro e wz ⟨rfl, rfl⟩
  obtain ⟨f0, f1, f2, -, -, -⟩ := row_facts3 RM.out
  go_wp2_with fail
  refine (may_any _ m us ad (q : Int) w7 HV.out (by omega) hqq (b := true) (hid ⟨fun _ => ⟨hM.out, hS.out⟩, fun _ => rfl⟩)).mono ?_
  rintro e w8 ⟨rfl, hx⟩
  replace HV := hid (HV.out.ext hx)
  replace RM := hid (RM.out.ext hx)
  replace HT := hid (HT.out.ext hx)
  replace HV2 := hid (HV2.out.ext hx)
  replace B7 := hid (B7.out.ext hx)
  replace B8 := hid (B8.out.ext hx)
  replace EX := hid (EX.out.step hx)
  clear hx f0 f1 f2
  have HS : Hid (∀ W', Ext w8 W' → W'.cell? ⟨w.heap.size, 0, none⟩ = some (.int .i64 m) ∧ W'.cell? ⟨w.heap.size, 1, none⟩ = some (.slice A n cc) ∧ W'.cell? ⟨w.heap.size, 2, none⟩ = some (.slice B n2 d2)) := hid (by
    intro W' e
    obtain ⟨x0, y0, z0, -, -, -⟩ := row_facts3 (RM.out.ext e)
    exact ⟨x0, y0, z0⟩)
  have hcur : Ext w8 w8 := Ext.rfl' _
  go_upto_region 9 with fail
  go_cut [11, 12] (fun s1 s2 wx => ∃ (g : Nat), s1 = .pointer (some ⟨g, 0, none⟩) ∧ s2 = .bool b ∧ Row wx g 40 [.int .i64 fs, .int .i64 fr, .string su, .string sa, .string sd, .string sb] ∧ Ext w8 wx)
  case first =>
    go_region_held3 (fun W' => W'.cell? ⟨w.heap.size, 0, none⟩ = some (.int .i64 m) ∧ W'.cell? ⟨w.heap.size, 1, none⟩ = some (.slice A n cc) ∧ W'.cell? ⟨w.heap.size, 2, none⟩ = some (.slice B n2 d2))
      (first | (with_reducible exact HS.out _ hcur) | (with_reducible exact HS.out _ hcur.drew') | (with_reducible exact HS.out _ (hcur.alloc' _)) | (with_reducible exact HS.out _ (hcur.drew'.alloc' _)) | (with_reducible exact HS.out _ (hcur.alloc' _).drew') | exact HS.out _ (hcur.set6 HB2.out.1) | go_keep)
      (first
        | (go_at_call 25; refine (parse_any l _ hb2.out).mono ?_; rintro e w20 ⟨v20, rfl, hv20, hx⟩; rw [HX.out] at hv20; (first | have HB2 := hid (HB2.out.ext hx) | have HB2 := hid ((NF.new hcur.size).ext hx) | have HB2 := hid ((NF.newD hcur.size).ext hx) | skip); have hcur := Ext.step hcur (by first | exact hx | exact Ext.undrew hx | exact Ext.step ((Ext.rfl' _).alloc' _) hx | exact Ext.step ((Ext.rfl' _).drew'.alloc' _) hx); have HV20 := hid hv20; obtain ⟨A20, k20, c20, xs20, b20, rfl, -⟩ := hv20; (first | (have hyy := row_facts6 HB2.out.2; obtain ⟨⟨y0, y1, y2, y3, y4, y5⟩, z0, z1, z2, z3, z4, z5⟩ := hyy) | skip))
        | (go_at_call 24; refine (rfind_s _ _ m us ad X q _ _ _ (HV.out.ext ?_) hM (HV20.out.ext ?_) HXB.out hS hqq HFC).mono ?_; (first | exact hcur | exact hcur.drew' | exact hcur.alloc' _ | exact hcur.drew'.alloc' _ | exact (hcur.alloc' _).drew'); (first | exact Ext.rfl' _ | exact (Ext.rfl' _).drew' | exact (Ext.rfl' _).alloc' _ | exact (Ext.rfl' _).drew'.alloc' _); rintro e w21 ⟨rfl, hx⟩; (first | have HB2 := hid (HB2.out.ext hx) | have HB2 := hid ((NF.new hcur.size).ext hx) | have HB2 := hid ((NF.newD hcur.size).ext hx) | skip); have hcur := Ext.step hcur (by first | exact hx | exact Ext.undrew hx | exact Ext.step ((Ext.rfl' _).alloc' _) hx | exact Ext.step ((Ext.rfl' _).drew'.alloc' _) hx); (first | (have hyy := row_facts6 HB2.out.2; obtain ⟨⟨y0, y1, y2, y3, y4, y5⟩, z0, z1, z2, z3, z4, z5⟩ := hyy) | skip)))
    all_goals
      go_wp2_with fail
      go_meet
      first
        | (with_reducible exact ⟨_, rfl, rfl, Row.new _ _ [.int .i64 fs, .int .i64 fr, .string su, .string sa, .string sd, .string sb], hcur.alloc' _⟩)
        | (with_reducible exact ⟨_, rfl, rfl, Row.put6 HB2.out.2, hcur.set6 HB2.out.1⟩)
        | (refine ⟨_, rfl, rfl, ?_, ?_⟩; (first | (with_reducible exact Row.put6 HB2.out.2) | exact Row.put6 HB2.out.2); (first | (with_reducible exact hcur.set6 HB2.out.1) | exact hcur.set6 HB2.out.1))
  case rest =>
    obtain ⟨g, rfl, rfl, hrow, hx⟩ := hcut
    have B11 := hid hrow
    replace HV := hid (HV.out.ext hx)
    replace RM := hid (RM.out.ext hx)
    replace HT := hid (HT.out.ext hx)
    replace HV2 := hid (HV2.out.ext hx)
    replace B7 := hid (B7.out.ext hx)
    replace B8 := hid (B8.out.ext hx)
    replace EX := hid (EX.out.step hx)
    clear hx hrow hcur HS
    obtain ⟨⟨y0, y1, y2, y3, y4, y5⟩, -⟩ := row_facts6 B8.out
    obtain ⟨⟨t0, t1, t2, t3, t4, t5⟩, -⟩ := row_facts6 B11.out
    go_wp2_with fail
    refine (awake4_any wc HT.out).mono ?_
    rintro e wL ⟨rfl, hx⟩
    have EL := hid (EX.out.step hx)
    go_wp2
    go_ret
    exact ⟨rfl, EL.out⟩
theorem law_SieveFinds (v : Value) (m : Int) (us ad : List Int) (l : List UInt8) (k : Int) (w : World) (hv : MapV w v m us ad) (h8 : Fit8 v) (hlen : l.length ≤ 140737488351232) (hk : -9223372036854775808 ≤ k) (hk2 : k ≤ 9223372036854775807) (ht : Tab w) : Calls Tryz.prog 4 #[v, .string (Str l), .int .i64 k] w (TruePost w) := by
  cases h1 : mapB m us ad with
  | false => exact finds_form v m us ad l k w hv h8 hlen hk hk2 ht _ ⟨hid h1, hid rfl⟩
  | true =>
    cases h2 : K.validL l with
    | false => exact finds_num v m us ad l k w hv h8 hlen hk hk2 ht ⟨hid h1, hid h2⟩
    | true =>
      have hM := (mapB_iff m us ad).1 h1
      by_cases h3 : SuitP m us k
      · obtain ⟨q, rfl⟩ := Int.eq_ofNat_of_zero_le (show 0 ≤ k by have := h3.2.1; omega)
        exact finds_yes v m us ad l q w hv h8 hlen hk2 ht (hid hM) (hid h3) (hid h2)
      · exact finds_no v m us ad l k w hv h8 hlen hk hk2 ht ⟨hid h1, hid h2⟩ (hid h3)
end Go.Proofs.YtleccblkafcidaaGreatDoor
