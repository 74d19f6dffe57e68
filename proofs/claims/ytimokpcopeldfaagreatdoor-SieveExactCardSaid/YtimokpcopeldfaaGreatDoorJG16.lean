/- Joined texts: word.rests, word.Word; word.class: everyNumber, first, narrowed; word.class.narrowed; word.Rest. -/
import Derived.Test.YtimokpcopeldfaaGreatDoorJG15
import Derived.Test.YtimokpcopeldfaaGreatDoorJG10
import Derived.Test.YtimokpcopeldfaaGreatDoorJG11
import Derived.Test.YtimokpcopeldfaaGreatDoorJG14
set_option linter.unusedSimpArgs false
set_option linter.unusedVariables false
/- word.rests, word.Word -/
namespace Go.Proofs.YtimokpcopeldfaaGreatDoor
open Go.RowKit
/-- the word of a number -/
def wordI (m : Int) (us ad : List Int) (k : Nat) (x : Int) : List Int := (List.range k).map fun i => orbN m us ad i x % m
/-- what is written after j rounds -/
def partL (f : Nat → Int) (k j : Nat) : List Int := (List.range k).map fun i => if i < j then f i else 0
theorem partL_len (f : Nat → Int) (k j : Nat) : (partL f k j).length = k := by simp [partL]
theorem partL_zero (f : Nat → Int) (k : Nat) : Is (partL f k 0) = List.replicate k (.int .i64 0) := by
  apply List.ext_getElem
  · simp [partL]
  · intro i h1 h2
    simp [partL]
theorem partL_full (f : Nat → Int) (k : Nat) : partL f k k = (List.range k).map f := by
  unfold partL
  apply List.map_congr_left
  intro i hi
  rw [if_pos (List.mem_range.1 hi)]
theorem partL_set (f : Nat → Int) (k j : Nat) (hj : j < k) : (Is (partL f k j)).set j (.int .i64 (f j)) = Is (partL f k (j + 1)) := by
  apply List.ext_getElem
  · simp [partL]
  · intro i h1 h2
    rw [List.getElem_set]
    by_cases e : j = i
    · subst e; simp [partL]
    · rw [if_neg e]
      simp only [partL, List.map_map, List.getElem_map, List.getElem_range, Function.comp_apply]
      by_cases h3 : i < j
      · rw [if_pos h3, if_pos (by omega)]
      · rw [if_neg h3, if_neg (by omega)]
set_option maxRecDepth 100000 in
set_option maxHeartbeats 3200000 in
theorem rests_ok (b0 o0 k c : Nat) (m : Int) (L : List (Option Int)) (z : Nat → Int) (w : World) (hr : Rd w (some ⟨b0, o0, none⟩) (Txs L)) (hL : Hid (∀ j, j < k → L[j]? = some (some (z j)) ∧ K.fits (z j))) (hk : k ≤ 201) (hkc : k ≤ c) (hm : 1 ≤ m) (hm2 : m ≤ 2147483647) :
    Calls Tryz.prog 85 #[.slice (some ⟨b0, o0, none⟩) k c, .int .i64 m] w (fun e w' => ∃ g, e = .returned (.tuple #[.slice (some ⟨g, 0, none⟩) k k, .int .i64 0]) ∧ Row w' g 3 (Is ((List.range k).map fun i => z i % m)) ∧ w.heap.size ≤ g ∧ Ext w w') := by
  obtain ⟨dm, rfl⟩ : ∃ dm : Nat, m = (dm : Int) := ⟨m.toNat, by omega⟩
  have hmade := Row.made w 3 (.int .i64 0) k
  have hxm : Ext w (w.alloc (.cells (madeCells #[.int .i64 0] k) 3)) := (Ext.rfl' w).alloc' _
  obtain ⟨W1, hW1⟩ : ∃ W1, (w.alloc (.cells (madeCells #[.int .i64 0] k) 3)) = W1 := ⟨_, rfl⟩
  rw [hW1] at hmade hxm
  rw [← partL_zero (fun i => z i % (dm : Int)) k] at hmade
  have HW1 := hid hW1
  have HM := hid hmade
  have HXM := hid hxm
  have HRD := hid hr
  have hk63 : k ≤ 9223372036854775807 := by omega
  have hmk := fun w => mkInts k (k : Int) rfl (by omega) w
  have hkb : (k : Int) * 8 ≤ 281474976710656 := by omega
  have hk0 : (0 : Int) ≤ (k : Int) := by omega
  clear hW1 hmade hxm hr
  go_enter Tryz.func85, Tryz.ntmps85
  go_upto_region 2 with fail
  rw [HW1.out]
  clear hmk
  go_wp2_with fail
  go_loopw [16] (fun iz wr => ∃ j : Nat, j ≤ k ∧ iz = .int .i64 (j : Int) ∧ Row wr w.heap.size 3 (Is (partL (fun i => z i % (dm : Int)) k j)) ∧ Ext w wr) (fun iz _ => k - (intOf iz).toNat)
  case atStart => exact ⟨0, by omega, rfl, HM.out, HXM.out⟩
  case round =>
    obtain ⟨j, hj, rfl, hrow, hex⟩ := hrel
    have HROW := hid hrow
    have HEX := hid hex
    clear hrow hex
    by_cases hlt : j < k
    · obtain ⟨hz1, hz2⟩ := hL.out j hlt
      obtain ⟨t, ht⟩ : ∃ t, K.txt (z j) = t := ⟨_, rfl⟩
      have hvt : K.validL t = true := by rw [← ht]; exact K.valid_txt _ hz2
      have hnt : K.numL t = z j := by rw [← ht]; exact K.numL_txt _
      have hst : strO (some (z j)) = Str t := by show Str (K.txt (z j)) = _; rw [ht]
      have hc1 : wr.cell? ⟨b0, o0 + j, none⟩ = some (.string (Str t)) := cell_item (HRD.out.ext HEX.out) hz1 hst
      have hjk : (j : Int) < (k : Int) := by omega
      have hj0 : (0 : Int) ≤ (j : Int) := by omega
      have HVT := hid hvt
      have HNT := hid hnt
      clear hz1 hz2 ht hvt hnt hst
      go_wp2_with fail
      refine (rest_ok t dm wr (len_of (valid_len HVT.out)) HVT.out (by omega) (by omega)).mono ?_
      rintro e w5 ⟨rfl, hx5⟩
      rw [HNT.out]
      have hrow5 := HROW.out.ext hx5
      have hcj : w5.cell? ⟨w.heap.size, j, none⟩ = some (.int .i64 ((partL (fun i => z i % (dm : Int)) k j).getD j 0)) := by
        rw [hrow5.cell, List.getElem?_map, List.getElem?_eq_getElem (by rw [partL_len]; exact hlt), List.getD_eq_getElem?_getD, List.getElem?_eq_getElem (by rw [partL_len]; exact hlt)]; rfl
      have hfj := hrow5.free j
      have HNR : Hid (Row (w5.setCell ⟨w.heap.size, j, none⟩ (.int .i64 (z j % (dm : Int)))) w.heap.size 3 (Is (partL (fun i => z i % (dm : Int)) k (j + 1)))) := hid (by
        have h := hrow5.set j (.int .i64 (z j % (dm : Int)))
        rwa [partL_set (fun i => z i % (dm : Int)) k j hlt] at h)
      have HNE := hid ((HEX.out.step hx5).set' (p := ⟨w.heap.size, j, none⟩) (Nat.le_refl _) (.int .i64 (z j % (dm : Int))))
      clear hc1 hx5 hrow5
      go_wp2
      go_roundw
      case rel => exact ⟨j + 1, by omega, by simp, HNR.out, HNE.out⟩
      case measure => first | (simp [intOf]; done) | (simp [intOf]; omega)
    · obtain rfl : k = j := by omega
      have HF : Hid (Row wr w.heap.size 3 (Is ((List.range k).map fun i => z i % (dm : Int)))) := hid (by rw [← partL_full]; exact HROW.out)
      go_wp2
      go_ret2
      exact ⟨_, rfl, HF.out, Nat.le_refl _, HEX.out⟩
set_option maxRecDepth 100000 in
set_option maxHeartbeats 1600000 in
theorem word_form1 (v : Value) (m : Int) (us ad : List Int) (l : List UInt8) (k : Int) (w : World) (hv : MapV w v m us ad) (hlen : l.length ≤ 140737488351232) (hb1 : Hid (mapB m us ad = false)) :
    Calls Tryz.prog 40 #[v, .string (Str l), .int .i64 k] w (fun e w' => e = .returned (.tuple #[.slice none 0 0, .int .i64 1]) ∧ Ext w w') := by
  have HV := hid hv
  obtain ⟨A, n, cc, B, n2, d, rfl, -⟩ := hv
  have hx : Ext w (w.alloc (.cells #[.int .i64 m, .slice A n cc, .slice B n2 d] 24)) := (Ext.rfl' w).alloc' _
  have hrw : Row (w.alloc (.cells #[.int .i64 m, .slice A n cc, .slice B n2 d] 24)) w.heap.size 24 [.int .i64 m, .slice A n cc, .slice B n2 d] := Row.new w _ _
  obtain ⟨W1, hW1⟩ : ∃ W1, (w.alloc (.cells #[.int .i64 m, .slice A n cc, .slice B n2 d] 24)) = W1 := ⟨_, rfl⟩
  rw [hW1] at hx hrw
  have HX := hid hx
  have HR := hid hrw
  have HW1 := hid hW1
  obtain ⟨f0, f1, f2, -, -, -⟩ := row_facts3 hrw
  clear hW1 hx hrw
  go_enter Tryz.func40, Tryz.ntmps40
  go_upto_region 1 with fail
  rw [HW1.out]
  go_wp2_with fail
  refine (stepvalid_any _ m us ad W1 (HV.out.ext HX.out) hb1).mono ?_
  rintro e w2 ⟨rfl, hx2⟩
  have HX2 := hid hx2
  clear f0 f1 f2 hx2
  obtain ⟨f0, f1, f2, -, -, -⟩ := row_facts3 (HR.out.ext HX2.out)
  have HF := hid (HX.out.step HX2.out)
  clear f0 f1 f2
  go_wp2
  go_ret2
  exact ⟨rfl, HF.out⟩
set_option maxRecDepth 100000 in
set_option maxHeartbeats 1600000 in
theorem word_form2 (v : Value) (m : Int) (us ad : List Int) (l : List UInt8) (k : Int) (w : World) (hv : MapV w v m us ad) (hlen : l.length ≤ 140737488351232) (hb1 : Hid (mapB m us ad = true)) (hb2 : Hid (K.validL l = false)) :
    Calls Tryz.prog 40 #[v, .string (Str l), .int .i64 k] w (fun e w' => e = .returned (.tuple #[.slice none 0 0, .int .i64 1]) ∧ Ext w w') := by
  have HV := hid hv
  obtain ⟨A, n, cc, B, n2, d, rfl, -⟩ := hv
  have hx : Ext w (w.alloc (.cells #[.int .i64 m, .slice A n cc, .slice B n2 d] 24)) := (Ext.rfl' w).alloc' _
  have hrw : Row (w.alloc (.cells #[.int .i64 m, .slice A n cc, .slice B n2 d] 24)) w.heap.size 24 [.int .i64 m, .slice A n cc, .slice B n2 d] := Row.new w _ _
  obtain ⟨W1, hW1⟩ : ∃ W1, (w.alloc (.cells #[.int .i64 m, .slice A n cc, .slice B n2 d] 24)) = W1 := ⟨_, rfl⟩
  rw [hW1] at hx hrw
  have HX := hid hx
  have HR := hid hrw
  have HW1 := hid hW1
  obtain ⟨f0, f1, f2, -, -, -⟩ := row_facts3 hrw
  clear hW1 hx hrw
  go_enter Tryz.func40, Tryz.ntmps40
  go_upto_region 1 with fail
  rw [HW1.out]
  go_wp2_with fail
  refine (stepvalid_any _ m us ad W1 (HV.out.ext HX.out) hb1).mono ?_
  rintro e w2 ⟨rfl, hx2⟩
  have HX2 := hid hx2
  clear f0 f1 f2 hx2
  obtain ⟨f0, f1, f2, -, -, -⟩ := row_facts3 (HR.out.ext HX2.out)
  go_wp2_with fail
  refine (valid_at l w2 hb2 hlen).mono ?_
  rintro e w3 ⟨rfl, hx3⟩
  have HX3 := hid (HX2.out.step hx3)
  clear f0 f1 f2 hx3
  obtain ⟨f0, f1, f2, -, -, -⟩ := row_facts3 (HR.out.ext HX3.out)
  have HF := hid (HX.out.step HX3.out)
  clear f0 f1 f2
  go_wp2
  go_ret2
  exact ⟨rfl, HF.out⟩
set_option maxRecDepth 100000 in
set_option maxHeartbeats 1600000 in
theorem word_low (v : Value) (m : Int) (us ad : List Int) (l : List UInt8) (k : Int) (w : World) (hv : MapV w v m us ad) (hlen : l.length ≤ 140737488351232) (hb1 : Hid (mapB m us ad = true)) (hb2 : Hid (K.validL l = true)) (h1 : k < 0) :
    Calls Tryz.prog 40 #[v, .string (Str l), .int .i64 k] w (fun e w' => e = .returned (.tuple #[.slice none 0 0, .int .i64 2]) ∧ Ext w w') := by
  have HV := hid hv
  obtain ⟨A, n, cc, B, n2, d, rfl, -⟩ := hv
  have hx : Ext w (w.alloc (.cells #[.int .i64 m, .slice A n cc, .slice B n2 d] 24)) := (Ext.rfl' w).alloc' _
  have hrw : Row (w.alloc (.cells #[.int .i64 m, .slice A n cc, .slice B n2 d] 24)) w.heap.size 24 [.int .i64 m, .slice A n cc, .slice B n2 d] := Row.new w _ _
  obtain ⟨W1, hW1⟩ : ∃ W1, (w.alloc (.cells #[.int .i64 m, .slice A n cc, .slice B n2 d] 24)) = W1 := ⟨_, rfl⟩
  rw [hW1] at hx hrw
  have HX := hid hx
  have HR := hid hrw
  have HW1 := hid hW1
  obtain ⟨f0, f1, f2, -, -, -⟩ := row_facts3 hrw
  clear hW1 hx hrw
  go_enter Tryz.func40, Tryz.ntmps40
  go_upto_region 1 with fail
  rw [HW1.out]
  go_wp2_with fail
  refine (stepvalid_any _ m us ad W1 (HV.out.ext HX.out) hb1).mono ?_
  rintro e w2 ⟨rfl, hx2⟩
  have HX2 := hid hx2
  clear f0 f1 f2 hx2
  obtain ⟨f0, f1, f2, -, -, -⟩ := row_facts3 (HR.out.ext HX2.out)
  go_wp2_with fail
  refine (valid_at l w2 hb2 hlen).mono ?_
  rintro e w3 ⟨rfl, hx3⟩
  have HX3 := hid (HX2.out.step hx3)
  clear f0 f1 f2 hx3
  obtain ⟨f0, f1, f2, -, -, -⟩ := row_facts3 (HR.out.ext HX3.out)
  have HF := hid (HX.out.step HX3.out)
  clear f0 f1 f2
  go_wp2
  go_ret2
  exact ⟨rfl, HF.out⟩
set_option maxRecDepth 100000 in
set_option maxHeartbeats 1600000 in
theorem word_high (v : Value) (m : Int) (us ad : List Int) (l : List UInt8) (k : Int) (w : World) (hv : MapV w v m us ad) (hlen : l.length ≤ 140737488351232) (hb1 : Hid (mapB m us ad = true)) (hb2 : Hid (K.validL l = true)) (h0 : 0 ≤ k) (h1 : 200 < k) :
    Calls Tryz.prog 40 #[v, .string (Str l), .int .i64 k] w (fun e w' => e = .returned (.tuple #[.slice none 0 0, .int .i64 2]) ∧ Ext w w') := by
  have HV := hid hv
  obtain ⟨A, n, cc, B, n2, d, rfl, -⟩ := hv
  have hx : Ext w (w.alloc (.cells #[.int .i64 m, .slice A n cc, .slice B n2 d] 24)) := (Ext.rfl' w).alloc' _
  have hrw : Row (w.alloc (.cells #[.int .i64 m, .slice A n cc, .slice B n2 d] 24)) w.heap.size 24 [.int .i64 m, .slice A n cc, .slice B n2 d] := Row.new w _ _
  obtain ⟨W1, hW1⟩ : ∃ W1, (w.alloc (.cells #[.int .i64 m, .slice A n cc, .slice B n2 d] 24)) = W1 := ⟨_, rfl⟩
  rw [hW1] at hx hrw
  have HX := hid hx
  have HR := hid hrw
  have HW1 := hid hW1
  obtain ⟨f0, f1, f2, -, -, -⟩ := row_facts3 hrw
  clear hW1 hx hrw
  go_enter Tryz.func40, Tryz.ntmps40
  go_upto_region 1 with fail
  rw [HW1.out]
  go_wp2_with fail
  refine (stepvalid_any _ m us ad W1 (HV.out.ext HX.out) hb1).mono ?_
  rintro e w2 ⟨rfl, hx2⟩
  have HX2 := hid hx2
  clear f0 f1 f2 hx2
  obtain ⟨f0, f1, f2, -, -, -⟩ := row_facts3 (HR.out.ext HX2.out)
  go_wp2_with fail
  refine (valid_at l w2 hb2 hlen).mono ?_
  rintro e w3 ⟨rfl, hx3⟩
  have HX3 := hid (HX2.out.step hx3)
  clear f0 f1 f2 hx3
  obtain ⟨f0, f1, f2, -, -, -⟩ := row_facts3 (HR.out.ext HX3.out)
  have HF := hid (HX.out.step HX3.out)
  clear f0 f1 f2
  go_wp2
  go_ret2
  exact ⟨rfl, HF.out⟩
set_option maxRecDepth 100000 in
set_option maxHeartbeats 1600000 in
theorem word_zero (v : Value) (m : Int) (us ad : List Int) (l : List UInt8) (k : Int) (w : World) (hv : MapV w v m us ad) (hlen : l.length ≤ 140737488351232) (hb1 : Hid (mapB m us ad = true)) (hb2 : Hid (K.validL l = true)) (h0 : k = 0) :
    Calls Tryz.prog 40 #[v, .string (Str l), .int .i64 k] w (fun e w' => e = .returned (.tuple #[.slice none 0 0, .int .i64 0]) ∧ Ext w w') := by
  subst h0
  have HV := hid hv
  obtain ⟨A, n, cc, B, n2, d, rfl, -⟩ := hv
  have hx : Ext w (w.alloc (.cells #[.int .i64 m, .slice A n cc, .slice B n2 d] 24)) := (Ext.rfl' w).alloc' _
  have hrw : Row (w.alloc (.cells #[.int .i64 m, .slice A n cc, .slice B n2 d] 24)) w.heap.size 24 [.int .i64 m, .slice A n cc, .slice B n2 d] := Row.new w _ _
  obtain ⟨W1, hW1⟩ : ∃ W1, (w.alloc (.cells #[.int .i64 m, .slice A n cc, .slice B n2 d] 24)) = W1 := ⟨_, rfl⟩
  rw [hW1] at hx hrw
  have HX := hid hx
  have HR := hid hrw
  have HW1 := hid hW1
  obtain ⟨f0, f1, f2, -, -, -⟩ := row_facts3 hrw
  clear hW1 hx hrw
  go_enter Tryz.func40, Tryz.ntmps40
  go_upto_region 1 with fail
  rw [HW1.out]
  go_wp2_with fail
  refine (stepvalid_any _ m us ad W1 (HV.out.ext HX.out) hb1).mono ?_
  rintro e w2 ⟨rfl, hx2⟩
  have HX2 := hid hx2
  clear f0 f1 f2 hx2
  obtain ⟨f0, f1, f2, -, -, -⟩ := row_facts3 (HR.out.ext HX2.out)
  go_wp2_with fail
  refine (valid_at l w2 hb2 hlen).mono ?_
  rintro e w3 ⟨rfl, hx3⟩
  have HX3 := hid (HX2.out.step hx3)
  clear f0 f1 f2 hx3
  obtain ⟨f0, f1, f2, -, -, -⟩ := row_facts3 (HR.out.ext HX3.out)
  have HF := hid (HX.out.step HX3.out)
  clear f0 f1 f2
  go_wp2
  go_ret2
  exact ⟨rfl, HF.out⟩
set_option maxRecDepth 100000 in
set_option maxHeartbeats 1600000 in
theorem word_size (v : Value) (m : Int) (us ad : List Int) (l : List UInt8) (k : Nat) (w : World) (hv : MapV w v m us ad) (hlen : l.length ≤ 140737488351232) (hb1 : Hid (mapB m us ad = true)) (hb2 : Hid (K.validL l = true)) (hk : k + 1 ≤ 200) (ht : Tab w) (HN : Hid (none ∈ seqO m us ad k (K.numL l))) :
    Calls Tryz.prog 40 #[v, .string (Str l), .int .i64 ((k + 1 : Nat) : Int)] w (fun e w' => e = .returned (.tuple #[.slice none 0 0, .int .i64 3]) ∧ Ext w w') := by
  have hk1 : IntKind.i64.wrap (((k + 1 : Nat) : Int) - 1) = (k : Int) := by rw [show (((k + 1 : Nat) : Int) - 1) = (k : Int) by omega]; exact IntWalk.i64_in _ (by omega)
  have hk2 : IntKind.i64.wrap ((k : Int) + 1 - 1) = (k : Int) := by rw [Int.add_sub_cancel]; exact IntWalk.i64_in _ (by omega)
  have q0 : ¬ ((k + 1 : Nat) : Int) < 0 := by omega
  have q1 : ¬ (200 : Int) < ((k + 1 : Nat) : Int) := by omega
  have q2 : (((k + 1 : Nat) : Int) == 0) = false := by rw [beq_eq_false_iff_ne]; omega
  have q3 : (((k : Int) + 1) == 0) = false := by rw [beq_eq_false_iff_ne]; omega
  have hM : Hid (mapP m us ad) := hid ((mapB_iff m us ad).1 hb1.out)
  have HT := hid ht
  have HV := hid hv
  obtain ⟨A, n, cc, B, n2, d, rfl, -⟩ := hv
  have hx : Ext w (w.alloc (.cells #[.int .i64 m, .slice A n cc, .slice B n2 d] 24)) := (Ext.rfl' w).alloc' _
  have hrw : Row (w.alloc (.cells #[.int .i64 m, .slice A n cc, .slice B n2 d] 24)) w.heap.size 24 [.int .i64 m, .slice A n cc, .slice B n2 d] := Row.new w _ _
  obtain ⟨W1, hW1⟩ : ∃ W1, (w.alloc (.cells #[.int .i64 m, .slice A n cc, .slice B n2 d] 24)) = W1 := ⟨_, rfl⟩
  rw [hW1] at hx hrw
  have HX := hid hx
  have HR := hid hrw
  have HW1 := hid hW1
  obtain ⟨f0, f1, f2, -, -, -⟩ := row_facts3 hrw
  clear hW1 hx hrw
  go_enter Tryz.func40, Tryz.ntmps40
  go_upto_region 1 with fail
  rw [HW1.out]
  go_wp2_with fail
  refine (stepvalid_any _ m us ad W1 (HV.out.ext HX.out) hb1).mono ?_
  rintro e w2 ⟨rfl, hx2⟩
  have HX2 := hid hx2
  clear f0 f1 f2 hx2
  obtain ⟨f0, f1, f2, -, -, -⟩ := row_facts3 (HR.out.ext HX2.out)
  go_wp2_with fail
  refine (valid_at l w2 hb2 hlen).mono ?_
  rintro e w3 ⟨rfl, hx3⟩
  have HX3 := hid (HX2.out.step hx3)
  clear f0 f1 f2 hx3
  obtain ⟨f0, f1, f2, -, -, -⟩ := row_facts3 (HR.out.ext HX3.out)
  go_wp2_with fail
  refine (orbit_no _ m us ad l k w3 (HV.out.ext (HX.out.step HX3.out)) hM hb2 (by omega) (HT.out.ext (HX.out.step HX3.out)) HN).mono ?_
  rintro e w4 ⟨rfl, hx4⟩
  have HX4 := hid (HX3.out.step hx4)
  clear hx4
  have HF := hid (HX.out.step HX4.out)
  clear f0 f1 f2
  go_wp2
  go_ret2
  exact ⟨rfl, HF.out⟩
set_option maxRecDepth 100000 in
set_option maxHeartbeats 1600000 in
theorem word_ok (v : Value) (m : Int) (us ad : List Int) (l : List UInt8) (k : Nat) (w : World) (hv : MapV w v m us ad) (hlen : l.length ≤ 140737488351232) (hb1 : Hid (mapB m us ad = true)) (hb2 : Hid (K.validL l = true)) (hk : k + 1 ≤ 200) (ht : Tab w) (HN : Hid (none ∉ seqO m us ad k (K.numL l))) :
    Calls Tryz.prog 40 #[v, .string (Str l), .int .i64 ((k + 1 : Nat) : Int)] w (fun e w' => ∃ g, e = .returned (.tuple #[.slice (some ⟨g, 0, none⟩) (k + 1) (k + 1), .int .i64 0]) ∧ Row w' g 3 (Is (wordI m us ad (k + 1) (K.numL l))) ∧ w.heap.size ≤ g ∧ Ext w w') := by
  have hk1 : IntKind.i64.wrap (((k + 1 : Nat) : Int) - 1) = (k : Int) := by rw [show (((k + 1 : Nat) : Int) - 1) = (k : Int) by omega]; exact IntWalk.i64_in _ (by omega)
  have hk2 : IntKind.i64.wrap ((k : Int) + 1 - 1) = (k : Int) := by rw [Int.add_sub_cancel]; exact IntWalk.i64_in _ (by omega)
  have q0 : ¬ ((k + 1 : Nat) : Int) < 0 := by omega
  have q1 : ¬ (200 : Int) < ((k + 1 : Nat) : Int) := by omega
  have q2 : (((k + 1 : Nat) : Int) == 0) = false := by rw [beq_eq_false_iff_ne]; omega
  have q3 : (((k : Int) + 1) == 0) = false := by rw [beq_eq_false_iff_ne]; omega
  have hM : Hid (mapP m us ad) := hid ((mapB_iff m us ad).1 hb1.out)
  have HT := hid ht
  have HV := hid hv
  obtain ⟨A, n, cc, B, n2, d, rfl, -⟩ := hv
  have hx : Ext w (w.alloc (.cells #[.int .i64 m, .slice A n cc, .slice B n2 d] 24)) := (Ext.rfl' w).alloc' _
  have hrw : Row (w.alloc (.cells #[.int .i64 m, .slice A n cc, .slice B n2 d] 24)) w.heap.size 24 [.int .i64 m, .slice A n cc, .slice B n2 d] := Row.new w _ _
  obtain ⟨W1, hW1⟩ : ∃ W1, (w.alloc (.cells #[.int .i64 m, .slice A n cc, .slice B n2 d] 24)) = W1 := ⟨_, rfl⟩
  rw [hW1] at hx hrw
  have HX := hid hx
  have HR := hid hrw
  have HW1 := hid hW1
  obtain ⟨f0, f1, f2, -, -, -⟩ := row_facts3 hrw
  clear hW1 hx hrw
  go_enter Tryz.func40, Tryz.ntmps40
  go_upto_region 1 with fail
  rw [HW1.out]
  go_wp2_with fail
  refine (stepvalid_any _ m us ad W1 (HV.out.ext HX.out) hb1).mono ?_
  rintro e w2 ⟨rfl, hx2⟩
  have HX2 := hid hx2
  clear f0 f1 f2 hx2
  obtain ⟨f0, f1, f2, -, -, -⟩ := row_facts3 (HR.out.ext HX2.out)
  go_wp2_with fail
  refine (valid_at l w2 hb2 hlen).mono ?_
  rintro e w3 ⟨rfl, hx3⟩
  have HX3 := hid (HX2.out.step hx3)
  clear f0 f1 f2 hx3
  obtain ⟨f0, f1, f2, -, -, -⟩ := row_facts3 (HR.out.ext HX3.out)
  go_wp2_with fail
  refine (orbit_at _ m us ad l k w3 (HV.out.ext (HX.out.step HX3.out)) hM hb2 (by omega) (HT.out.ext (HX.out.step HX3.out)) HN).mono ?_
  rintro e w4 ⟨b, o, c, rfl, hc, HRD, hx4⟩
  have HX4 := hid (HX3.out.step hx4)
  clear f0 f1 f2 hx4
  obtain ⟨f0, f1, f2, -, -, -⟩ := row_facts3 (HR.out.ext HX4.out)
  go_wp2_with fail
  refine (rests_ok b o (k + 1) c m (some (K.numL l) :: seqO m us ad k (K.numL l)) (fun i => orbN m us ad i (K.numL l)) w4 HRD.out (hid (fun j hj => ⟨seq_orb0 HN.out j hj, ?_⟩)) (by omega) hc (by have := hM.out.1; omega) (by have := hM.out.2.1; omega)).mono ?_
  · obtain ⟨t, z, -, h2, h3, -, h5⟩ := item_at HN.out (K.txt_numL l hb2.out).2 j hj
    have h6 := seq_orb0 HN.out j hj
    rw [h5] at h6
    obtain rfl : z = orbN m us ad j (K.numL l) := by simpa using h6
    rw [← h3]; exact (K.txt_numL t h2).2
  rintro e w5 ⟨g, rfl, hrow, hg, hx5⟩
  have HROW := hid hrow
  have HG := hid (show w.heap.size ≤ g by have h1 := HX4.out.size; have h2 := HX.out.size; omega)
  have HF := hid (HX.out.step (HX4.out.step hx5))
  clear f0 f1 f2 hrow hg hx5
  go_wp2
  go_ret2
  exact ⟨g, rfl, HROW.out, HG.out, HF.out⟩
end Go.Proofs.YtimokpcopeldfaaGreatDoor
/- word.class: everyNumber, first, narrowed -/
namespace Go.Proofs.YtimokpcopeldfaaGreatDoor
open Go.RowKit
theorem row_facts4 {w : World} {g : Nat} {t : TypeId} {a b c d : Value} (h : Row w g t [a, b, c, d]) : w.cell? ⟨g, 0, none⟩ = some a ∧ w.cell? ⟨g, 1, none⟩ = some b ∧ w.cell? ⟨g, 2, none⟩ = some c ∧ w.cell? ⟨g, 3, none⟩ = some d ∧ w.frozen? ⟨g, 0, none⟩ = false ∧ w.frozen? ⟨g, 1, none⟩ = false ∧ w.frozen? ⟨g, 2, none⟩ = false ∧ w.frozen? ⟨g, 3, none⟩ = false :=
  ⟨by rw [h.cell]; rfl, by rw [h.cell]; rfl, by rw [h.cell]; rfl, by rw [h.cell]; rfl, h.free 0, h.free 1, h.free 2, h.free 3⟩
set_option maxRecDepth 100000 in
set_option maxHeartbeats 800000 in
theorem every_any (w : World) : Calls Tryz.prog 94 #[] w (fun e w' => e = .returned (.agg #[.string ⟨#[48]⟩, .string ⟨#[49]⟩, .string ⟨#[48]⟩, .string ⟨#[49]⟩]) ∧ Ext w w') := by
  have HF : Hid (Ext w (w.alloc (.cells #[.string ⟨#[48]⟩, .string ⟨#[49]⟩, .string ⟨#[48]⟩, .string ⟨#[49]⟩] 133))) := hid ((Ext.rfl' w).alloc' _)
  go_enter Tryz.func94, Tryz.ntmps94
  go_wp2
  refine bodyPost_ret (v := .agg #[.string ⟨#[48]⟩, .string ⟨#[49]⟩, .string ⟨#[48]⟩, .string ⟨#[49]⟩]) (by simp [results, Tryz.results94, go_sem]) rfl ⟨rfl, HF.out⟩
theorem rest_s (x m : Int) (s : ByteArray) (w : World) (hs : Hid (Str (K.txt x) = s)) (hf : K.fits x) (hm : 1 ≤ m) (hm2 : m ≤ 2147483647) :
    Calls Tryz.prog 71 #[.string s, .int .i64 m] w (fun e w' => e = .returned (.tuple #[.int .i64 (x % m), .int .i64 0]) ∧ Ext w w') := by
  obtain ⟨d, rfl⟩ : ∃ d : Nat, m = (d : Int) := ⟨m.toNat, by omega⟩
  have h := rest_ok (K.txt x) d w (len_of (K.txt_len _ hf)) (K.valid_txt _ hf) (by omega) (by omega)
  rwa [hs.out, K.numL_txt] at h
theorem step_s (v : Value) (m : Int) (us ad : List Int) (x : Int) (s s2 : ByteArray) (w : World) (hv : MapV w v m us ad) (hM : Hid (mapP m us ad)) (hs : Hid (Str (K.txt x) = s)) (hf : K.fits x) (hf2 : K.fits (stepI m us ad x)) (hs2 : Hid (Str (K.txt (stepI m us ad x)) = s2)) (ht : Tab w) :
    Calls Tryz.prog 124 #[v, .string s] w (fun e w' => e = .returned (.tuple #[.string s2, .int .i64 0]) ∧ Ext w w') := by
  have h := step_ok v m us ad (K.txt x) w hv hM (hid (K.valid_txt _ hf)) ht
  rw [hs.out, K.numL_txt, runO_succ, if_pos (fitsB_yes hf2)] at h
  exact h.mono fun e w' hh => ⟨by rw [hh.1]; show _ = Ending.returned (.tuple #[.string s2, .int .i64 0]); rw [← hs2.out]; rfl, hh.2⟩
theorem itoa_s (n : Int) (s : ByteArray) (w : World) (hs : Hid (Str (K.txt n) = s)) (h0 : -9223372036854775808 ≤ n) (h1 : n ≤ 9223372036854775807) (ht : Tab w) :
    Calls Tryz.prog 121 #[.int .i64 n] w (fun e w' => e = .returned (.string s) ∧ Ext w w') :=
  (itoa_any n w h0 h1 ht).mono fun e w' h => ⟨by rw [h.1, hs.out], h.2⟩
theorem mod_form {x a m : Int} (t : Nat) : (x % m + (t : Int) * (a % m)) % m = (x + (t : Int) * a) % m := by
  rw [Int.add_emod, Int.emod_emod_of_dvd _ (Int.dvd_refl m), Int.mul_emod, Int.emod_emod_of_dvd _ (Int.dvd_refl m), ← Int.mul_emod, ← Int.add_emod]
set_option maxRecDepth 100000 in
set_option maxHeartbeats 3200000 in
theorem first_ok (sR sD sI sM : ByteArray) (x a m r : Int) (w : World) (Hx : Hid (Str (K.txt x) = sI)) (Ha : Hid (Str (K.txt a) = sM)) (fx : K.fits x) (fa : K.fits a) (hm : 2 ≤ m) (hm2 : m ≤ 12) (hex : Hid (∃ t : Nat, (t : Int) < m ∧ (x + (t : Int) * a) % m = r)) (hr : 0 ≤ r) (hr2 : r < m) (ht : Tab w) :
    Calls Tryz.prog 123 #[.agg #[.string sR, .string sD, .string sI, .string sM], .int .i64 m, .int .i64 r] w (fun e w' => ∃ t : Nat, e = .returned (.tuple #[.string (Str (K.txt (t : Int))), .int .i64 0]) ∧ (t : Int) < m ∧ (x + (t : Int) * a) % m = r ∧ Ext w w') := by
  have HT := hid ht
  have hx : Ext w (w.alloc (.cells #[.string sR, .string sD, .string sI, .string sM] 133)) := (Ext.rfl' w).alloc' _
  have hrw : Row (w.alloc (.cells #[.string sR, .string sD, .string sI, .string sM] 133)) w.heap.size 133 [.string sR, .string sD, .string sI, .string sM] := Row.new w _ _
  obtain ⟨W1, hW1⟩ : ∃ W1, (w.alloc (.cells #[.string sR, .string sD, .string sI, .string sM] 133)) = W1 := ⟨_, rfl⟩
  rw [hW1] at hx hrw
  have HX := hid hx
  have HR := hid hrw
  have HW1 := hid hW1
  obtain ⟨f0, f1, f2, f3, -, -, -, -⟩ := row_facts4 hrw
  obtain ⟨hv, hhv⟩ : ∃ hv, x % m = hv := ⟨_, rfl⟩
  obtain ⟨mo, hmo⟩ : ∃ mo, a % m = mo := ⟨_, rfl⟩
  have HHV := hid hhv
  have HMO := hid hmo
  have b1 : 0 ≤ hv := by rw [← hhv]; exact Int.emod_nonneg _ (by omega)
  have b2 : hv < m := by rw [← hhv]; exact Int.emod_lt_of_pos _ (by omega)
  have b3 : 0 ≤ mo := by rw [← hmo]; exact Int.emod_nonneg _ (by omega)
  have b4 : mo < m := by rw [← hmo]; exact Int.emod_lt_of_pos _ (by omega)
  clear hW1 hx hrw hhv hmo
  go_enter Tryz.func123, Tryz.ntmps123
  go_upto_region 1 with fail
  rw [HW1.out]
  go_wp2_with fail
  refine (rest_s x m sI W1 Hx fx (by omega) (by omega)).mono ?_
  rintro e w2 ⟨rfl, hx2⟩
  rw [HHV.out]
  have HX2 := hid hx2
  clear f0 f1 f2 f3 hx2
  obtain ⟨f0, f1, f2, f3, -, -, -, -⟩ := row_facts4 (HR.out.ext HX2.out)
  go_wp2_with fail
  refine (rest_s a m sM w2 Ha fa (by omega) (by omega)).mono ?_
  rintro e w3 ⟨rfl, hx3⟩
  rw [HMO.out]
  have HX3 := hid (HX.out.step (HX2.out.step hx3))
  clear f0 f1 f2 f3 hx3
  obtain ⟨dm, hdm⟩ : ∃ dm : Nat, m = (dm : Int) := ⟨m.toNat, by omega⟩
  have HDM := hid hdm
  clear hdm
  go_wp2_with fail
  go_loopw [33] (fun iz wr => ∃ j : Nat, j ≤ dm ∧ iz = .int .i64 (j : Int) ∧ Hid (∀ s : Nat, s < j → (x + (s : Int) * a) % m ≠ r) ∧ Ext w3 wr) (fun iz _ => dm - (intOf iz).toNat)
  case atStart => exact ⟨0, by omega, rfl, hid (fun s hs => by omega), Ext.rfl' _⟩
  case round =>
    obtain ⟨j, hj, rfl, HALL, hex3⟩ := hrel
    have HX4 := hid (HX3.out.step hex3)
    have HE4 := hid hex3
    clear hex3
    by_cases hlt : j < dm
    · have hjm : (j : Int) < m := by have := HDM.out; omega
      obtain ⟨q, hq⟩ : ∃ q, (j : Int) * mo = q := ⟨_, rfl⟩
      have hq0 : 0 ≤ q := by rw [← hq]; exact Int.mul_nonneg (by omega) b3
      have hq1 : q ≤ 144 := by
        rw [← hq]
        have := Int.mul_le_mul (show (j : Int) ≤ 12 by omega) (show mo ≤ 12 by omega) b3 (by omega)
        omega
      have hform : (hv + q) % m = (x + (j : Int) * a) % m := by rw [← HHV.out, ← hq, ← HMO.out]; exact mod_form j
      have HFORM := hid hform
      clear hform
      have hjb : (j : Int) ≤ 12 := by omega
      by_cases hs : (x + (j : Int) * a) % m = r
      · have e1 : ((hv + q) % m == r) = true := by rw [beq_iff_eq, HFORM.out]; exact hs
        have e2 : ((hv + q).tmod m == r) = true := by rw [beq_iff_eq, Int.tmod_eq_emod_of_nonneg (by omega), HFORM.out]; exact hs
        have HS := hid hs
        clear hs
        go_wp2_with fail
        refine (itoa_any (j : Int) wr (by omega) (by omega) (HT.out.ext HX4.out)).mono ?_
        rintro e w4 ⟨rfl, hx4⟩
        have HX5 := hid (HX4.out.step hx4)
        go_wp2
        go_ret2
        exact ⟨j, rfl, hjm, HS.out, HX5.out⟩
      · have e1 : ((hv + q) % m == r) = false := by rw [beq_eq_false_iff_ne, HFORM.out]; exact hs
        have e2 : ((hv + q).tmod m == r) = false := by rw [beq_eq_false_iff_ne, Int.tmod_eq_emod_of_nonneg (by omega), HFORM.out]; exact hs
        have HNX : Hid (∀ s : Nat, s < j + 1 → (x + (s : Int) * a) % m ≠ r) := hid (fun s h => by
          rcases Nat.lt_or_ge s j with h2 | h2
          · exact HALL.out s h2
          · obtain rfl : s = j := by omega
            exact hs)
        clear hs
        go_wp2
        go_roundw
        case rel => exact ⟨j + 1, by omega, by simp, HNX, HE4.out⟩
        case measure => first | (simp [intOf]; done) | (simp [intOf]; omega)
    · exfalso
      obtain ⟨t, h1, h2⟩ := hex.out
      exact HALL.out t (by have := HDM.out; omega) h2
end Go.Proofs.YtimokpcopeldfaaGreatDoor
/- word.class.narrowed -/
namespace Go.Proofs.YtimokpcopeldfaaGreatDoor
open Go.RowKit
set_option maxRecDepth 100000 in
set_option maxHeartbeats 12800000 in
theorem narrowed_l (sR sD sI sM : ByteArray) (R D x a m u : Int) (r : Nat) (ba oa n cc n2 d : Nat) (B : Option Addr) (us ad : List Int) (w : World) (HRs : Hid (Str (K.txt R) = sR)) (HDs : Hid (Str (K.txt D) = sD)) (HIs : Hid (Str (K.txt x) = sI)) (HMs : Hid (Str (K.txt a) = sM))
    (hmv : MapV w (.agg #[.int .i64 m, .slice (some ⟨ba, oa, none⟩) n cc, .slice B n2 d]) m us ad) (hM : Hid (mapP m us ad)) (hra : Rd w (some ⟨ba, oa, none⟩) (Is us)) (hn : us.length = n) (hrn : r < n) (hu : Hid (us.getD r 0 = u)) (hu1 : 1 ≤ u) (hu2 : u ≤ 999) (hrm : (r : Int) < m) (ht : Tab w)
    (hexi : Hid (∃ t : Nat, (t : Int) < m ∧ (x + (t : Int) * a) % m = (r : Int)))
    (F : Hid (K.fits R ∧ K.fits D ∧ K.fits x ∧ K.fits a ∧ K.fits (D * m) ∧ K.fits (a * u)))
    (FT : Hid (∀ t : Int, 0 ≤ t → t < m → K.fits t ∧ K.fits (t * D) ∧ K.fits (R + t * D) ∧ K.fits (t * a) ∧ K.fits (x + t * a) ∧ K.fits (stepI m us ad (x + t * a)))) :
    Calls Tryz.prog 95 #[.agg #[.string sR, .string sD, .string sI, .string sM], .agg #[.int .i64 m, .slice (some ⟨ba, oa, none⟩) n cc, .slice B n2 d], .int .i64 (r : Int)] w (fun e w' => ∃ t : Nat, e = .returned (.tuple #[.agg #[.string (Str (K.txt (R + (t : Int) * D))), .string (Str (K.txt (D * m))), .string (Str (K.txt (stepI m us ad (x + (t : Int) * a)))), .string (Str (K.txt (a * u)))], .int .i64 0]) ∧ (t : Int) < m ∧ (x + (t : Int) * a) % m = (r : Int) ∧ Ext w w') := by
  have hx : Ext w (((w.alloc (.cells #[.string sR, .string sD, .string sI, .string sM] 133)).alloc (.cells #[.int .i64 m, .slice (some ⟨ba, oa, none⟩) n cc, .slice B n2 d] 24)).alloc (.cells #[.string ⟨#[]⟩, .string ⟨#[]⟩, .string ⟨#[]⟩, .string ⟨#[]⟩] 133)) := (((Ext.rfl' w).alloc' _).alloc' _).alloc' _
  have r1 : Row (((w.alloc (.cells #[.string sR, .string sD, .string sI, .string sM] 133)).alloc (.cells #[.int .i64 m, .slice (some ⟨ba, oa, none⟩) n cc, .slice B n2 d] 24)).alloc (.cells #[.string ⟨#[]⟩, .string ⟨#[]⟩, .string ⟨#[]⟩, .string ⟨#[]⟩] 133)) w.heap.size 133 [.string sR, .string sD, .string sI, .string sM] := ((Row.new w _ _).alloc _).alloc _
  have r2 : Row (((w.alloc (.cells #[.string sR, .string sD, .string sI, .string sM] 133)).alloc (.cells #[.int .i64 m, .slice (some ⟨ba, oa, none⟩) n cc, .slice B n2 d] 24)).alloc (.cells #[.string ⟨#[]⟩, .string ⟨#[]⟩, .string ⟨#[]⟩, .string ⟨#[]⟩] 133)) (w.heap.size + 1) 24 [.int .i64 m, .slice (some ⟨ba, oa, none⟩) n cc, .slice B n2 d] := by
    have := (Row.new (w.alloc (.cells #[.string sR, .string sD, .string sI, .string sM] 133)) 24 [.int .i64 m, .slice (some ⟨ba, oa, none⟩) n cc, .slice B n2 d]).alloc (.cells #[.string ⟨#[]⟩, .string ⟨#[]⟩, .string ⟨#[]⟩, .string ⟨#[]⟩] 133)
    rwa [World.size_alloc] at this
  have r3 : Row (((w.alloc (.cells #[.string sR, .string sD, .string sI, .string sM] 133)).alloc (.cells #[.int .i64 m, .slice (some ⟨ba, oa, none⟩) n cc, .slice B n2 d] 24)).alloc (.cells #[.string ⟨#[]⟩, .string ⟨#[]⟩, .string ⟨#[]⟩, .string ⟨#[]⟩] 133)) (w.heap.size + 1 + 1) 133 [.string ⟨#[]⟩, .string ⟨#[]⟩, .string ⟨#[]⟩, .string ⟨#[]⟩] := by
    have := Row.new ((w.alloc (.cells #[.string sR, .string sD, .string sI, .string sM] 133)).alloc (.cells #[.int .i64 m, .slice (some ⟨ba, oa, none⟩) n cc, .slice B n2 d] 24)) 133 [.string ⟨#[]⟩, .string ⟨#[]⟩, .string ⟨#[]⟩, .string ⟨#[]⟩]
    rwa [World.size_alloc, World.size_alloc] at this
  obtain ⟨W3, hW3⟩ : ∃ W3, (((w.alloc (.cells #[.string sR, .string sD, .string sI, .string sM] 133)).alloc (.cells #[.int .i64 m, .slice (some ⟨ba, oa, none⟩) n cc, .slice B n2 d] 24)).alloc (.cells #[.string ⟨#[]⟩, .string ⟨#[]⟩, .string ⟨#[]⟩, .string ⟨#[]⟩] 133)) = W3 := ⟨_, rfl⟩
  rw [hW3] at hx r1 r2 r3
  have HW3 := hid hW3
  have HX := hid hx
  have R1 := hid r1
  have R2 := hid r2
  have R3 := hid r3
  have HT := hid ht
  have HMV := hid hmv
  have HRA := hid hra
  have HL := hid hn
  have HM2 := hid (show 2 ≤ m ∧ m ≤ 12 from ⟨hM.out.1, hM.out.2.1⟩)
  have i0 : (0 : Int) ≤ (r : Int) := by omega
  have i1 : (r : Int) < (n : Int) := by omega
  have HUU := hid (And.intro hu1 hu2)
  obtain ⟨f0, f1, f2, f3, -, -, -, -⟩ := row_facts4 r1
  obtain ⟨g0, g1, g2, -, -, -⟩ := row_facts3 r2
  clear hW3 hx r1 r2 r3 hmv hra hn hu1 hu2
  go_enter Tryz.func95, Tryz.ntmps95
  go_upto_region 1 with fail
  rw [HW3.out]
  go_wp2_with fail
  refine (first_ok sR sD sI sM x a m r W3 HIs HMs F.out.2.2.1 F.out.2.2.2.1 HM2.out.1 HM2.out.2 hexi i0 hrm (HT.out.ext HX.out)).mono ?_
  rintro e w4 ⟨t, rfl, htm, hts, hx4⟩
  have HX4 := hid hx4
  have HTM := hid (And.intro htm hts)
  have HFT := hid (FT.out (t : Int) (by omega) htm)
  obtain ⟨st, hst⟩ : ∃ st, Str (K.txt (t : Int)) = st := ⟨_, rfl⟩
  rw [hst]
  have HST := hid hst
  obtain ⟨sm, hsm⟩ : ∃ sm, Str (K.txt m) = sm := ⟨_, rfl⟩
  have HSM := hid hsm
  obtain ⟨su, hsu⟩ : ∃ su, Str (K.txt u) = su := ⟨_, rfl⟩
  have HSU := hid hsu
  obtain ⟨stD, hstD⟩ : ∃ stD, Str (K.txt ((t : Int) * D)) = stD := ⟨_, rfl⟩
  have HSTD := hid hstD
  obtain ⟨sR2, hsR2⟩ : ∃ sR2, Str (K.txt (R + (t : Int) * D)) = sR2 := ⟨_, rfl⟩
  have HSR2 := hid hsR2
  obtain ⟨stM, hstM⟩ : ∃ stM, Str (K.txt ((t : Int) * a)) = stM := ⟨_, rfl⟩
  have HSTM := hid hstM
  obtain ⟨sX, hsX⟩ : ∃ sX, Str (K.txt (x + (t : Int) * a)) = sX := ⟨_, rfl⟩
  have HSX := hid hsX
  obtain ⟨sI2, hsI2⟩ : ∃ sI2, Str (K.txt (stepI m us ad (x + (t : Int) * a))) = sI2 := ⟨_, rfl⟩
  have HSI2 := hid hsI2
  obtain ⟨sD2, hsD2⟩ : ∃ sD2, Str (K.txt (D * m)) = sD2 := ⟨_, rfl⟩
  have HSD2 := hid hsD2
  obtain ⟨sM2, hsM2⟩ : ∃ sM2, Str (K.txt (a * u)) = sM2 := ⟨_, rfl⟩
  have HSM2 := hid hsM2
  have HFM : Hid (K.fits m ∧ K.fits u) := hid (by
    have hp : (1000000 : Nat) < K.LIM := by
      have : K.pw 7 ≤ K.pw 2000 := K.pw_mono (by omega)
      have h7 : K.pw 7 = 10000000 := by decide
      unfold K.LIM
      omega
    have h1 := HM2.out
    have h2 := HUU.out
    exact ⟨by show m.natAbs < K.LIM; omega, by show u.natAbs < K.LIM; omega⟩)
  clear f0 f1 f2 f3 g0 g1 g2 hx4 htm hts hst hsm hsu hstD hsR2 hstM hsX hsI2 hsD2 hsM2
  have hg := Row.new w4 124 [.int .i64 0]
  have hx5 : Ext w4 (w4.alloc (.cells #[.int .i64 0] 124)) := (Ext.rfl' w4).alloc' _
  obtain ⟨W5, hW5⟩ : ∃ W5, (w4.alloc (.cells #[.int .i64 0] 124)) = W5 := ⟨_, rfl⟩
  have hg : Row W5 w4.heap.size 124 [.int .i64 0] := by rw [← hW5]; exact hg
  rw [hW5] at hx5
  have HW5 := hid hW5
  have RG := hid hg
  have HX35 := hid (HX4.out.step hx5)
  have HX5 := hid (HX.out.step (HX4.out.step hx5))
  have HS : Hid (∀ W', Ext W5 W' → W'.cell? ⟨w.heap.size, 0, none⟩ = some (.string sR) ∧ W'.cell? ⟨w.heap.size, 1, none⟩ = some (.string sD) ∧ W'.cell? ⟨w.heap.size, 2, none⟩ = some (.string sI) ∧ W'.cell? ⟨w.heap.size, 3, none⟩ = some (.string sM) ∧ W'.cell? ⟨w.heap.size + 1, 0, none⟩ = some (.int .i64 m) ∧ W'.cell? ⟨w.heap.size + 1, 1, none⟩ = some (.slice (some ⟨ba, oa, none⟩) n cc) ∧ W'.cell? ⟨w.heap.size + 1, 2, none⟩ = some (.slice B n2 d) ∧ W'.cell? ⟨ba, oa + r, none⟩ = some (.int .i64 u)) := hid (by
    intro W' e
    obtain ⟨p0, p1, p2, p3, -, -, -, -⟩ := row_facts4 (R1.out.ext (HX35.out.step e))
    obtain ⟨q0, q1, q2, -, -, -⟩ := row_facts3 (R2.out.ext (HX35.out.step e))
    obtain ⟨b2, o2, e2, -, hc1⟩ := (HRA.out.ext (HX5.out.step e)).atI (k := r) (by rw [HL.out]; exact hrn)
    cases e2
    rw [hu.out] at hc1
    exact ⟨p0, p1, p2, p3, q0, q1, q2, hc1⟩)
  clear hW5 hg hx5
  go_upto_region 5 with fail
  rw [HW5.out]
  have hcur : Ext W5 W5 := Ext.rfl' _
  go_region_held3 (fun W' => W'.cell? ⟨w.heap.size, 0, none⟩ = some (.string sR) ∧ W'.cell? ⟨w.heap.size, 1, none⟩ = some (.string sD) ∧ W'.cell? ⟨w.heap.size, 2, none⟩ = some (.string sI) ∧ W'.cell? ⟨w.heap.size, 3, none⟩ = some (.string sM) ∧ W'.cell? ⟨w.heap.size + 1, 0, none⟩ = some (.int .i64 m) ∧ W'.cell? ⟨w.heap.size + 1, 1, none⟩ = some (.slice (some ⟨ba, oa, none⟩) n cc) ∧ W'.cell? ⟨w.heap.size + 1, 2, none⟩ = some (.slice B n2 d) ∧ W'.cell? ⟨ba, oa + r, none⟩ = some (.int .i64 u))
    (first | exact HS.out _ hcur | exact HS.out _ hcur.drew' | exact HS.out _ (hcur.alloc' _) | exact HS.out _ (hcur.drew'.alloc' _) | exact HS.out _ ((hcur.set' HB2.out.1 _).set' HB2.out.1 _) | go_keep)
    (first
      | (go_at_call 89; refine (Calls.at_args ?_ (rec_times_s w4.heap.size (t : Int) D st sD stD _ (RG.out.ext ?_) ⟨HFT.out.1, F.out.2.1, HFT.out.2.1⟩ HST HDs HSTD (HT.out.ext ?_))).mono ?_; (with_reducible rfl); (first | exact hcur | exact hcur.drew' | exact hcur.alloc' _ | exact hcur.drew'.alloc' _ | exact (hcur.alloc' _).drew'); (exact HX5.out.step (by first | exact hcur | exact hcur.drew')); rintro e w6 ⟨rfl, hx⟩; have hcur := Ext.step hcur (by first | exact hx | exact Ext.undrew hx | exact Ext.step ((Ext.rfl' _).alloc' _) hx | exact Ext.step ((Ext.rfl' _).drew'.alloc' _) hx))
      | (go_at_call 90; refine (Calls.at_args ?_ (rec_plus_s w4.heap.size R ((t : Int) * D) sR stD sR2 _ (RG.out.ext ?_) ⟨F.out.1, HFT.out.2.1, HFT.out.2.2.1⟩ HRs HSTD HSR2 (HT.out.ext ?_))).mono ?_; (with_reducible rfl); (first | exact hcur | exact hcur.drew' | exact hcur.alloc' _ | exact hcur.drew'.alloc' _ | exact (hcur.alloc' _).drew'); (exact HX5.out.step (by first | exact hcur | exact hcur.drew')); rintro e w7 ⟨rfl, hx⟩; have hcur := Ext.step hcur (by first | exact hx | exact Ext.undrew hx | exact Ext.step ((Ext.rfl' _).alloc' _) hx | exact Ext.step ((Ext.rfl' _).drew'.alloc' _) hx)))
  all_goals
    have hcur : Ext W5 w7 := (by first | exact hcur | exact hcur.drew')
    have HC := hid hcur
    clear hcur
    go_wp2_with fail
    have hcur : Ext W5 w7 := HC.out
    go_region_held3 (fun W' => W'.cell? ⟨w.heap.size, 0, none⟩ = some (.string sR) ∧ W'.cell? ⟨w.heap.size, 1, none⟩ = some (.string sD) ∧ W'.cell? ⟨w.heap.size, 2, none⟩ = some (.string sI) ∧ W'.cell? ⟨w.heap.size, 3, none⟩ = some (.string sM) ∧ W'.cell? ⟨w.heap.size + 1, 0, none⟩ = some (.int .i64 m) ∧ W'.cell? ⟨w.heap.size + 1, 1, none⟩ = some (.slice (some ⟨ba, oa, none⟩) n cc) ∧ W'.cell? ⟨w.heap.size + 1, 2, none⟩ = some (.slice B n2 d) ∧ W'.cell? ⟨ba, oa + r, none⟩ = some (.int .i64 u))
      (first | exact HS.out _ hcur | exact HS.out _ hcur.drew' | exact HS.out _ (hcur.alloc' _) | exact HS.out _ (hcur.drew'.alloc' _) | exact HS.out _ ((hcur.set' HB2.out.1 _).set' HB2.out.1 _) | go_keep)
      (first
        | (go_at_call 89; refine (Calls.at_args ?_ (rec_times_s w4.heap.size (t : Int) a st sM stM _ (RG.out.ext ?_) ⟨HFT.out.1, F.out.2.2.2.1, HFT.out.2.2.2.1⟩ HST HMs HSTM (HT.out.ext ?_))).mono ?_; (with_reducible rfl); (first | exact hcur | exact hcur.drew' | exact hcur.alloc' _ | exact hcur.drew'.alloc' _ | exact (hcur.alloc' _).drew'); (exact HX5.out.step (by first | exact hcur | exact hcur.drew')); rintro e w8 ⟨rfl, hx⟩; have hcur := Ext.step hcur (by first | exact hx | exact Ext.undrew hx | exact Ext.step ((Ext.rfl' _).alloc' _) hx | exact Ext.step ((Ext.rfl' _).drew'.alloc' _) hx))
        | (go_at_call 90; refine (Calls.at_args ?_ (rec_plus_s w4.heap.size x ((t : Int) * a) sI stM sX _ (RG.out.ext ?_) ⟨F.out.2.2.1, HFT.out.2.2.2.1, HFT.out.2.2.2.2.1⟩ HIs HSTM HSX (HT.out.ext ?_))).mono ?_; (with_reducible rfl); (first | exact hcur | exact hcur.drew' | exact hcur.alloc' _ | exact hcur.drew'.alloc' _ | exact (hcur.alloc' _).drew'); (exact HX5.out.step (by first | exact hcur | exact hcur.drew')); rintro e w9 ⟨rfl, hx⟩; have hcur := Ext.step hcur (by first | exact hx | exact Ext.undrew hx | exact Ext.step ((Ext.rfl' _).alloc' _) hx | exact Ext.step ((Ext.rfl' _).drew'.alloc' _) hx)))
    all_goals
      have hcur : Ext W5 w9 := (by first | exact hcur | exact hcur.drew')
      obtain ⟨f0, f1, f2, f3, g0, g1, g2, h0⟩ := HS.out _ hcur
      have HC := hid hcur
      clear hcur
      go_wp2_with fail
      refine (step_s _ m us ad (x + (t : Int) * a) sX sI2 w9 (HMV.out.ext (HX5.out.step HC.out)) hM HSX HFT.out.2.2.2.2.1 HFT.out.2.2.2.2.2 HSI2 (HT.out.ext (HX5.out.step HC.out))).mono ?_
      rintro e w10 ⟨rfl, hx⟩
      have HC10 := hid (HC.out.step hx)
      clear f0 f1 f2 f3 g0 g1 g2 h0 hx
      go_wp2_with fail
      refine (note_any w4.heap.size sI2 0 0 w10 (RG.out.ext HC10.out)).mono ?_
      rintro e w11 ⟨rfl, hw11⟩
      have hn11 : Ext w10 w11 := by rw [hw11]; unfold NoteW; rw [if_pos rfl]; exact (RG.out.ext HC10.out).same
      have HC11 := hid (HC10.out.step hn11)
      clear hw11 hn11
      go_wp2_with fail
      have hcur : Ext W5 w11 := HC11.out
      go_region_held3 (fun W' => W'.cell? ⟨w.heap.size, 0, none⟩ = some (.string sR) ∧ W'.cell? ⟨w.heap.size, 1, none⟩ = some (.string sD) ∧ W'.cell? ⟨w.heap.size, 2, none⟩ = some (.string sI) ∧ W'.cell? ⟨w.heap.size, 3, none⟩ = some (.string sM) ∧ W'.cell? ⟨w.heap.size + 1, 0, none⟩ = some (.int .i64 m) ∧ W'.cell? ⟨w.heap.size + 1, 1, none⟩ = some (.slice (some ⟨ba, oa, none⟩) n cc) ∧ W'.cell? ⟨w.heap.size + 1, 2, none⟩ = some (.slice B n2 d) ∧ W'.cell? ⟨ba, oa + r, none⟩ = some (.int .i64 u))
        (first | exact HS.out _ hcur | exact HS.out _ hcur.drew' | exact HS.out _ (hcur.alloc' _) | exact HS.out _ (hcur.drew'.alloc' _) | exact HS.out _ ((hcur.set' HB2.out.1 _).set' HB2.out.1 _) | go_keep)
        (first
          | (go_at_call 121; refine (itoa_s m sm _ HSM (by have := HM2.out; omega) (by have := HM2.out; omega) (HT.out.ext ?_)).mono ?_; (exact HX5.out.step (by first | exact hcur | exact hcur.drew')); rintro e w12 ⟨rfl, hx⟩; have hcur := Ext.step hcur (by first | exact hx | exact Ext.undrew hx | exact Ext.step ((Ext.rfl' _).alloc' _) hx | exact Ext.step ((Ext.rfl' _).drew'.alloc' _) hx))
          | (go_at_call 89; refine (Calls.at_args ?_ (rec_times_s w4.heap.size D m sD sm sD2 _ (RG.out.ext ?_) ⟨F.out.2.1, HFM.out.1, F.out.2.2.2.2.1⟩ HDs HSM HSD2 (HT.out.ext ?_))).mono ?_; (with_reducible rfl); (first | exact hcur | exact hcur.drew' | exact hcur.alloc' _ | exact hcur.drew'.alloc' _ | exact (hcur.alloc' _).drew'); (exact HX5.out.step (by first | exact hcur | exact hcur.drew')); rintro e w13 ⟨rfl, hx⟩; have hcur := Ext.step hcur (by first | exact hx | exact Ext.undrew hx | exact Ext.step ((Ext.rfl' _).alloc' _) hx | exact Ext.step ((Ext.rfl' _).drew'.alloc' _) hx)))
      all_goals
        have hcur : Ext W5 w13 := (by first | exact hcur | exact hcur.drew')
        have HC := hid hcur
        clear hcur
        go_wp2_with fail
        have hcur : Ext W5 w13 := HC.out
        go_region_held3 (fun W' => W'.cell? ⟨w.heap.size, 0, none⟩ = some (.string sR) ∧ W'.cell? ⟨w.heap.size, 1, none⟩ = some (.string sD) ∧ W'.cell? ⟨w.heap.size, 2, none⟩ = some (.string sI) ∧ W'.cell? ⟨w.heap.size, 3, none⟩ = some (.string sM) ∧ W'.cell? ⟨w.heap.size + 1, 0, none⟩ = some (.int .i64 m) ∧ W'.cell? ⟨w.heap.size + 1, 1, none⟩ = some (.slice (some ⟨ba, oa, none⟩) n cc) ∧ W'.cell? ⟨w.heap.size + 1, 2, none⟩ = some (.slice B n2 d) ∧ W'.cell? ⟨ba, oa + r, none⟩ = some (.int .i64 u))
          (first | exact HS.out _ hcur | exact HS.out _ hcur.drew' | exact HS.out _ (hcur.alloc' _) | exact HS.out _ (hcur.drew'.alloc' _) | exact HS.out _ ((hcur.set' HB2.out.1 _).set' HB2.out.1 _) | go_keep)
          (first
            | (go_at_call 121; refine (itoa_s u su _ HSU (by have := HUU.out; omega) (by have := HUU.out; omega) (HT.out.ext ?_)).mono ?_; (exact HX5.out.step (by first | exact hcur | exact hcur.drew')); rintro e w14 ⟨rfl, hx⟩; have hcur := Ext.step hcur (by first | exact hx | exact Ext.undrew hx | exact Ext.step ((Ext.rfl' _).alloc' _) hx | exact Ext.step ((Ext.rfl' _).drew'.alloc' _) hx))
            | (go_at_call 89; refine (Calls.at_args ?_ (rec_times_s w4.heap.size a u sM su sM2 _ (RG.out.ext ?_) ⟨F.out.2.2.2.1, HFM.out.2, F.out.2.2.2.2.2⟩ HMs HSU HSM2 (HT.out.ext ?_))).mono ?_; (with_reducible rfl); (first | exact hcur | exact hcur.drew' | exact hcur.alloc' _ | exact hcur.drew'.alloc' _ | exact (hcur.alloc' _).drew'); (exact HX5.out.step (by first | exact hcur | exact hcur.drew')); rintro e w15 ⟨rfl, hx⟩; have hcur := Ext.step hcur (by first | exact hx | exact Ext.undrew hx | exact Ext.step ((Ext.rfl' _).alloc' _) hx | exact Ext.step ((Ext.rfl' _).drew'.alloc' _) hx)))
        all_goals
          have hcur : Ext W5 w15 := (by first | exact hcur | exact hcur.drew')
          have c0 : w15.cell? ⟨w4.heap.size, 0, none⟩ = some (.int .i64 0) := (RG.out.ext hcur).cell 0
          obtain ⟨z0, z1, z2, z3, z4, z5, z6, z7⟩ := row_facts4 (R3.out.ext (HX35.out.step hcur))
          have HF : Hid (Ext w ((((w15.setCell ⟨w.heap.size + 1 + 1, 0, none⟩ (.string sR2)).setCell ⟨w.heap.size + 1 + 1, 1, none⟩ (.string sD2)).setCell ⟨w.heap.size + 1 + 1, 2, none⟩ (.string sI2)).setCell ⟨w.heap.size + 1 + 1, 3, none⟩ (.string sM2))) := hid (((((HX5.out.step hcur).set' (by show w.heap.size ≤ w.heap.size + 1 + 1; omega) _).set' (by show w.heap.size ≤ w.heap.size + 1 + 1; omega) _).set' (by show w.heap.size ≤ w.heap.size + 1 + 1; omega) _).set' (by show w.heap.size ≤ w.heap.size + 1 + 1; omega) _)
          clear hcur
          go_wp2
          refine bodyPost_ret (v := .tuple #[.agg #[.string sR2, .string sD2, .string sI2, .string sM2], .int .i64 0]) (by simp [results, Tryz.results95, go_sem, z0, z1, z2, z3]) rfl ⟨t, ?_, HTM.out.1, HTM.out.2, HF.out⟩
          rw [HSR2.out, HSD2.out, HSI2.out, HSM2.out]
end Go.Proofs.YtimokpcopeldfaaGreatDoor
/- word.Rest -/
namespace Go.Proofs.YtimokpcopeldfaaGreatDoor
open Go.RowKit
theorem class_fits {m : Int} {us ad : List Int} (hM : mapP m us ad) {k : Nat} (hk : k ≤ 200) {R D x a u : Int} (h0 : 0 ≤ R) (hRD : R < D) (hD : D.natAbs ≤ 1000 ^ k) (ha : a.natAbs ≤ 1000 ^ k) (hx : ClassB k x) (hu1 : 1 ≤ u) (hu2 : u ≤ 999) :
    (K.fits R ∧ K.fits D ∧ K.fits x ∧ K.fits a ∧ K.fits (D * m) ∧ K.fits (a * u)) ∧ ∀ t : Int, 0 ≤ t → t < m → K.fits t ∧ K.fits (t * D) ∧ K.fits (R + t * D) ∧ K.fits (t * a) ∧ K.fits (x + t * a) ∧ K.fits (stepI m us ad (x + t * a)) := by
  have hm1 := hM.1
  have hm2 := hM.2.1
  have hnx := fun t (h1 : 0 ≤ t) (h2 : t ≤ 11) => hx.next hM h1 h2 ha
  have hx2 : x.natAbs ≤ k * 2000000 * 1000 ^ k := hx
  unfold ClassB at hnx
  have hp : 1 ≤ K.pw (3 * k) := K.pw_pos _
  rw [thousand_pw] at *
  have e1 : (D * m).natAbs ≤ K.pw (3 * k) * 12 := by rw [Int.natAbs_mul]; exact Nat.mul_le_mul hD (by omega)
  have e2 : (a * u).natAbs ≤ K.pw (3 * k) * 999 := by rw [Int.natAbs_mul]; exact Nat.mul_le_mul ha (by omega)
  refine ⟨⟨fits_pw (a := 1) (b := 3 * k) (by omega) (by rw [pw12]; omega) (by omega), fits_pw (a := 1) (b := 3 * k) (by omega) (by rw [pw12]; omega) (by omega), fits_pw (a := k * 2000000) (b := 3 * k) hx2 (by rw [pw12]; omega) (by omega), fits_pw (a := 1) (b := 3 * k) (by omega) (by rw [pw12]; omega) (by omega), fits_pw (a := 12) (b := 3 * k) (by omega) (by rw [pw12]; omega) (by omega), fits_pw (a := 999) (b := 3 * k) (by omega) (by rw [pw12]; omega) (by omega)⟩, fun t h1 h2 => ?_⟩
  have e3 : (t * D).natAbs ≤ 11 * K.pw (3 * k) := by rw [Int.natAbs_mul]; exact Nat.mul_le_mul (by omega) hD
  have e4 : (t * a).natAbs ≤ 11 * K.pw (3 * k) := by rw [Int.natAbs_mul]; exact Nat.mul_le_mul (by omega) ha
  have e5 := hnx t h1 (by omega)
  rw [thousand_pw] at e5
  exact ⟨fits_pw (a := 11) (b := 3 * k) (by omega) (by rw [pw12]; omega) (by omega), fits_pw (a := 11) (b := 3 * k) e3 (by rw [pw12]; omega) (by omega), fits_pw (a := 12) (b := 3 * k) (by omega) (by rw [pw12]; omega) (by omega), fits_pw (a := 11) (b := 3 * k) e4 (by rw [pw12]; omega) (by omega), fits_pw (a := k * 2000000 + 11) (b := 3 * k) e5.1 (by rw [pw12]; omega) (by omega), fits_pw (a := (k + 1) * 2000000) (b := 3 * (k + 1)) e5.2 (by rw [pw12]; omega) (by omega)⟩
theorem narrowed_any (v : Value) (sR sD sI sM : ByteArray) (R D x a m : Int) (r : Int) (us ad : List Int) (w : World) (HRs : Hid (Str (K.txt R) = sR)) (HDs : Hid (Str (K.txt D) = sD)) (HIs : Hid (Str (K.txt x) = sI)) (HMs : Hid (Str (K.txt a) = sM))
    (hmv : MapV w v m us ad) (hM : Hid (mapP m us ad)) (hr0 : 0 ≤ r) (hrm : r < m) (ht : Tab w) (hexi : Hid (∃ t : Nat, (t : Int) < m ∧ (x + (t : Int) * a) % m = r)) {k : Nat} (hk : k ≤ 200) (hB : Hid (0 ≤ R ∧ R < D ∧ D.natAbs ≤ 1000 ^ k ∧ a.natAbs ≤ 1000 ^ k ∧ ClassB k x)) :
    Calls Tryz.prog 95 #[.agg #[.string sR, .string sD, .string sI, .string sM], v, .int .i64 r] w (fun e w' => ∃ t : Nat, e = .returned (.tuple #[.agg #[.string (Str (K.txt (R + (t : Int) * D))), .string (Str (K.txt (D * m))), .string (Str (K.txt (stepI m us ad (x + (t : Int) * a)))), .string (Str (K.txt (a * us.getD r.toNat 0)))], .int .i64 0]) ∧ (t : Int) < m ∧ (x + (t : Int) * a) % m = r ∧ Ext w w') := by
  obtain ⟨u1, u2, a1, a2, l1, l2⟩ := rule_of hM.out hr0 hrm
  have hmv2 := hmv
  obtain ⟨A, n, cc, B, n2, d, rfl, e1, e2, e3, e4, e5, e6, -, -⟩ := hmv
  obtain ⟨ba, oa, eA, -, -⟩ := e5.atI l1
  subst eA
  obtain ⟨q, rfl⟩ : ∃ q : Nat, r = (q : Int) := ⟨r.toNat, by omega⟩
  rw [Int.toNat_natCast] at *
  have hF := class_fits (u := us.getD q 0) hM.out hk hB.out.1 hB.out.2.1 hB.out.2.2.1 hB.out.2.2.2.1 hB.out.2.2.2.2 u1 u2
  exact narrowed_l sR sD sI sM R D x a m _ q ba oa n cc n2 d B us ad w HRs HDs HIs HMs hmv2 hM e5 e1 (by omega) (hid rfl) u1 u2 hrm ht hexi (hid hF.1) (hid hF.2)
def RestNo (c : Int) (w : World) (e : Ending) (w' : World) : Prop := e = .returned (.tuple #[.string ⟨#[]⟩, .string ⟨#[]⟩, .int .i64 c]) ∧ Ext w w'
set_option maxRecDepth 100000 in
set_option maxHeartbeats 1600000 in
theorem wrest_bad (v : Value) (m : Int) (us ad : List Int) (Wd : Option Addr) (wn wc : Nat) (ws : List Int) (w : World) (hv : MapV w v m us ad) (hw : Rd w Wd (Is ws)) (hl : ws.length = wn) (hwb : wn ≤ 140737488351232) {b1 b2 : Bool} (hb1 : Hid (mapB m us ad = b1)) (hb2 : Hid (wordB m ws = b2)) {c : Int} (hc : Hid (c = if b1 = true then (if b2 = true then 0 else 2) else 1)) (hc0 : (c == 0) = false) (hcn : (c != 0) = true) :
    Calls Tryz.prog 44 #[v, .slice Wd wn wc] w (RestNo c w) := by
  have HV := hid hv
  obtain ⟨A, n, cc, B, n2, d, rfl, -⟩ := hv
  have hx : Ext w (w.alloc (.cells #[.int .i64 m, .slice A n cc, .slice B n2 d] 24)) := (Ext.rfl' w).alloc' _
  have hrw : Row (w.alloc (.cells #[.int .i64 m, .slice A n cc, .slice B n2 d] 24)) w.heap.size 24 [.int .i64 m, .slice A n cc, .slice B n2 d] := Row.new w _ _
  obtain ⟨W1, hW1⟩ : ∃ W1, (w.alloc (.cells #[.int .i64 m, .slice A n cc, .slice B n2 d] 24)) = W1 := ⟨_, rfl⟩
  rw [hW1] at hx hrw
  have HX := hid hx
  have HR := hid hrw
  have HW1 := hid hW1
  have HWD := hid hw
  have HL := hid hl
  obtain ⟨f0, f1, f2, -, -, -⟩ := row_facts3 hrw
  clear hW1 hx hrw hw hl
  go_enter Tryz.func44, Tryz.ntmps44
  go_upto_region 1 with fail
  rw [HW1.out]
  go_wp2_with fail
  refine (wcheck_any _ m us ad Wd wn wc ws W1 (HV.out.ext HX.out) (HWD.out.ext HX.out) HL.out hwb hb1 hb2 hc).mono ?_
  rintro e w3 ⟨rfl, hx3⟩
  have HF := hid (HX.out.step hx3)
  clear f0 f1 f2 hx3
  go_wp2
  go_ret3
  exact ⟨rfl, HF.out⟩
set_option maxRecDepth 100000 in
set_option maxHeartbeats 1600000 in
theorem wrest_irr (v : Value) (m : Int) (us ad : List Int) (Wd : Option Addr) (wn wc : Nat) (ws : List Int) (w : World) (hv : MapV w v m us ad) (hw : Rd w Wd (Is ws)) (hl : ws.length = wn) (hwb : wn ≤ 140737488351232) (hM : Hid (mapP m us ad)) (hW : Hid (wordB m ws = true)) (hR : Hid (regB m us = false)) :
    Calls Tryz.prog 44 #[v, .slice Wd wn wc] w (RestNo 2 w) := by
  have HV := hid hv
  obtain ⟨A, n, cc, B, n2, d, rfl, -⟩ := hv
  have hx : Ext w (w.alloc (.cells #[.int .i64 m, .slice A n cc, .slice B n2 d] 24)) := (Ext.rfl' w).alloc' _
  have hrw : Row (w.alloc (.cells #[.int .i64 m, .slice A n cc, .slice B n2 d] 24)) w.heap.size 24 [.int .i64 m, .slice A n cc, .slice B n2 d] := Row.new w _ _
  obtain ⟨W1, hW1⟩ : ∃ W1, (w.alloc (.cells #[.int .i64 m, .slice A n cc, .slice B n2 d] 24)) = W1 := ⟨_, rfl⟩
  rw [hW1] at hx hrw
  have HX := hid hx
  have HR := hid hrw
  have HW1 := hid hW1
  have HWD := hid hw
  have HL := hid hl
  obtain ⟨f0, f1, f2, -, -, -⟩ := row_facts3 hrw
  clear hW1 hx hrw hw hl
  go_enter Tryz.func44, Tryz.ntmps44
  go_upto_region 1 with fail
  rw [HW1.out]
  go_wp2_with fail
  refine (wcheck_any _ m us ad Wd wn wc ws W1 (HV.out.ext HX.out) (HWD.out.ext HX.out) HL.out hwb (hid ((mapB_iff m us ad).2 hM.out)) hW (c := 0) (hid rfl)).mono ?_
  rintro e w3 ⟨rfl, hx3⟩
  have HX3 := hid hx3
  clear f0 f1 f2 hx3
  obtain ⟨f0, f1, f2, -, -, -⟩ := row_facts3 (HR.out.ext HX3.out)
  go_wp2_with fail
  refine (regular_ok _ m us ad w3 (HV.out.ext (HX.out.step HX3.out)) hM).mono ?_
  rintro e w4 ⟨rfl, hx4⟩
  rw [hR.out]
  have HF := hid (HX.out.step (HX3.out.step hx4))
  clear f0 f1 f2 hx4
  go_wp2
  go_ret3
  exact ⟨rfl, HF.out⟩
def RestYes (m : Int) (us ad : List Int) (ws : List Int) (w : World) (e : Ending) (w' : World) : Prop := ∃ R : Int, e = .returned (.tuple #[.string (Str (K.txt R)), .string (Str (K.txt (m ^ ws.length))), .int .i64 0]) ∧ 0 ≤ R ∧ R < m ^ ws.length ∧ IsWord m us ad ws R ∧ Ext w w'
theorem Row.put4 {W : World} {H : Nat} {t : TypeId} {p q r s a b c d : Value} (h : Row W H t [p, q, r, s]) : Row ((((W.setCell ⟨H, 0, none⟩ a).setCell ⟨H, 1, none⟩ b).setCell ⟨H, 2, none⟩ c).setCell ⟨H, 3, none⟩ d) H t [a, b, c, d] :=
  (((h.set 0 a).set 1 b).set 2 c).set 3 d
theorem Row.set4 {W : World} {H g : Nat} {t : TypeId} {vs : List Value} {a b c d : Value} (h : Row W g t vs) (hne : g ≠ H) : Row ((((W.setCell ⟨H, 0, none⟩ a).setCell ⟨H, 1, none⟩ b).setCell ⟨H, 2, none⟩ c).setCell ⟨H, 3, none⟩ d) g t vs :=
  (((h.far (by show g ≠ H; exact hne) _).far (by show g ≠ H; exact hne) _).far (by show g ≠ H; exact hne) _).far (by show g ≠ H; exact hne) _
theorem Ext.set4 {w W : World} {H : Nat} {a b c d : Value} (h : Ext w W) (hH : w.heap.size ≤ H) : Ext w ((((W.setCell ⟨H, 0, none⟩ a).setCell ⟨H, 1, none⟩ b).setCell ⟨H, 2, none⟩ c).setCell ⟨H, 3, none⟩ d) :=
  (((h.set' (by show _ ≤ H; exact hH) _).set' (by show _ ≤ H; exact hH) _).set' (by show _ ≤ H; exact hH) _).set' (by show _ ≤ H; exact hH) _
set_option maxRecDepth 100000 in
set_option maxHeartbeats 6400000 in
theorem wrest_ok (v : Value) (m : Int) (us ad : List Int) (Wd : Option Addr) (wn wc : Nat) (ws : List Int) (w : World) (hv : MapV w v m us ad) (hw : Rd w Wd (Is ws)) (hl : ws.length = wn) (hwb : wn ≤ 140737488351232) (hM : Hid (mapP m us ad)) (hW : Hid (wordB m ws = true)) (hR : Hid (regB m us = true)) (ht : Tab w) :
    Calls Tryz.prog 44 #[v, .slice Wd wn wc] w (RestYes m us ad ws w) := by
  have HT := hid ht
  have HWB := hid (wordB_iff.1 hW.out)
  have hw200 : wn ≤ 200 := by rw [← hl]; exact HWB.out.1
  have HM0 := hid (show 0 < m by have := hM.out.1; omega)
  have HV := hid hv
  obtain ⟨A, n, cc, B, n2, d, rfl, -⟩ := hv
  have hx : Ext w (w.alloc (.cells #[.int .i64 m, .slice A n cc, .slice B n2 d] 24)) := (Ext.rfl' w).alloc' _
  have hrw : Row (w.alloc (.cells #[.int .i64 m, .slice A n cc, .slice B n2 d] 24)) w.heap.size 24 [.int .i64 m, .slice A n cc, .slice B n2 d] := Row.new w _ _
  obtain ⟨W1, hW1⟩ : ∃ W1, (w.alloc (.cells #[.int .i64 m, .slice A n cc, .slice B n2 d] 24)) = W1 := ⟨_, rfl⟩
  rw [hW1] at hx hrw
  have HX := hid hx
  have HR := hid hrw
  have HW1 := hid hW1
  have HWD := hid hw
  have HL := hid hl
  obtain ⟨f0, f1, f2, -, -, -⟩ := row_facts3 hrw
  clear hW1 hx hrw hw hl
  go_enter Tryz.func44, Tryz.ntmps44
  go_upto_region 1 with fail
  rw [HW1.out]
  go_wp2_with fail
  refine (wcheck_any _ m us ad Wd wn wc ws W1 (HV.out.ext HX.out) (HWD.out.ext HX.out) HL.out hwb (hid ((mapB_iff m us ad).2 hM.out)) hW (c := 0) (hid rfl)).mono ?_
  rintro e w2 ⟨rfl, hx2⟩
  have HX2 := hid hx2
  clear f0 f1 f2 hx2
  obtain ⟨f0, f1, f2, -, -, -⟩ := row_facts3 (HR.out.ext HX2.out)
  go_wp2_with fail
  refine (regular_ok _ m us ad w2 (HV.out.ext (HX.out.step HX2.out)) hM).mono ?_
  rintro e w3 ⟨rfl, hx3⟩
  rw [hR.out]
  have HX3 := hid (HX2.out.step hx3)
  clear f0 f1 f2 hx3
  go_wp2_with fail
  refine (every_any w3).mono ?_
  rintro e w4 ⟨rfl, hx4⟩
  have HX4 := hid (HX3.out.step hx4)
  have hx5 : Ext w4 (w4.alloc (.cells #[.string ⟨#[48]⟩, .string ⟨#[49]⟩, .string ⟨#[48]⟩, .string ⟨#[49]⟩] 133)) := (Ext.rfl' w4).alloc' _
  have r5 : Row (w4.alloc (.cells #[.string ⟨#[48]⟩, .string ⟨#[49]⟩, .string ⟨#[48]⟩, .string ⟨#[49]⟩] 133)) w4.heap.size 133 [.string ⟨#[48]⟩, .string ⟨#[49]⟩, .string ⟨#[48]⟩, .string ⟨#[49]⟩] := Row.new w4 _ _
  obtain ⟨W5, hW5⟩ : ∃ W5, (w4.alloc (.cells #[.string ⟨#[48]⟩, .string ⟨#[49]⟩, .string ⟨#[48]⟩, .string ⟨#[49]⟩] 133)) = W5 := ⟨_, rfl⟩
  rw [hW5] at hx5 r5
  have HW5 := hid hW5
  have H5 := hid r5
  have HX5 := hid (HX4.out.step hx5)
  have HSZ : Hid (w.heap.size < w4.heap.size) := hid ((HR.out.ext HX4.out).lt)
  have hsz := HSZ.out
  clear hW5 hx5 r5 hx4
  go_upto_region 8 with fail
  rw [HW5.out]
  go_wp2_with fail
  go_loopw [35] (fun iz wr => ∃ (j : Nat) (R : Int), j ≤ wn ∧ iz = .int .i64 (j : Int) ∧ Row wr w.heap.size 24 [.int .i64 m, .slice A n cc, .slice B n2 d] ∧ Row wr w4.heap.size 133 [.string (Str (K.txt R)), .string (Str (K.txt (m ^ j))), .string (Str (K.txt (orbN m us ad j R))), .string (Str (K.txt (lineI m us ad (ws.take j)).1))] ∧ Hid (0 ≤ R ∧ R < m ^ j ∧ IsWord m us ad (ws.take j) R ∧ ClassB j (orbN m us ad j R)) ∧ Ext w wr) (fun iz _ => wn - (intOf iz).toNat)
  case atStart =>
    refine ⟨0, 0, by omega, rfl, HR.out.ext HX5.out, ?_, hid ⟨Int.le_refl _, by rw [Int.pow_zero]; omega, by rw [List.take_zero]; exact IsWord.nil _ _ _ _, by show (0 : Int).natAbs ≤ _; simp⟩, HX.out.step HX5.out⟩
    rw [List.take_zero, Int.pow_zero]
    show Row _ _ _ [.string (Str (K.txt 0)), .string (Str (K.txt 1)), .string (Str (K.txt 0)), .string (Str (K.txt 1))]
    rw [txt_one, txt_zero2]
    exact H5.out
  case round =>
    obtain ⟨j, R, hj, rfl, hrm, hrc, HINV, hex⟩ := hrel
    have RM := hid hrm
    have EX := hid hex
    by_cases hlt : j < wn
    · obtain ⟨b3, o3, e3, -, hc3⟩ := (HWD.out.ext hex).atI (k := j) (by rw [HL.out]; exact hlt)
      subst e3
      have hjn : (j : Int) < (wn : Int) := by omega
      obtain ⟨r, hr⟩ : ∃ r, ws.getD j 0 = r := ⟨_, rfl⟩
      rw [hr] at hc3
      have HRR : Hid (0 ≤ r ∧ r < m) := hid (HWB.out.2 r (by rw [← hr, List.getD_eq_getElem?_getD, List.getElem?_eq_getElem (by rw [HL.out]; exact hlt)]; exact List.getElem_mem _))
      have htk : ws.take (j + 1) = ws.take j ++ [r] := by rw [take_succ_I (by rw [HL.out]; exact hlt), hr]
      have hlen : (ws.take j).length = j := by rw [List.length_take, HL.out]; omega
      have hmem : ∀ x ∈ ws.take j, 0 ≤ x ∧ x < m := fun x hx => HWB.out.2 x (List.mem_of_mem_take hx)
      have hLB := lineI_B hM.out (ws.take j) hmem
      have hdv := lineI_div m us ad (ws.take j)
      have hcop := line_cop hM.out hR.out (ws.take j) hmem
      rw [hlen] at hLB hdv
      obtain ⟨a, ha⟩ : ∃ a, (lineI m us ad (ws.take j)).1 = a := ⟨_, rfl⟩
      obtain ⟨x, hx⟩ : ∃ x, orbN m us ad j R = x := ⟨_, rfl⟩
      obtain ⟨D, hD⟩ : ∃ D, m ^ j = D := ⟨_, rfl⟩
      rw [ha] at hcop
      have HEXI : Hid (∃ t : Nat, (t : Int) < m ∧ (x + (t : Int) * a) % m = r) := hid (sol_int hM.out.1 hM.out.2.1 (by omega) hcop.1 HRR.out.1 HRR.out.2)
      have HB : Hid (0 ≤ R ∧ R < D ∧ D.natAbs ≤ 1000 ^ j ∧ a.natAbs ≤ 1000 ^ j ∧ ClassB j x) := hid ⟨HINV.out.1, by rw [← hD]; exact HINV.out.2.1, by rw [← hD, ← hdv]; exact hLB.2.1, by rw [← ha]; exact hLB.1, by rw [← hx]; exact HINV.out.2.2.2⟩
      have HNEXT : Hid (∀ t : Nat, (t : Int) < m → (x + (t : Int) * a) % m = r → IsWord m us ad (ws.take (j + 1)) (R + (t : Int) * D) ∧ orbN m us ad (j + 1) (R + (t : Int) * D) = stepI m us ad (x + (t : Int) * a) ∧ 0 ≤ R + (t : Int) * D ∧ R + (t : Int) * D < m ^ (j + 1) ∧ ClassB (j + 1) (stepI m us ad (x + (t : Int) * a)) ∧ m ^ (j + 1) = D * m ∧ (lineI m us ad (ws.take (j + 1))).1 = a * us.getD r.toNat 0) := hid (fun t h1 h2 => by
        have hn := IsWord.next (t := (t : Int)) (r := r) HM0.out HINV.out.2.2.1 (by rw [hlen, hx, ha]; exact h2)
        rw [hlen, hx, ha, hD] at hn
        have hDp : 0 < D := by rw [← hD]; exact Int.pow_pos HM0.out
        have htD : (t : Int) * D ≤ (m - 1) * D := Int.mul_le_mul_of_nonneg_right (by omega) (by omega)
        have hmD : m ^ (j + 1) = D * m := by rw [Int.pow_succ, hD]
        have hmD2 : D * m = (m - 1) * D + D := by rw [Int.sub_mul, Int.one_mul, Int.mul_comm]; omega
        have htp : 0 ≤ (t : Int) * D := Int.mul_nonneg (by omega) (by omega)
        have hB1 := HB.out.1
        have hB2 := HB.out.2.1
        refine ⟨by rw [htk]; exact hn.1, ?_, by omega, by rw [hmD, hmD2]; omega, (HB.out.2.2.2.2.next hM.out (by omega) (by have := hM.out.2.1; omega) HB.out.2.2.2.1).2, hmD, ?_⟩
        · rw [orbN, hn.2]
        · rw [htk, lineI_snoc]
          show us.getD r.toNat 0 * (lineI m us ad (ws.take j)).1 = _
          rw [ha, Int.mul_comm])
      rw [hx, hD, ha] at hrc
      obtain ⟨sR, hsR⟩ : ∃ sR, Str (K.txt R) = sR := ⟨_, rfl⟩
      obtain ⟨sD, hsD⟩ : ∃ sD, Str (K.txt D) = sD := ⟨_, rfl⟩
      obtain ⟨sI, hsI⟩ : ∃ sI, Str (K.txt x) = sI := ⟨_, rfl⟩
      obtain ⟨sM, hsM⟩ : ∃ sM, Str (K.txt a) = sM := ⟨_, rfl⟩
      rw [hsR, hsD, hsI, hsM] at hrc
      have RC := hid hrc
      have HRs := hid hsR
      have HDs := hid hsD
      have HIs := hid hsI
      have HMs := hid hsM
      obtain ⟨f0, f1, f2, -, -, -⟩ := row_facts3 hrm
      obtain ⟨g0, g1, g2, g3, -, -, -, -⟩ := row_facts4 hrc
      clear hr htk hlen hmem hLB hdv hcop ha hx hD hsR hsD hsI hsM hrm hrc hex
      go_wp2_with fail
      refine (narrowed_any _ sR sD sI sM R D x a m r us ad wr HRs HDs HIs HMs (HV.out.ext EX.out) hM HRR.out.1 HRR.out.2 (HT.out.ext EX.out) HEXI (k := j) (by omega) HB).mono ?_
      rintro e w7 ⟨t, rfl, htm, hts, hx7⟩
      have HN := hid (HNEXT.out t htm hts)
      obtain ⟨tR, htR⟩ : ∃ tR, Str (K.txt (R + (t : Int) * D)) = tR := ⟨_, rfl⟩
      obtain ⟨tD, htD⟩ : ∃ tD, Str (K.txt (D * m)) = tD := ⟨_, rfl⟩
      obtain ⟨tI, htI⟩ : ∃ tI, Str (K.txt (stepI m us ad (x + (t : Int) * a))) = tI := ⟨_, rfl⟩
      obtain ⟨tM, htM⟩ : ∃ tM, Str (K.txt (a * us.getD r.toNat 0)) = tM := ⟨_, rfl⟩
      rw [htR, htD, htI, htM]
      have hx8 : Ext w7 (w7.alloc (.cells #[.string tR, .string tD, .string tI, .string tM] 133)) := (Ext.rfl' w7).alloc' _
      have r8 : Row (w7.alloc (.cells #[.string tR, .string tD, .string tI, .string tM] 133)) w7.heap.size 133 [.string tR, .string tD, .string tI, .string tM] := Row.new w7 _ _
      obtain ⟨w8, hw8⟩ : ∃ w8, (w7.alloc (.cells #[.string tR, .string tD, .string tI, .string tM] 133)) = w8 := ⟨_, rfl⟩
      rw [hw8] at hx8 r8
      have HW8 := hid hw8
      have HX8 := hid (hx7.step hx8)
      have R8 := hid r8
      have HFIN : Hid (∃ (j' : Nat) (R' : Int), j' ≤ wn ∧ Value.int .i64 ((j : Int) + 1) = .int .i64 (j' : Int) ∧ Row ((((w8.setCell ⟨w4.heap.size, 0, none⟩ (.string tR)).setCell ⟨w4.heap.size, 1, none⟩ (.string tD)).setCell ⟨w4.heap.size, 2, none⟩ (.string tI)).setCell ⟨w4.heap.size, 3, none⟩ (.string tM)) w.heap.size 24 [.int .i64 m, .slice A n cc, .slice B n2 d] ∧ Row ((((w8.setCell ⟨w4.heap.size, 0, none⟩ (.string tR)).setCell ⟨w4.heap.size, 1, none⟩ (.string tD)).setCell ⟨w4.heap.size, 2, none⟩ (.string tI)).setCell ⟨w4.heap.size, 3, none⟩ (.string tM)) w4.heap.size 133 [.string (Str (K.txt R')), .string (Str (K.txt (m ^ j'))), .string (Str (K.txt (orbN m us ad j' R'))), .string (Str (K.txt (lineI m us ad (ws.take j')).1))] ∧ Hid (0 ≤ R' ∧ R' < m ^ j' ∧ IsWord m us ad (ws.take j') R' ∧ ClassB j' (orbN m us ad j' R')) ∧ Ext w ((((w8.setCell ⟨w4.heap.size, 0, none⟩ (.string tR)).setCell ⟨w4.heap.size, 1, none⟩ (.string tD)).setCell ⟨w4.heap.size, 2, none⟩ (.string tI)).setCell ⟨w4.heap.size, 3, none⟩ (.string tM))) := hid (by
        refine ⟨j + 1, R + (t : Int) * D, by omega, by simp, (RM.out.ext HX8.out).set4 (by omega), ?_, hid ⟨HN.out.2.2.1, HN.out.2.2.2.1, HN.out.1, by rw [HN.out.2.1]; exact HN.out.2.2.2.2.1⟩, (EX.out.step HX8.out).set4 (by omega)⟩
        rw [HN.out.2.1, HN.out.2.2.2.2.2.1, HN.out.2.2.2.2.2.2, htR, htD, htI, htM]
        exact (RC.out.ext HX8.out).put4)
      clear f0 f1 f2 g0 g1 g2 g3 hx7 hx8 r8 hw8 htR htD htI htM htm hts
      obtain ⟨g0, g1, g2, g3, g4, g5, g6, g7⟩ := row_facts4 (RC.out.ext HX8.out)
      obtain ⟨t0, t1, t2, t3, -, -, -, -⟩ := row_facts4 R8.out
      go_upto_region 12 with fail
      rw [HW8.out]
      go_wp2
      go_roundw
      case rel => exact HFIN.out
      case measure => first | (simp [intOf]; done) | (simp [intOf]; omega)
    · obtain rfl : j = wn := by omega
      have htk : ws.take j = ws := List.take_of_length_le (by rw [HL.out]; exact Nat.le_refl _)
      have HF : Hid (∀ w', Ext wr w' → RestYes m us ad ws w (.returned (.tuple #[.string (Str (K.txt R)), .string (Str (K.txt (m ^ j))), .int .i64 0])) w') := hid (fun w' e => ⟨R, by rw [HL.out], HINV.out.1, by rw [HL.out]; exact HINV.out.2.1, by have := HINV.out.2.2.1; rwa [htk] at this, EX.out.step e⟩)
      obtain ⟨D, hD⟩ : ∃ D, m ^ j = D := ⟨_, rfl⟩
      rw [hD] at hrc HF
      obtain ⟨g0, g1, g2, g3, -, -, -, -⟩ := row_facts4 hrc
      clear hrm hrc hex htk hD
      go_wp2_with fail
      first | (go_quiet (fail)) | (go_region)
      all_goals
        go_wp2
        go_ret3
        exact HF.out _ (by first | exact Ext.rfl' _ | exact (Ext.rfl' _).drew' | exact (Ext.rfl' _).drewN _)
end Go.Proofs.YtimokpcopeldfaaGreatDoor
