/- Joined texts: step.Orbit in the forms that the laws use; (number).power: the walk; Power and Rest, by contract; step.Orbit and step.Falls where the arguments are not valid; word.rests, word.Word; word.class: everyNumber, first, narrowed; word.class.narrowed. -/
import Derived.Test.YtlfbgemceeibiaaGreatDoorJG15
import Derived.Test.YtlfbgemceeibiaaGreatDoorJG13
import Derived.Test.YtlfbgemceeibiaaGreatDoorJG05
import Derived.Test.YtlfbgemceeibiaaGreatDoorJG12
import Derived.Test.YtlfbgemceeibiaaGreatDoorJG11
set_option linter.unusedSimpArgs false
set_option linter.unusedVariables false
/- step.Orbit in the forms that the laws use -/
namespace Go.Proofs.YtlfbgemceeibiaaGreatDoor
open Go.RowKit
theorem rd_at {W : World} {b o j : Nat} {vs : List Value} {u : Value} (h : Rd W (some ⟨b, o, none⟩) vs) (hu : vs[j]? = some u) : W.cell? ⟨b, o + j, none⟩ = some u := by
  rcases h with h | ⟨b2, o2, e, -, hc⟩
  · subst h; simp at hu
  · cases e; exact hc j u hu
theorem orbit_no (v : Value) (m : Int) (us ad : List Int) (l : List UInt8) (k : Nat) (w : World) (hv : MapV w v m us ad) (hM : Hid (mapP m us ad)) (hl : Hid (K.validL l = true)) (hk : k ≤ 1000) (ht : Tab w) (hn : Hid (none ∈ seqO m us ad k (K.numL l))) :
    Calls Tryz.prog 66 #[v, .string (Str l), .int .i64 (k : Int)] w (fun e w' => e = .returned (.tuple #[.slice none 0 0, .int .i64 3]) ∧ Ext w w') := by
  refine (orbit_ok v m us ad l k w hv hM hl hk ht).mono ?_
  rintro e w' ⟨-, h2, h3⟩
  exact ⟨h2 hn.out, h3⟩
theorem orbit_code (v : Value) (m : Int) (us ad : List Int) (l : List UInt8) (k : Nat) (w : World) (hv : MapV w v m us ad) (hM : Hid (mapP m us ad)) (hl : Hid (K.validL l = true)) (hk : k ≤ 1000) (ht : Tab w) :
    Calls Tryz.prog 66 #[v, .string (Str l), .int .i64 (k : Int)] w (fun e w' => ∃ P q c f, e = .returned (.tuple #[.slice P q c, .int .i64 f]) ∧ (f = 0 ∨ f = 3) ∧ Ext w w') := by
  refine (orbit_ok v m us ad l k w hv hM hl hk ht).mono ?_
  rintro e w' ⟨h1, h2, h3⟩
  by_cases hn : none ∈ seqO m us ad k (K.numL l)
  · exact ⟨none, 0, 0, 3, h2 hn, .inr rfl, h3⟩
  · obtain ⟨A, q, c, he, -⟩ := h1 hn
    exact ⟨A, q, c, 0, he, .inl rfl, h3⟩
theorem item_orb {m x : Int} {us ad : List Int} {k : Nat} (hn : none ∉ seqO m us ad k x) (hx : K.fits x) (j : Nat) (hj : j < k + 1) :
    ∃ t : List UInt8, strO (some (orbN m us ad j x)) = Str t ∧ K.validL t = true ∧ K.numL t = orbN m us ad j x ∧ (orbN m us ad j x).natAbs ≤ BIG ∧ (some x :: seqO m us ad k x)[j]? = some (some (orbN m us ad j x)) := by
  obtain ⟨t, z, h1, h2, h3, h4, h5⟩ := item_at hn hx j hj
  have h6 := seq_orb0 hn j hj
  rw [h5] at h6
  obtain rfl : z = orbN m us ad j x := by simpa using h6
  exact ⟨t, h1, h2, h3, h4, h5⟩
end Go.Proofs.YtlfbgemceeibiaaGreatDoor
/- (number).power: the walk -/
namespace Go.Proofs.YtlfbgemceeibiaaGreatDoor
open Go.RowKit
theorem bitLen_le : ∀ (k x : Nat), x < 2 ^ k → k ≤ 60 → x < 2 ^ Lib.bitLen x ∧ Lib.bitLen x ≤ k
  | 0, x, h, _ => by
    have : x = 0 := by simpa using h
    subst this
    exact ⟨by decide, by decide⟩
  | k + 1, x, h, hk => by
    by_cases h0 : x = 0
    · subst h0
      exact ⟨by decide, Nat.le_trans (show Lib.bitLen 0 ≤ 0 by decide) (Nat.zero_le _)⟩
    · have h64 : x < 2 ^ 64 := Nat.lt_of_lt_of_le h (Nat.pow_le_pow_right (by omega) (by omega))
      have ih := bitLen_le k (x / 2) (by rw [Nat.pow_succ] at h; omega) (by omega)
      rw [Lib.bitLen_half x h0 h64, Nat.add_comm, Nat.pow_succ]
      omega
theorem bitLen_lt (n : Nat) (hn : n ≤ 10000) : n < 2 ^ Lib.bitLen n ∧ Lib.bitLen n ≤ 14 := bitLen_le 14 n (by omega) (by omega)
end Go.Proofs.YtlfbgemceeibiaaGreatDoor
/- Power and Rest, by contract -/
namespace Go.Proofs.YtlfbgemceeibiaaGreatDoor
open Go.RowKit
set_option maxRecDepth 100000 in
set_option maxHeartbeats 800000 in
theorem rest_ok (l : List UInt8) (d : Nat) (w : World) (h1 : l.length ≤ 140737488351232) (v1 : K.validL l = true) (hd : 1 ≤ d) (hd2 : d ≤ 2147483647) :
    Calls Tryz.prog 103 #[.string (Str l), .int .i64 (d : Int)] w (fun e w' => e = .returned (.tuple #[.int .i64 (K.numL l % d), .int .i64 0]) ∧ Ext w w') := by
  have g1 := fits_big (K.txt_numL l v1).2
  go_enter Tryz.func103, Tryz.ntmps103
  go_wp2_with fail
  refine (read_ok l w h1 v1).mono ?_
  rintro e w1 ⟨⟨y1, rfl, ⟨z1, b1, rfl, hb1, hz1⟩⟩, hx1⟩
  obtain ⟨A1, k1, c1, rfl⟩ := hz1.slice
  have hE : Ext w1 (w1.alloc (.cells #[.bool b1, .slice A1 k1 c1] 164)) := (Ext.rfl' w1).alloc' _
  have n1 := (NumV.mk' hb1 hz1).ext hE
  have hE2 := hx1.step hE
  clear hb1 hz1 hx1 hE
  go_wp2_with fail
  refine (nrest_any _ _ d _ n1 g1 (by omega) (by omega)).mono ?_
  rintro e w2 ⟨rfl, hx2⟩
  have hr0 : 0 ≤ K.numL l % (d : Int) := Int.emod_nonneg _ (by omega)
  have hr1 : K.numL l % (d : Int) < d := Int.emod_lt_of_pos _ (by omega)
  obtain ⟨r, hsg⟩ : ∃ r, K.numL l % (d : Int) = r := ⟨_, rfl⟩
  rw [hsg] at hr0 hr1 ⊢
  have HSG := hid hsg
  clear hsg
  go_wp2
  go_ret2
  exact ⟨by rw [HSG.out]; rfl, hE2.step hx2⟩
set_option maxRecDepth 100000 in
set_option maxHeartbeats 800000 in
theorem rest_form (l : List UInt8) (n : Int) (w : World) (h1 : l.length ≤ 140737488351232) (v1 : K.validL l = false) :
    Calls Tryz.prog 103 #[.string (Str l), .int .i64 n] w (fun e w' => e = .returned (.tuple #[.int .i64 0, .int .i64 1]) ∧ Ext w w') := by
  go_enter Tryz.func103, Tryz.ntmps103
  go_wp2_with fail
  refine (read_bad l w h1 v1).mono ?_
  rintro e w1 ⟨rfl, hx1⟩
  go_wp2
  go_ret2
  exact ⟨rfl, hx1.alloc' _⟩
set_option maxRecDepth 100000 in
set_option maxHeartbeats 800000 in
theorem rest_arg (l : List UInt8) (n : Int) (w : World) (h1 : l.length ≤ 140737488351232) (v1 : K.validL l = true) (hn : n < 1 ∨ 2147483647 < n) :
    Calls Tryz.prog 103 #[.string (Str l), .int .i64 n] w (fun e w' => e = .returned (.tuple #[.int .i64 0, .int .i64 2]) ∧ Ext w w') := by
  go_enter Tryz.func103, Tryz.ntmps103
  go_wp2_with fail
  refine (read_ok l w h1 v1).mono ?_
  rintro e w1 ⟨⟨y1, rfl, ⟨z1, b1, rfl, hb1, hz1⟩⟩, hx1⟩
  obtain ⟨A1, k1, c1, rfl⟩ := hz1.slice
  by_cases h : n < 1
  · clear hn
    go_wp2
    go_ret2
    exact ⟨rfl, hx1.alloc' _⟩
  · have hn2 : 2147483647 < n := by omega
    clear hn
    go_wp2
    go_ret2
    exact ⟨rfl, hx1.alloc' _⟩
end Go.Proofs.YtlfbgemceeibiaaGreatDoor
/- step.Orbit and step.Falls where the arguments are not valid -/
namespace Go.Proofs.YtlfbgemceeibiaaGreatDoor
open Go.RowKit
set_option maxRecDepth 100000 in
set_option maxHeartbeats 1600000 in
theorem orbit_bad (v : Value) (m : Int) (us ad : List Int) (l : List UInt8) (k : Int) (w : World) (hv : MapV w v m us ad) (hlen : l.length ≤ 140737488351232) {b1 b2 : Bool} (hb1 : Hid (mapB m us ad = b1)) (hb2 : Hid (K.validL l = b2))
    {c : Int} (hc : Hid (c = if b1 = true ∧ b2 = true then (if k < 0 ∨ 1000 < k then 2 else 0) else 1)) (hc0 : (c == 0) = false) :
    Calls Tryz.prog 66 #[v, .string (Str l), .int .i64 k] w (fun e w' => e = .returned (.tuple #[.slice none 0 0, .int .i64 c]) ∧ Ext w w') := by
  have HV := hid hv
  obtain ⟨A, n, cc, B, n2, d, rfl, -⟩ := hv
  have hx : Ext w (((w.alloc (.cells #[.int .i64 m, .slice A n cc, .slice B n2 d] 24)).alloc (.cells #[.slice none 0 0] 86)).alloc (.cells #[.int .i64 0] 26)) := (((Ext.rfl' w).alloc' _).alloc' _).alloc' _
  have h0 : Row (((w.alloc (.cells #[.int .i64 m, .slice A n cc, .slice B n2 d] 24)).alloc (.cells #[.slice none 0 0] 86)).alloc (.cells #[.int .i64 0] 26)) (w.heap.size) 24 [.int .i64 m, .slice A n cc, .slice B n2 d] := by
    have := ((Row.new w 24 [.int .i64 m, .slice A n cc, .slice B n2 d]).alloc (.cells #[.slice none 0 0] 86)).alloc (.cells #[.int .i64 0] 26)
    exact this
  have h1 : Row (((w.alloc (.cells #[.int .i64 m, .slice A n cc, .slice B n2 d] 24)).alloc (.cells #[.slice none 0 0] 86)).alloc (.cells #[.int .i64 0] 26)) (w.heap.size + 1) 86 [.slice none 0 0] := by
    have := (Row.new (w.alloc (.cells #[.int .i64 m, .slice A n cc, .slice B n2 d] 24)) 86 [.slice none 0 0]).alloc (.cells #[.int .i64 0] 26)
    rwa [World.size_alloc] at this
  have h2 : Row (((w.alloc (.cells #[.int .i64 m, .slice A n cc, .slice B n2 d] 24)).alloc (.cells #[.slice none 0 0] 86)).alloc (.cells #[.int .i64 0] 26)) (w.heap.size + 1 + 1) 26 [.int .i64 0] := by
    have := Row.new ((w.alloc (.cells #[.int .i64 m, .slice A n cc, .slice B n2 d] 24)).alloc (.cells #[.slice none 0 0] 86)) 26 [.int .i64 0]
    rwa [World.size_alloc, World.size_alloc] at this
  obtain ⟨W0, hW0⟩ : ∃ W0, (((w.alloc (.cells #[.int .i64 m, .slice A n cc, .slice B n2 d] 24)).alloc (.cells #[.slice none 0 0] 86)).alloc (.cells #[.int .i64 0] 26)) = W0 := ⟨_, rfl⟩
  rw [hW0] at hx h0 h1 h2
  have HW0 := hid hW0
  have HX := hid hx
  have R0 := hid h0
  have R1 := hid h1
  have R2 := hid h2
  obtain ⟨f0, f1, f2, -, -, -⟩ := row_facts3 h0
  clear hW0 hx h0 h1 h2
  have hcn : (c != 0) = true := by rw [bne_iff_ne]; exact beq_eq_false_iff_ne.1 hc0
  go_enter Tryz.func66, Tryz.ntmps66
  go_upto_region 1 with fail
  rw [HW0.out]
  go_wp2_with fail
  refine (check_any _ m us ad l k 0 1000 W0 (HV.out.ext HX.out) hlen hb1 hb2 hc).mono ?_
  rintro e w4 ⟨rfl, hx4⟩
  have HX4 := hid (HX.out.step hx4)
  have q1 := R1.out.ext hx4
  have q2 := R2.out.ext hx4
  have c1 : w4.cell? ⟨w.heap.size + 1, 0, none⟩ = some _ := q1.cell 0
  have g1 := q1.free 0
  have c2 : w4.cell? ⟨w.heap.size + 1 + 1, 0, none⟩ = some _ := q2.cell 0
  have g2 := q2.free 0
  clear f0 f1 f2  q1 q2 hx4
  have HF : Hid (Ext w ((w4.setCell ⟨w.heap.size + 1, 0, none⟩ (.slice none 0 0)).setCell ⟨w.heap.size + 1 + 1, 0, none⟩ (.int .i64 c))) := hid ((HX4.out.set' (p := ⟨w.heap.size + 1, 0, none⟩) (by show w.heap.size ≤ w.heap.size + 1; omega) (.slice none 0 0)).set' (p := ⟨w.heap.size + 1 + 1, 0, none⟩) (by show w.heap.size ≤ w.heap.size + 1 + 1; omega) (.int .i64 c))
  go_wp2
  refine bodyPost_ret (v := .tuple #[.slice none 0 0, .int .i64 c]) (by simp [results, Tryz.results66, go_sem, c1, c2]) rfl ⟨rfl, HF.out⟩
end Go.Proofs.YtlfbgemceeibiaaGreatDoor
/- word.rests, word.Word -/
namespace Go.Proofs.YtlfbgemceeibiaaGreatDoor
open Go.RowKit
/-- the word of a number -/
def wordI (m : Int) (us ad : List Int) (k : Nat) (x : Int) : List Int := (List.range k).map fun i => orbN m us ad i x % m
/-- what is written after j rounds -/
def partL (f : Nat → Int) (k j : Nat) : List Int := (List.range k).map fun i => if i < j then f i else 0
theorem partL_len (f : Nat → Int) (k j : Nat) : (partL f k j).length = k := by simp [partL]
theorem partL_zero (f : Nat → Int) (k : Nat) : Is (partL f k 0) = List.replicate k (.int .i64 0) := by
  apply List.ext_getElem
  · simp [partL]
  · intro i h1 h2
    simp [partL]
theorem partL_full (f : Nat → Int) (k : Nat) : partL f k k = (List.range k).map f := by
  unfold partL
  apply List.map_congr_left
  intro i hi
  rw [if_pos (List.mem_range.1 hi)]
theorem partL_set (f : Nat → Int) (k j : Nat) (hj : j < k) : (Is (partL f k j)).set j (.int .i64 (f j)) = Is (partL f k (j + 1)) := by
  apply List.ext_getElem
  · simp [partL]
  · intro i h1 h2
    rw [List.getElem_set]
    by_cases e : j = i
    · subst e; simp [partL]
    · rw [if_neg e]
      simp only [partL, List.map_map, List.getElem_map, List.getElem_range, Function.comp_apply]
      by_cases h3 : i < j
      · rw [if_pos h3, if_pos (by omega)]
      · rw [if_neg h3, if_neg (by omega)]
set_option maxRecDepth 100000 in
set_option maxHeartbeats 3200000 in
theorem rests_ok (b0 o0 k c : Nat) (m : Int) (L : List (Option Int)) (z : Nat → Int) (w : World) (hr : Rd w (some ⟨b0, o0, none⟩) (Txs L)) (hL : Hid (∀ j, j < k → L[j]? = some (some (z j)) ∧ K.fits (z j))) (hk : k ≤ 201) (hkc : k ≤ c) (hm : 1 ≤ m) (hm2 : m ≤ 2147483647) :
    Calls Tryz.prog 67 #[.slice (some ⟨b0, o0, none⟩) k c, .int .i64 m] w (fun e w' => ∃ g, e = .returned (.tuple #[.slice (some ⟨g, 0, none⟩) k k, .int .i64 0]) ∧ Row w' g 3 (Is ((List.range k).map fun i => z i % m)) ∧ w.heap.size ≤ g ∧ Ext w w') := by
  obtain ⟨dm, rfl⟩ : ∃ dm : Nat, m = (dm : Int) := ⟨m.toNat, by omega⟩
  have hmade := Row.made w 3 (.int .i64 0) k
  have hxm : Ext w (w.alloc (.cells (madeCells #[.int .i64 0] k) 3)) := (Ext.rfl' w).alloc' _
  obtain ⟨W1, hW1⟩ : ∃ W1, (w.alloc (.cells (madeCells #[.int .i64 0] k) 3)) = W1 := ⟨_, rfl⟩
  rw [hW1] at hmade hxm
  rw [← partL_zero (fun i => z i % (dm : Int)) k] at hmade
  have HW1 := hid hW1
  have HM := hid hmade
  have HXM := hid hxm
  have HRD := hid hr
  have hk63 : k ≤ 9223372036854775807 := by omega
  have hmk := fun w => mkInts k (k : Int) rfl (by omega) w
  have hkb : (k : Int) * 8 ≤ 281474976710656 := by omega
  have hk0 : (0 : Int) ≤ (k : Int) := by omega
  clear hW1 hmade hxm hr
  go_enter Tryz.func67, Tryz.ntmps67
  go_upto_region 2 with fail
  rw [HW1.out]
  clear hmk
  go_wp2_with fail
  go_loopw [16] (fun iz wr => ∃ j : Nat, j ≤ k ∧ iz = .int .i64 (j : Int) ∧ Row wr w.heap.size 3 (Is (partL (fun i => z i % (dm : Int)) k j)) ∧ Ext w wr) (fun iz _ => k - (intOf iz).toNat)
  case atStart => exact ⟨0, by omega, rfl, HM.out, HXM.out⟩
  case round =>
    obtain ⟨j, hj, rfl, hrow, hex⟩ := hrel
    have HROW := hid hrow
    have HEX := hid hex
    clear hrow hex
    by_cases hlt : j < k
    · obtain ⟨hz1, hz2⟩ := hL.out j hlt
      obtain ⟨t, ht⟩ : ∃ t, K.txt (z j) = t := ⟨_, rfl⟩
      have hvt : K.validL t = true := by rw [← ht]; exact K.valid_txt _ hz2
      have hnt : K.numL t = z j := by rw [← ht]; exact K.numL_txt _
      have hst : strO (some (z j)) = Str t := by show Str (K.txt (z j)) = _; rw [ht]
      have hc1 : wr.cell? ⟨b0, o0 + j, none⟩ = some (.string (Str t)) := cell_item (HRD.out.ext HEX.out) hz1 hst
      have hjk : (j : Int) < (k : Int) := by omega
      have hj0 : (0 : Int) ≤ (j : Int) := by omega
      have HVT := hid hvt
      have HNT := hid hnt
      clear hz1 hz2 ht hvt hnt hst
      go_wp2_with fail
      refine (rest_ok t dm wr (len_of (valid_len HVT.out)) HVT.out (by omega) (by omega)).mono ?_
      rintro e w5 ⟨rfl, hx5⟩
      rw [HNT.out]
      have hrow5 := HROW.out.ext hx5
      have hcj : w5.cell? ⟨w.heap.size, j, none⟩ = some (.int .i64 ((partL (fun i => z i % (dm : Int)) k j).getD j 0)) := by
        rw [hrow5.cell, List.getElem?_map, List.getElem?_eq_getElem (by rw [partL_len]; exact hlt), List.getD_eq_getElem?_getD, List.getElem?_eq_getElem (by rw [partL_len]; exact hlt)]; rfl
      have hfj := hrow5.free j
      have HNR : Hid (Row (w5.setCell ⟨w.heap.size, j, none⟩ (.int .i64 (z j % (dm : Int)))) w.heap.size 3 (Is (partL (fun i => z i % (dm : Int)) k (j + 1)))) := hid (by
        have h := hrow5.set j (.int .i64 (z j % (dm : Int)))
        rwa [partL_set (fun i => z i % (dm : Int)) k j hlt] at h)
      have HNE := hid ((HEX.out.step hx5).set' (p := ⟨w.heap.size, j, none⟩) (Nat.le_refl _) (.int .i64 (z j % (dm : Int))))
      clear hc1 hx5 hrow5
      go_wp2
      go_roundw
      case rel => exact ⟨j + 1, by omega, by simp, HNR.out, HNE.out⟩
      case measure => first | (simp [intOf]; done) | (simp [intOf]; omega)
    · obtain rfl : k = j := by omega
      have HF : Hid (Row wr w.heap.size 3 (Is ((List.range k).map fun i => z i % (dm : Int)))) := hid (by rw [← partL_full]; exact HROW.out)
      go_wp2
      go_ret2
      exact ⟨_, rfl, HF.out, Nat.le_refl _, HEX.out⟩
set_option maxRecDepth 100000 in
set_option maxHeartbeats 1600000 in
theorem word_form1 (v : Value) (m : Int) (us ad : List Int) (l : List UInt8) (k : Int) (w : World) (hv : MapV w v m us ad) (hlen : l.length ≤ 140737488351232) (hb1 : Hid (mapB m us ad = false)) :
    Calls Tryz.prog 15 #[v, .string (Str l), .int .i64 k] w (fun e w' => e = .returned (.tuple #[.slice none 0 0, .int .i64 1]) ∧ Ext w w') := by
  have HV := hid hv
  obtain ⟨A, n, cc, B, n2, d, rfl, -⟩ := hv
  have hx : Ext w (w.alloc (.cells #[.int .i64 m, .slice A n cc, .slice B n2 d] 24)) := (Ext.rfl' w).alloc' _
  have hrw : Row (w.alloc (.cells #[.int .i64 m, .slice A n cc, .slice B n2 d] 24)) w.heap.size 24 [.int .i64 m, .slice A n cc, .slice B n2 d] := Row.new w _ _
  obtain ⟨W1, hW1⟩ : ∃ W1, (w.alloc (.cells #[.int .i64 m, .slice A n cc, .slice B n2 d] 24)) = W1 := ⟨_, rfl⟩
  rw [hW1] at hx hrw
  have HX := hid hx
  have HR := hid hrw
  have HW1 := hid hW1
  obtain ⟨f0, f1, f2, -, -, -⟩ := row_facts3 hrw
  clear hW1 hx hrw
  go_enter Tryz.func15, Tryz.ntmps15
  go_upto_region 1 with fail
  rw [HW1.out]
  go_wp2_with fail
  refine (stepvalid_any _ m us ad W1 (HV.out.ext HX.out) hb1).mono ?_
  rintro e w2 ⟨rfl, hx2⟩
  have HX2 := hid hx2
  clear f0 f1 f2 hx2
  obtain ⟨f0, f1, f2, -, -, -⟩ := row_facts3 (HR.out.ext HX2.out)
  have HF := hid (HX.out.step HX2.out)
  clear f0 f1 f2
  go_wp2
  go_ret2
  exact ⟨rfl, HF.out⟩
set_option maxRecDepth 100000 in
set_option maxHeartbeats 1600000 in
theorem word_form2 (v : Value) (m : Int) (us ad : List Int) (l : List UInt8) (k : Int) (w : World) (hv : MapV w v m us ad) (hlen : l.length ≤ 140737488351232) (hb1 : Hid (mapB m us ad = true)) (hb2 : Hid (K.validL l = false)) :
    Calls Tryz.prog 15 #[v, .string (Str l), .int .i64 k] w (fun e w' => e = .returned (.tuple #[.slice none 0 0, .int .i64 1]) ∧ Ext w w') := by
  have HV := hid hv
  obtain ⟨A, n, cc, B, n2, d, rfl, -⟩ := hv
  have hx : Ext w (w.alloc (.cells #[.int .i64 m, .slice A n cc, .slice B n2 d] 24)) := (Ext.rfl' w).alloc' _
  have hrw : Row (w.alloc (.cells #[.int .i64 m, .slice A n cc, .slice B n2 d] 24)) w.heap.size 24 [.int .i64 m, .slice A n cc, .slice B n2 d] := Row.new w _ _
  obtain ⟨W1, hW1⟩ : ∃ W1, (w.alloc (.cells #[.int .i64 m, .slice A n cc, .slice B n2 d] 24)) = W1 := ⟨_, rfl⟩
  rw [hW1] at hx hrw
  have HX := hid hx
  have HR := hid hrw
  have HW1 := hid hW1
  obtain ⟨f0, f1, f2, -, -, -⟩ := row_facts3 hrw
  clear hW1 hx hrw
  go_enter Tryz.func15, Tryz.ntmps15
  go_upto_region 1 with fail
  rw [HW1.out]
  go_wp2_with fail
  refine (stepvalid_any _ m us ad W1 (HV.out.ext HX.out) hb1).mono ?_
  rintro e w2 ⟨rfl, hx2⟩
  have HX2 := hid hx2
  clear f0 f1 f2 hx2
  obtain ⟨f0, f1, f2, -, -, -⟩ := row_facts3 (HR.out.ext HX2.out)
  go_wp2_with fail
  refine (valid_at l w2 hb2 hlen).mono ?_
  rintro e w3 ⟨rfl, hx3⟩
  have HX3 := hid (HX2.out.step hx3)
  clear f0 f1 f2 hx3
  obtain ⟨f0, f1, f2, -, -, -⟩ := row_facts3 (HR.out.ext HX3.out)
  have HF := hid (HX.out.step HX3.out)
  clear f0 f1 f2
  go_wp2
  go_ret2
  exact ⟨rfl, HF.out⟩
set_option maxRecDepth 100000 in
set_option maxHeartbeats 1600000 in
theorem word_low (v : Value) (m : Int) (us ad : List Int) (l : List UInt8) (k : Int) (w : World) (hv : MapV w v m us ad) (hlen : l.length ≤ 140737488351232) (hb1 : Hid (mapB m us ad = true)) (hb2 : Hid (K.validL l = true)) (h1 : k < 0) :
    Calls Tryz.prog 15 #[v, .string (Str l), .int .i64 k] w (fun e w' => e = .returned (.tuple #[.slice none 0 0, .int .i64 2]) ∧ Ext w w') := by
  have HV := hid hv
  obtain ⟨A, n, cc, B, n2, d, rfl, -⟩ := hv
  have hx : Ext w (w.alloc (.cells #[.int .i64 m, .slice A n cc, .slice B n2 d] 24)) := (Ext.rfl' w).alloc' _
  have hrw : Row (w.alloc (.cells #[.int .i64 m, .slice A n cc, .slice B n2 d] 24)) w.heap.size 24 [.int .i64 m, .slice A n cc, .slice B n2 d] := Row.new w _ _
  obtain ⟨W1, hW1⟩ : ∃ W1, (w.alloc (.cells #[.int .i64 m, .slice A n cc, .slice B n2 d] 24)) = W1 := ⟨_, rfl⟩
  rw [hW1] at hx hrw
  have HX := hid hx
  have HR := hid hrw
  have HW1 := hid hW1
  obtain ⟨f0, f1, f2, -, -, -⟩ := row_facts3 hrw
  clear hW1 hx hrw
  go_enter Tryz.func15, Tryz.ntmps15
  go_upto_region 1 with fail
  rw [HW1.out]
  go_wp2_with fail
  refine (stepvalid_any _ m us ad W1 (HV.out.ext HX.out) hb1).mono ?_
  rintro e w2 ⟨rfl, hx2⟩
  have HX2 := hid hx2
  clear f0 f1 f2 hx2
  obtain ⟨f0, f1, f2, -, -, -⟩ := row_facts3 (HR.out.ext HX2.out)
  go_wp2_with fail
  refine (valid_at l w2 hb2 hlen).mono ?_
  rintro e w3 ⟨rfl, hx3⟩
  have HX3 := hid (HX2.out.step hx3)
  clear f0 f1 f2 hx3
  obtain ⟨f0, f1, f2, -, -, -⟩ := row_facts3 (HR.out.ext HX3.out)
  have HF := hid (HX.out.step HX3.out)
  clear f0 f1 f2
  go_wp2
  go_ret2
  exact ⟨rfl, HF.out⟩
set_option maxRecDepth 100000 in
set_option maxHeartbeats 1600000 in
theorem word_high (v : Value) (m : Int) (us ad : List Int) (l : List UInt8) (k : Int) (w : World) (hv : MapV w v m us ad) (hlen : l.length ≤ 140737488351232) (hb1 : Hid (mapB m us ad = true)) (hb2 : Hid (K.validL l = true)) (h0 : 0 ≤ k) (h1 : 200 < k) :
    Calls Tryz.prog 15 #[v, .string (Str l), .int .i64 k] w (fun e w' => e = .returned (.tuple #[.slice none 0 0, .int .i64 2]) ∧ Ext w w') := by
  have HV := hid hv
  obtain ⟨A, n, cc, B, n2, d, rfl, -⟩ := hv
  have hx : Ext w (w.alloc (.cells #[.int .i64 m, .slice A n cc, .slice B n2 d] 24)) := (Ext.rfl' w).alloc' _
  have hrw : Row (w.alloc (.cells #[.int .i64 m, .slice A n cc, .slice B n2 d] 24)) w.heap.size 24 [.int .i64 m, .slice A n cc, .slice B n2 d] := Row.new w _ _
  obtain ⟨W1, hW1⟩ : ∃ W1, (w.alloc (.cells #[.int .i64 m, .slice A n cc, .slice B n2 d] 24)) = W1 := ⟨_, rfl⟩
  rw [hW1] at hx hrw
  have HX := hid hx
  have HR := hid hrw
  have HW1 := hid hW1
  obtain ⟨f0, f1, f2, -, -, -⟩ := row_facts3 hrw
  clear hW1 hx hrw
  go_enter Tryz.func15, Tryz.ntmps15
  go_upto_region 1 with fail
  rw [HW1.out]
  go_wp2_with fail
  refine (stepvalid_any _ m us ad W1 (HV.out.ext HX.out) hb1).mono ?_
  rintro e w2 ⟨rfl, hx2⟩
  have HX2 := hid hx2
  clear f0 f1 f2 hx2
  obtain ⟨f0, f1, f2, -, -, -⟩ := row_facts3 (HR.out.ext HX2.out)
  go_wp2_with fail
  refine (valid_at l w2 hb2 hlen).mono ?_
  rintro e w3 ⟨rfl, hx3⟩
  have HX3 := hid (HX2.out.step hx3)
  clear f0 f1 f2 hx3
  obtain ⟨f0, f1, f2, -, -, -⟩ := row_facts3 (HR.out.ext HX3.out)
  have HF := hid (HX.out.step HX3.out)
  clear f0 f1 f2
  go_wp2
  go_ret2
  exact ⟨rfl, HF.out⟩
set_option maxRecDepth 100000 in
set_option maxHeartbeats 1600000 in
theorem word_zero (v : Value) (m : Int) (us ad : List Int) (l : List UInt8) (k : Int) (w : World) (hv : MapV w v m us ad) (hlen : l.length ≤ 140737488351232) (hb1 : Hid (mapB m us ad = true)) (hb2 : Hid (K.validL l = true)) (h0 : k = 0) :
    Calls Tryz.prog 15 #[v, .string (Str l), .int .i64 k] w (fun e w' => e = .returned (.tuple #[.slice none 0 0, .int .i64 0]) ∧ Ext w w') := by
  subst h0
  have HV := hid hv
  obtain ⟨A, n, cc, B, n2, d, rfl, -⟩ := hv
  have hx : Ext w (w.alloc (.cells #[.int .i64 m, .slice A n cc, .slice B n2 d] 24)) := (Ext.rfl' w).alloc' _
  have hrw : Row (w.alloc (.cells #[.int .i64 m, .slice A n cc, .slice B n2 d] 24)) w.heap.size 24 [.int .i64 m, .slice A n cc, .slice B n2 d] := Row.new w _ _
  obtain ⟨W1, hW1⟩ : ∃ W1, (w.alloc (.cells #[.int .i64 m, .slice A n cc, .slice B n2 d] 24)) = W1 := ⟨_, rfl⟩
  rw [hW1] at hx hrw
  have HX := hid hx
  have HR := hid hrw
  have HW1 := hid hW1
  obtain ⟨f0, f1, f2, -, -, -⟩ := row_facts3 hrw
  clear hW1 hx hrw
  go_enter Tryz.func15, Tryz.ntmps15
  go_upto_region 1 with fail
  rw [HW1.out]
  go_wp2_with fail
  refine (stepvalid_any _ m us ad W1 (HV.out.ext HX.out) hb1).mono ?_
  rintro e w2 ⟨rfl, hx2⟩
  have HX2 := hid hx2
  clear f0 f1 f2 hx2
  obtain ⟨f0, f1, f2, -, -, -⟩ := row_facts3 (HR.out.ext HX2.out)
  go_wp2_with fail
  refine (valid_at l w2 hb2 hlen).mono ?_
  rintro e w3 ⟨rfl, hx3⟩
  have HX3 := hid (HX2.out.step hx3)
  clear f0 f1 f2 hx3
  obtain ⟨f0, f1, f2, -, -, -⟩ := row_facts3 (HR.out.ext HX3.out)
  have HF := hid (HX.out.step HX3.out)
  clear f0 f1 f2
  go_wp2
  go_ret2
  exact ⟨rfl, HF.out⟩
set_option maxRecDepth 100000 in
set_option maxHeartbeats 1600000 in
theorem word_size (v : Value) (m : Int) (us ad : List Int) (l : List UInt8) (k : Nat) (w : World) (hv : MapV w v m us ad) (hlen : l.length ≤ 140737488351232) (hb1 : Hid (mapB m us ad = true)) (hb2 : Hid (K.validL l = true)) (hk : k + 1 ≤ 200) (ht : Tab w) (HN : Hid (none ∈ seqO m us ad k (K.numL l))) :
    Calls Tryz.prog 15 #[v, .string (Str l), .int .i64 ((k + 1 : Nat) : Int)] w (fun e w' => e = .returned (.tuple #[.slice none 0 0, .int .i64 3]) ∧ Ext w w') := by
  have hk1 : IntKind.i64.wrap (((k + 1 : Nat) : Int) - 1) = (k : Int) := by rw [show (((k + 1 : Nat) : Int) - 1) = (k : Int) by omega]; exact IntWalk.i64_in _ (by omega)
  have hk2 : IntKind.i64.wrap ((k : Int) + 1 - 1) = (k : Int) := by rw [Int.add_sub_cancel]; exact IntWalk.i64_in _ (by omega)
  have q0 : ¬ ((k + 1 : Nat) : Int) < 0 := by omega
  have q1 : ¬ (200 : Int) < ((k + 1 : Nat) : Int) := by omega
  have q2 : (((k + 1 : Nat) : Int) == 0) = false := by rw [beq_eq_false_iff_ne]; omega
  have q3 : (((k : Int) + 1) == 0) = false := by rw [beq_eq_false_iff_ne]; omega
  have hM : Hid (mapP m us ad) := hid ((mapB_iff m us ad).1 hb1.out)
  have HT := hid ht
  have HV := hid hv
  obtain ⟨A, n, cc, B, n2, d, rfl, -⟩ := hv
  have hx : Ext w (w.alloc (.cells #[.int .i64 m, .slice A n cc, .slice B n2 d] 24)) := (Ext.rfl' w).alloc' _
  have hrw : Row (w.alloc (.cells #[.int .i64 m, .slice A n cc, .slice B n2 d] 24)) w.heap.size 24 [.int .i64 m, .slice A n cc, .slice B n2 d] := Row.new w _ _
  obtain ⟨W1, hW1⟩ : ∃ W1, (w.alloc (.cells #[.int .i64 m, .slice A n cc, .slice B n2 d] 24)) = W1 := ⟨_, rfl⟩
  rw [hW1] at hx hrw
  have HX := hid hx
  have HR := hid hrw
  have HW1 := hid hW1
  obtain ⟨f0, f1, f2, -, -, -⟩ := row_facts3 hrw
  clear hW1 hx hrw
  go_enter Tryz.func15, Tryz.ntmps15
  go_upto_region 1 with fail
  rw [HW1.out]
  go_wp2_with fail
  refine (stepvalid_any _ m us ad W1 (HV.out.ext HX.out) hb1).mono ?_
  rintro e w2 ⟨rfl, hx2⟩
  have HX2 := hid hx2
  clear f0 f1 f2 hx2
  obtain ⟨f0, f1, f2, -, -, -⟩ := row_facts3 (HR.out.ext HX2.out)
  go_wp2_with fail
  refine (valid_at l w2 hb2 hlen).mono ?_
  rintro e w3 ⟨rfl, hx3⟩
  have HX3 := hid (HX2.out.step hx3)
  clear f0 f1 f2 hx3
  obtain ⟨f0, f1, f2, -, -, -⟩ := row_facts3 (HR.out.ext HX3.out)
  go_wp2_with fail
  refine (orbit_no _ m us ad l k w3 (HV.out.ext (HX.out.step HX3.out)) hM hb2 (by omega) (HT.out.ext (HX.out.step HX3.out)) HN).mono ?_
  rintro e w4 ⟨rfl, hx4⟩
  have HX4 := hid (HX3.out.step hx4)
  clear hx4
  have HF := hid (HX.out.step HX4.out)
  clear f0 f1 f2
  go_wp2
  go_ret2
  exact ⟨rfl, HF.out⟩
set_option maxRecDepth 100000 in
set_option maxHeartbeats 1600000 in
theorem word_ok (v : Value) (m : Int) (us ad : List Int) (l : List UInt8) (k : Nat) (w : World) (hv : MapV w v m us ad) (hlen : l.length ≤ 140737488351232) (hb1 : Hid (mapB m us ad = true)) (hb2 : Hid (K.validL l = true)) (hk : k + 1 ≤ 200) (ht : Tab w) (HN : Hid (none ∉ seqO m us ad k (K.numL l))) :
    Calls Tryz.prog 15 #[v, .string (Str l), .int .i64 ((k + 1 : Nat) : Int)] w (fun e w' => ∃ g, e = .returned (.tuple #[.slice (some ⟨g, 0, none⟩) (k + 1) (k + 1), .int .i64 0]) ∧ Row w' g 3 (Is (wordI m us ad (k + 1) (K.numL l))) ∧ w.heap.size ≤ g ∧ Ext w w') := by
  have hk1 : IntKind.i64.wrap (((k + 1 : Nat) : Int) - 1) = (k : Int) := by rw [show (((k + 1 : Nat) : Int) - 1) = (k : Int) by omega]; exact IntWalk.i64_in _ (by omega)
  have hk2 : IntKind.i64.wrap ((k : Int) + 1 - 1) = (k : Int) := by rw [Int.add_sub_cancel]; exact IntWalk.i64_in _ (by omega)
  have q0 : ¬ ((k + 1 : Nat) : Int) < 0 := by omega
  have q1 : ¬ (200 : Int) < ((k + 1 : Nat) : Int) := by omega
  have q2 : (((k + 1 : Nat) : Int) == 0) = false := by rw [beq_eq_false_iff_ne]; omega
  have q3 : (((k : Int) + 1) == 0) = false := by rw [beq_eq_false_iff_ne]; omega
  have hM : Hid (mapP m us ad) := hid ((mapB_iff m us ad).1 hb1.out)
  have HT := hid ht
  have HV := hid hv
  obtain ⟨A, n, cc, B, n2, d, rfl, -⟩ := hv
  have hx : Ext w (w.alloc (.cells #[.int .i64 m, .slice A n cc, .slice B n2 d] 24)) := (Ext.rfl' w).alloc' _
  have hrw : Row (w.alloc (.cells #[.int .i64 m, .slice A n cc, .slice B n2 d] 24)) w.heap.size 24 [.int .i64 m, .slice A n cc, .slice B n2 d] := Row.new w _ _
  obtain ⟨W1, hW1⟩ : ∃ W1, (w.alloc (.cells #[.int .i64 m, .slice A n cc, .slice B n2 d] 24)) = W1 := ⟨_, rfl⟩
  rw [hW1] at hx hrw
  have HX := hid hx
  have HR := hid hrw
  have HW1 := hid hW1
  obtain ⟨f0, f1, f2, -, -, -⟩ := row_facts3 hrw
  clear hW1 hx hrw
  go_enter Tryz.func15, Tryz.ntmps15
  go_upto_region 1 with fail
  rw [HW1.out]
  go_wp2_with fail
  refine (stepvalid_any _ m us ad W1 (HV.out.ext HX.out) hb1).mono ?_
  rintro e w2 ⟨rfl, hx2⟩
  have HX2 := hid hx2
  clear f0 f1 f2 hx2
  obtain ⟨f0, f1, f2, -, -, -⟩ := row_facts3 (HR.out.ext HX2.out)
  go_wp2_with fail
  refine (valid_at l w2 hb2 hlen).mono ?_
  rintro e w3 ⟨rfl, hx3⟩
  have HX3 := hid (HX2.out.step hx3)
  clear f0 f1 f2 hx3
  obtain ⟨f0, f1, f2, -, -, -⟩ := row_facts3 (HR.out.ext HX3.out)
  go_wp2_with fail
  refine (orbit_at _ m us ad l k w3 (HV.out.ext (HX.out.step HX3.out)) hM hb2 (by omega) (HT.out.ext (HX.out.step HX3.out)) HN).mono ?_
  rintro e w4 ⟨b, o, c, rfl, hc, HRD, hx4⟩
  have HX4 := hid (HX3.out.step hx4)
  clear f0 f1 f2 hx4
  obtain ⟨f0, f1, f2, -, -, -⟩ := row_facts3 (HR.out.ext HX4.out)
  go_wp2_with fail
  refine (rests_ok b o (k + 1) c m (some (K.numL l) :: seqO m us ad k (K.numL l)) (fun i => orbN m us ad i (K.numL l)) w4 HRD.out (hid (fun j hj => ⟨seq_orb0 HN.out j hj, ?_⟩)) (by omega) hc (by have := hM.out.1; omega) (by have := hM.out.2.1; omega)).mono ?_
  · obtain ⟨t, z, -, h2, h3, -, h5⟩ := item_at HN.out (K.txt_numL l hb2.out).2 j hj
    have h6 := seq_orb0 HN.out j hj
    rw [h5] at h6
    obtain rfl : z = orbN m us ad j (K.numL l) := by simpa using h6
    rw [← h3]; exact (K.txt_numL t h2).2
  rintro e w5 ⟨g, rfl, hrow, hg, hx5⟩
  have HROW := hid hrow
  have HG := hid (show w.heap.size ≤ g by have h1 := HX4.out.size; have h2 := HX.out.size; omega)
  have HF := hid (HX.out.step (HX4.out.step hx5))
  clear f0 f1 f2 hrow hg hx5
  go_wp2
  go_ret2
  exact ⟨g, rfl, HROW.out, HG.out, HF.out⟩
end Go.Proofs.YtlfbgemceeibiaaGreatDoor
/- word.class: everyNumber, first, narrowed -/
namespace Go.Proofs.YtlfbgemceeibiaaGreatDoor
open Go.RowKit
theorem row_facts4 {w : World} {g : Nat} {t : TypeId} {a b c d : Value} (h : Row w g t [a, b, c, d]) : w.cell? ⟨g, 0, none⟩ = some a ∧ w.cell? ⟨g, 1, none⟩ = some b ∧ w.cell? ⟨g, 2, none⟩ = some c ∧ w.cell? ⟨g, 3, none⟩ = some d ∧ w.frozen? ⟨g, 0, none⟩ = false ∧ w.frozen? ⟨g, 1, none⟩ = false ∧ w.frozen? ⟨g, 2, none⟩ = false ∧ w.frozen? ⟨g, 3, none⟩ = false :=
  ⟨by rw [h.cell]; rfl, by rw [h.cell]; rfl, by rw [h.cell]; rfl, by rw [h.cell]; rfl, h.free 0, h.free 1, h.free 2, h.free 3⟩
set_option maxRecDepth 100000 in
set_option maxHeartbeats 800000 in
theorem every_any (w : World) : Calls Tryz.prog 77 #[] w (fun e w' => e = .returned (.agg #[.string ⟨#[48]⟩, .string ⟨#[49]⟩, .string ⟨#[48]⟩, .string ⟨#[49]⟩]) ∧ Ext w w') := by
  have HF : Hid (Ext w (w.alloc (.cells #[.string ⟨#[48]⟩, .string ⟨#[49]⟩, .string ⟨#[48]⟩, .string ⟨#[49]⟩] 111))) := hid ((Ext.rfl' w).alloc' _)
  go_enter Tryz.func77, Tryz.ntmps77
  go_wp2
  refine bodyPost_ret (v := .agg #[.string ⟨#[48]⟩, .string ⟨#[49]⟩, .string ⟨#[48]⟩, .string ⟨#[49]⟩]) (by simp [results, Tryz.results77, go_sem]) rfl ⟨rfl, HF.out⟩
theorem rest_s (x m : Int) (s : ByteArray) (w : World) (hs : Hid (Str (K.txt x) = s)) (hf : K.fits x) (hm : 1 ≤ m) (hm2 : m ≤ 2147483647) :
    Calls Tryz.prog 103 #[.string s, .int .i64 m] w (fun e w' => e = .returned (.tuple #[.int .i64 (x % m), .int .i64 0]) ∧ Ext w w') := by
  obtain ⟨d, rfl⟩ : ∃ d : Nat, m = (d : Int) := ⟨m.toNat, by omega⟩
  have h := rest_ok (K.txt x) d w (len_of (K.txt_len _ hf)) (K.valid_txt _ hf) (by omega) (by omega)
  rwa [hs.out, K.numL_txt] at h
theorem step_s (v : Value) (m : Int) (us ad : List Int) (x : Int) (s s2 : ByteArray) (w : World) (hv : MapV w v m us ad) (hM : Hid (mapP m us ad)) (hs : Hid (Str (K.txt x) = s)) (hf : K.fits x) (hf2 : K.fits (stepI m us ad x)) (hs2 : Hid (Str (K.txt (stepI m us ad x)) = s2)) (ht : Tab w) :
    Calls Tryz.prog 118 #[v, .string s] w (fun e w' => e = .returned (.tuple #[.string s2, .int .i64 0]) ∧ Ext w w') := by
  have h := step_ok v m us ad (K.txt x) w hv hM (hid (K.valid_txt _ hf)) ht
  rw [hs.out, K.numL_txt, runO_succ, if_pos (fitsB_yes hf2)] at h
  exact h.mono fun e w' hh => ⟨by rw [hh.1]; show _ = Ending.returned (.tuple #[.string s2, .int .i64 0]); rw [← hs2.out]; rfl, hh.2⟩
theorem itoa_s (n : Int) (s : ByteArray) (w : World) (hs : Hid (Str (K.txt n) = s)) (h0 : -9223372036854775808 ≤ n) (h1 : n ≤ 9223372036854775807) (ht : Tab w) :
    Calls Tryz.prog 115 #[.int .i64 n] w (fun e w' => e = .returned (.string s) ∧ Ext w w') :=
  (itoa_any n w h0 h1 ht).mono fun e w' h => ⟨by rw [h.1, hs.out], h.2⟩
theorem mod_form {x a m : Int} (t : Nat) : (x % m + (t : Int) * (a % m)) % m = (x + (t : Int) * a) % m := by
  rw [Int.add_emod, Int.emod_emod_of_dvd _ (Int.dvd_refl m), Int.mul_emod, Int.emod_emod_of_dvd _ (Int.dvd_refl m), ← Int.mul_emod, ← Int.add_emod]
set_option maxRecDepth 100000 in
set_option maxHeartbeats 3200000 in
theorem first_ok (sR sD sI sM : ByteArray) (x a m r : Int) (w : World) (Hx : Hid (Str (K.txt x) = sI)) (Ha : Hid (Str (K.txt a) = sM)) (fx : K.fits x) (fa : K.fits a) (hm : 2 ≤ m) (hm2 : m ≤ 12) (hex : Hid (∃ t : Nat, (t : Int) < m ∧ (x + (t : Int) * a) % m = r)) (hr : 0 ≤ r) (hr2 : r < m) (ht : Tab w) :
    Calls Tryz.prog 117 #[.agg #[.string sR, .string sD, .string sI, .string sM], .int .i64 m, .int .i64 r] w (fun e w' => ∃ t : Nat, e = .returned (.tuple #[.string (Str (K.txt (t : Int))), .int .i64 0]) ∧ (t : Int) < m ∧ (x + (t : Int) * a) % m = r ∧ Ext w w') := by
  have HT := hid ht
  have hx : Ext w (w.alloc (.cells #[.string sR, .string sD, .string sI, .string sM] 111)) := (Ext.rfl' w).alloc' _
  have hrw : Row (w.alloc (.cells #[.string sR, .string sD, .string sI, .string sM] 111)) w.heap.size 111 [.string sR, .string sD, .string sI, .string sM] := Row.new w _ _
  obtain ⟨W1, hW1⟩ : ∃ W1, (w.alloc (.cells #[.string sR, .string sD, .string sI, .string sM] 111)) = W1 := ⟨_, rfl⟩
  rw [hW1] at hx hrw
  have HX := hid hx
  have HR := hid hrw
  have HW1 := hid hW1
  obtain ⟨f0, f1, f2, f3, -, -, -, -⟩ := row_facts4 hrw
  obtain ⟨hv, hhv⟩ : ∃ hv, x % m = hv := ⟨_, rfl⟩
  obtain ⟨mo, hmo⟩ : ∃ mo, a % m = mo := ⟨_, rfl⟩
  have HHV := hid hhv
  have HMO := hid hmo
  have b1 : 0 ≤ hv := by rw [← hhv]; exact Int.emod_nonneg _ (by omega)
  have b2 : hv < m := by rw [← hhv]; exact Int.emod_lt_of_pos _ (by omega)
  have b3 : 0 ≤ mo := by rw [← hmo]; exact Int.emod_nonneg _ (by omega)
  have b4 : mo < m := by rw [← hmo]; exact Int.emod_lt_of_pos _ (by omega)
  clear hW1 hx hrw hhv hmo
  go_enter Tryz.func117, Tryz.ntmps117
  go_upto_region 1 with fail
  rw [HW1.out]
  go_wp2_with fail
  refine (rest_s x m sI W1 Hx fx (by omega) (by omega)).mono ?_
  rintro e w2 ⟨rfl, hx2⟩
  rw [HHV.out]
  have HX2 := hid hx2
  clear f0 f1 f2 f3 hx2
  obtain ⟨f0, f1, f2, f3, -, -, -, -⟩ := row_facts4 (HR.out.ext HX2.out)
  go_wp2_with fail
  refine (rest_s a m sM w2 Ha fa (by omega) (by omega)).mono ?_
  rintro e w3 ⟨rfl, hx3⟩
  rw [HMO.out]
  have HX3 := hid (HX.out.step (HX2.out.step hx3))
  clear f0 f1 f2 f3 hx3
  obtain ⟨dm, hdm⟩ : ∃ dm : Nat, m = (dm : Int) := ⟨m.toNat, by omega⟩
  have HDM := hid hdm
  clear hdm
  go_wp2_with fail
  go_loopw [33] (fun iz wr => ∃ j : Nat, j ≤ dm ∧ iz = .int .i64 (j : Int) ∧ Hid (∀ s : Nat, s < j → (x + (s : Int) * a) % m ≠ r) ∧ Ext w3 wr) (fun iz _ => dm - (intOf iz).toNat)
  case atStart => exact ⟨0, by omega, rfl, hid (fun s hs => by omega), Ext.rfl' _⟩
  case round =>
    obtain ⟨j, hj, rfl, HALL, hex3⟩ := hrel
    have HX4 := hid (HX3.out.step hex3)
    have HE4 := hid hex3
    clear hex3
    by_cases hlt : j < dm
    · have hjm : (j : Int) < m := by have := HDM.out; omega
      obtain ⟨q, hq⟩ : ∃ q, (j : Int) * mo = q := ⟨_, rfl⟩
      have hq0 : 0 ≤ q := by rw [← hq]; exact Int.mul_nonneg (by omega) b3
      have hq1 : q ≤ 144 := by
        rw [← hq]
        have := Int.mul_le_mul (show (j : Int) ≤ 12 by omega) (show mo ≤ 12 by omega) b3 (by omega)
        omega
      have hform : (hv + q) % m = (x + (j : Int) * a) % m := by rw [← HHV.out, ← hq, ← HMO.out]; exact mod_form j
      have HFORM := hid hform
      clear hform
      have hjb : (j : Int) ≤ 12 := by omega
      by_cases hs : (x + (j : Int) * a) % m = r
      · have e1 : ((hv + q) % m == r) = true := by rw [beq_iff_eq, HFORM.out]; exact hs
        have e2 : ((hv + q).tmod m == r) = true := by rw [beq_iff_eq, Int.tmod_eq_emod_of_nonneg (by omega), HFORM.out]; exact hs
        have HS := hid hs
        clear hs
        go_wp2_with fail
        refine (itoa_any (j : Int) wr (by omega) (by omega) (HT.out.ext HX4.out)).mono ?_
        rintro e w4 ⟨rfl, hx4⟩
        have HX5 := hid (HX4.out.step hx4)
        go_wp2
        go_ret2
        exact ⟨j, rfl, hjm, HS.out, HX5.out⟩
      · have e1 : ((hv + q) % m == r) = false := by rw [beq_eq_false_iff_ne, HFORM.out]; exact hs
        have e2 : ((hv + q).tmod m == r) = false := by rw [beq_eq_false_iff_ne, Int.tmod_eq_emod_of_nonneg (by omega), HFORM.out]; exact hs
        have HNX : Hid (∀ s : Nat, s < j + 1 → (x + (s : Int) * a) % m ≠ r) := hid (fun s h => by
          rcases Nat.lt_or_ge s j with h2 | h2
          · exact HALL.out s h2
          · obtain rfl : s = j := by omega
            exact hs)
        clear hs
        go_wp2
        go_roundw
        case rel => exact ⟨j + 1, by omega, by simp, HNX, HE4.out⟩
        case measure => first | (simp [intOf]; done) | (simp [intOf]; omega)
    · exfalso
      obtain ⟨t, h1, h2⟩ := hex.out
      exact HALL.out t (by have := HDM.out; omega) h2
end Go.Proofs.YtlfbgemceeibiaaGreatDoor
/- word.class.narrowed -/
namespace Go.Proofs.YtlfbgemceeibiaaGreatDoor
open Go.RowKit
set_option maxRecDepth 100000 in
set_option maxHeartbeats 12800000 in
theorem narrowed_l (sR sD sI sM : ByteArray) (R D x a m u : Int) (r : Nat) (ba oa n cc n2 d : Nat) (B : Option Addr) (us ad : List Int) (w : World) (HRs : Hid (Str (K.txt R) = sR)) (HDs : Hid (Str (K.txt D) = sD)) (HIs : Hid (Str (K.txt x) = sI)) (HMs : Hid (Str (K.txt a) = sM))
    (hmv : MapV w (.agg #[.int .i64 m, .slice (some ⟨ba, oa, none⟩) n cc, .slice B n2 d]) m us ad) (hM : Hid (mapP m us ad)) (hra : Rd w (some ⟨ba, oa, none⟩) (Is us)) (hn : us.length = n) (hrn : r < n) (hu : Hid (us.getD r 0 = u)) (hu1 : 1 ≤ u) (hu2 : u ≤ 999) (hrm : (r : Int) < m) (ht : Tab w)
    (hexi : Hid (∃ t : Nat, (t : Int) < m ∧ (x + (t : Int) * a) % m = (r : Int)))
    (F : Hid (K.fits R ∧ K.fits D ∧ K.fits x ∧ K.fits a ∧ K.fits (D * m) ∧ K.fits (a * u)))
    (FT : Hid (∀ t : Int, 0 ≤ t → t < m → K.fits t ∧ K.fits (t * D) ∧ K.fits (R + t * D) ∧ K.fits (t * a) ∧ K.fits (x + t * a) ∧ K.fits (stepI m us ad (x + t * a)))) :
    Calls Tryz.prog 78 #[.agg #[.string sR, .string sD, .string sI, .string sM], .agg #[.int .i64 m, .slice (some ⟨ba, oa, none⟩) n cc, .slice B n2 d], .int .i64 (r : Int)] w (fun e w' => ∃ t : Nat, e = .returned (.tuple #[.agg #[.string (Str (K.txt (R + (t : Int) * D))), .string (Str (K.txt (D * m))), .string (Str (K.txt (stepI m us ad (x + (t : Int) * a)))), .string (Str (K.txt (a * u)))], .int .i64 0]) ∧ (t : Int) < m ∧ (x + (t : Int) * a) % m = (r : Int) ∧ Ext w w') := by
  have hx : Ext w (((w.alloc (.cells #[.string sR, .string sD, .string sI, .string sM] 111)).alloc (.cells #[.int .i64 m, .slice (some ⟨ba, oa, none⟩) n cc, .slice B n2 d] 24)).alloc (.cells #[.string ⟨#[]⟩, .string ⟨#[]⟩, .string ⟨#[]⟩, .string ⟨#[]⟩] 111)) := (((Ext.rfl' w).alloc' _).alloc' _).alloc' _
  have r1 : Row (((w.alloc (.cells #[.string sR, .string sD, .string sI, .string sM] 111)).alloc (.cells #[.int .i64 m, .slice (some ⟨ba, oa, none⟩) n cc, .slice B n2 d] 24)).alloc (.cells #[.string ⟨#[]⟩, .string ⟨#[]⟩, .string ⟨#[]⟩, .string ⟨#[]⟩] 111)) w.heap.size 111 [.string sR, .string sD, .string sI, .string sM] := ((Row.new w _ _).alloc _).alloc _
  have r2 : Row (((w.alloc (.cells #[.string sR, .string sD, .string sI, .string sM] 111)).alloc (.cells #[.int .i64 m, .slice (some ⟨ba, oa, none⟩) n cc, .slice B n2 d] 24)).alloc (.cells #[.string ⟨#[]⟩, .string ⟨#[]⟩, .string ⟨#[]⟩, .string ⟨#[]⟩] 111)) (w.heap.size + 1) 24 [.int .i64 m, .slice (some ⟨ba, oa, none⟩) n cc, .slice B n2 d] := by
    have := (Row.new (w.alloc (.cells #[.string sR, .string sD, .string sI, .string sM] 111)) 24 [.int .i64 m, .slice (some ⟨ba, oa, none⟩) n cc, .slice B n2 d]).alloc (.cells #[.string ⟨#[]⟩, .string ⟨#[]⟩, .string ⟨#[]⟩, .string ⟨#[]⟩] 111)
    rwa [World.size_alloc] at this
  have r3 : Row (((w.alloc (.cells #[.string sR, .string sD, .string sI, .string sM] 111)).alloc (.cells #[.int .i64 m, .slice (some ⟨ba, oa, none⟩) n cc, .slice B n2 d] 24)).alloc (.cells #[.string ⟨#[]⟩, .string ⟨#[]⟩, .string ⟨#[]⟩, .string ⟨#[]⟩] 111)) (w.heap.size + 1 + 1) 111 [.string ⟨#[]⟩, .string ⟨#[]⟩, .string ⟨#[]⟩, .string ⟨#[]⟩] := by
    have := Row.new ((w.alloc (.cells #[.string sR, .string sD, .string sI, .string sM] 111)).alloc (.cells #[.int .i64 m, .slice (some ⟨ba, oa, none⟩) n cc, .slice B n2 d] 24)) 111 [.string ⟨#[]⟩, .string ⟨#[]⟩, .string ⟨#[]⟩, .string ⟨#[]⟩]
    rwa [World.size_alloc, World.size_alloc] at this
  obtain ⟨W3, hW3⟩ : ∃ W3, (((w.alloc (.cells #[.string sR, .string sD, .string sI, .string sM] 111)).alloc (.cells #[.int .i64 m, .slice (some ⟨ba, oa, none⟩) n cc, .slice B n2 d] 24)).alloc (.cells #[.string ⟨#[]⟩, .string ⟨#[]⟩, .string ⟨#[]⟩, .string ⟨#[]⟩] 111)) = W3 := ⟨_, rfl⟩
  rw [hW3] at hx r1 r2 r3
  have HW3 := hid hW3
  have HX := hid hx
  have R1 := hid r1
  have R2 := hid r2
  have R3 := hid r3
  have HT := hid ht
  have HMV := hid hmv
  have HRA := hid hra
  have HL := hid hn
  have HM2 := hid (show 2 ≤ m ∧ m ≤ 12 from ⟨hM.out.1, hM.out.2.1⟩)
  have i0 : (0 : Int) ≤ (r : Int) := by omega
  have i1 : (r : Int) < (n : Int) := by omega
  have HUU := hid (And.intro hu1 hu2)
  obtain ⟨f0, f1, f2, f3, -, -, -, -⟩ := row_facts4 r1
  obtain ⟨g0, g1, g2, -, -, -⟩ := row_facts3 r2
  clear hW3 hx r1 r2 r3 hmv hra hn hu1 hu2
  go_enter Tryz.func78, Tryz.ntmps78
  go_upto_region 1 with fail
  rw [HW3.out]
  go_wp2_with fail
  refine (first_ok sR sD sI sM x a m r W3 HIs HMs F.out.2.2.1 F.out.2.2.2.1 HM2.out.1 HM2.out.2 hexi i0 hrm (HT.out.ext HX.out)).mono ?_
  rintro e w4 ⟨t, rfl, htm, hts, hx4⟩
  have HX4 := hid hx4
  have HTM := hid (And.intro htm hts)
  have HFT := hid (FT.out (t : Int) (by omega) htm)
  obtain ⟨st, hst⟩ : ∃ st, Str (K.txt (t : Int)) = st := ⟨_, rfl⟩
  rw [hst]
  have HST := hid hst
  obtain ⟨sm, hsm⟩ : ∃ sm, Str (K.txt m) = sm := ⟨_, rfl⟩
  have HSM := hid hsm
  obtain ⟨su, hsu⟩ : ∃ su, Str (K.txt u) = su := ⟨_, rfl⟩
  have HSU := hid hsu
  obtain ⟨stD, hstD⟩ : ∃ stD, Str (K.txt ((t : Int) * D)) = stD := ⟨_, rfl⟩
  have HSTD := hid hstD
  obtain ⟨sR2, hsR2⟩ : ∃ sR2, Str (K.txt (R + (t : Int) * D)) = sR2 := ⟨_, rfl⟩
  have HSR2 := hid hsR2
  obtain ⟨stM, hstM⟩ : ∃ stM, Str (K.txt ((t : Int) * a)) = stM := ⟨_, rfl⟩
  have HSTM := hid hstM
  obtain ⟨sX, hsX⟩ : ∃ sX, Str (K.txt (x + (t : Int) * a)) = sX := ⟨_, rfl⟩
  have HSX := hid hsX
  obtain ⟨sI2, hsI2⟩ : ∃ sI2, Str (K.txt (stepI m us ad (x + (t : Int) * a))) = sI2 := ⟨_, rfl⟩
  have HSI2 := hid hsI2
  obtain ⟨sD2, hsD2⟩ : ∃ sD2, Str (K.txt (D * m)) = sD2 := ⟨_, rfl⟩
  have HSD2 := hid hsD2
  obtain ⟨sM2, hsM2⟩ : ∃ sM2, Str (K.txt (a * u)) = sM2 := ⟨_, rfl⟩
  have HSM2 := hid hsM2
  have HFM : Hid (K.fits m ∧ K.fits u) := hid (by
    have hp : (1000000 : Nat) < K.LIM := by
      have : K.pw 7 ≤ K.pw 2000 := K.pw_mono (by omega)
      have h7 : K.pw 7 = 10000000 := by decide
      unfold K.LIM
      omega
    have h1 := HM2.out
    have h2 := HUU.out
    exact ⟨by show m.natAbs < K.LIM; omega, by show u.natAbs < K.LIM; omega⟩)
  clear f0 f1 f2 f3 g0 g1 g2 hx4 htm hts hst hsm hsu hstD hsR2 hstM hsX hsI2 hsD2 hsM2
  have hg := Row.new w4 103 [.int .i64 0]
  have hx5 : Ext w4 (w4.alloc (.cells #[.int .i64 0] 103)) := (Ext.rfl' w4).alloc' _
  obtain ⟨W5, hW5⟩ : ∃ W5, (w4.alloc (.cells #[.int .i64 0] 103)) = W5 := ⟨_, rfl⟩
  have hg : Row W5 w4.heap.size 103 [.int .i64 0] := by rw [← hW5]; exact hg
  rw [hW5] at hx5
  have HW5 := hid hW5
  have RG := hid hg
  have HX35 := hid (HX4.out.step hx5)
  have HX5 := hid (HX.out.step (HX4.out.step hx5))
  have HS : Hid (∀ W', Ext W5 W' → W'.cell? ⟨w.heap.size, 0, none⟩ = some (.string sR) ∧ W'.cell? ⟨w.heap.size, 1, none⟩ = some (.string sD) ∧ W'.cell? ⟨w.heap.size, 2, none⟩ = some (.string sI) ∧ W'.cell? ⟨w.heap.size, 3, none⟩ = some (.string sM) ∧ W'.cell? ⟨w.heap.size + 1, 0, none⟩ = some (.int .i64 m) ∧ W'.cell? ⟨w.heap.size + 1, 1, none⟩ = some (.slice (some ⟨ba, oa, none⟩) n cc) ∧ W'.cell? ⟨w.heap.size + 1, 2, none⟩ = some (.slice B n2 d) ∧ W'.cell? ⟨ba, oa + r, none⟩ = some (.int .i64 u)) := hid (by
    intro W' e
    obtain ⟨p0, p1, p2, p3, -, -, -, -⟩ := row_facts4 (R1.out.ext (HX35.out.step e))
    obtain ⟨q0, q1, q2, -, -, -⟩ := row_facts3 (R2.out.ext (HX35.out.step e))
    obtain ⟨b2, o2, e2, -, hc1⟩ := (HRA.out.ext (HX5.out.step e)).atI (k := r) (by rw [HL.out]; exact hrn)
    cases e2
    rw [hu.out] at hc1
    exact ⟨p0, p1, p2, p3, q0, q1, q2, hc1⟩)
  clear hW5 hg hx5
  go_upto_region 5 with fail
  rw [HW5.out]
  have hcur : Ext W5 W5 := Ext.rfl' _
  go_region_held3 (fun W' => W'.cell? ⟨w.heap.size, 0, none⟩ = some (.string sR) ∧ W'.cell? ⟨w.heap.size, 1, none⟩ = some (.string sD) ∧ W'.cell? ⟨w.heap.size, 2, none⟩ = some (.string sI) ∧ W'.cell? ⟨w.heap.size, 3, none⟩ = some (.string sM) ∧ W'.cell? ⟨w.heap.size + 1, 0, none⟩ = some (.int .i64 m) ∧ W'.cell? ⟨w.heap.size + 1, 1, none⟩ = some (.slice (some ⟨ba, oa, none⟩) n cc) ∧ W'.cell? ⟨w.heap.size + 1, 2, none⟩ = some (.slice B n2 d) ∧ W'.cell? ⟨ba, oa + r, none⟩ = some (.int .i64 u))
    (first | exact HS.out _ hcur | exact HS.out _ hcur.drew' | exact HS.out _ (hcur.alloc' _) | exact HS.out _ (hcur.drew'.alloc' _) | exact HS.out _ ((hcur.set' HB2.out.1 _).set' HB2.out.1 _) | go_keep)
    (first
      | (go_at_call 73; refine (Calls.at_args ?_ (rec_times_s w4.heap.size (t : Int) D st sD stD _ (RG.out.ext ?_) ⟨HFT.out.1, F.out.2.1, HFT.out.2.1⟩ HST HDs HSTD (HT.out.ext ?_))).mono ?_; (with_reducible rfl); (first | exact hcur | exact hcur.drew' | exact hcur.alloc' _ | exact hcur.drew'.alloc' _ | exact (hcur.alloc' _).drew'); (exact HX5.out.step (by first | exact hcur | exact hcur.drew')); rintro e w6 ⟨rfl, hx⟩; have hcur := Ext.step hcur (by first | exact hx | exact Ext.undrew hx | exact Ext.step ((Ext.rfl' _).alloc' _) hx | exact Ext.step ((Ext.rfl' _).drew'.alloc' _) hx))
      | (go_at_call 74; refine (Calls.at_args ?_ (rec_plus_s w4.heap.size R ((t : Int) * D) sR stD sR2 _ (RG.out.ext ?_) ⟨F.out.1, HFT.out.2.1, HFT.out.2.2.1⟩ HRs HSTD HSR2 (HT.out.ext ?_))).mono ?_; (with_reducible rfl); (first | exact hcur | exact hcur.drew' | exact hcur.alloc' _ | exact hcur.drew'.alloc' _ | exact (hcur.alloc' _).drew'); (exact HX5.out.step (by first | exact hcur | exact hcur.drew')); rintro e w7 ⟨rfl, hx⟩; have hcur := Ext.step hcur (by first | exact hx | exact Ext.undrew hx | exact Ext.step ((Ext.rfl' _).alloc' _) hx | exact Ext.step ((Ext.rfl' _).drew'.alloc' _) hx)))
  all_goals
    have hcur : Ext W5 w7 := (by first | exact hcur | exact hcur.drew')
    have HC := hid hcur
    clear hcur
    go_wp2_with fail
    have hcur : Ext W5 w7 := HC.out
    go_region_held3 (fun W' => W'.cell? ⟨w.heap.size, 0, none⟩ = some (.string sR) ∧ W'.cell? ⟨w.heap.size, 1, none⟩ = some (.string sD) ∧ W'.cell? ⟨w.heap.size, 2, none⟩ = some (.string sI) ∧ W'.cell? ⟨w.heap.size, 3, none⟩ = some (.string sM) ∧ W'.cell? ⟨w.heap.size + 1, 0, none⟩ = some (.int .i64 m) ∧ W'.cell? ⟨w.heap.size + 1, 1, none⟩ = some (.slice (some ⟨ba, oa, none⟩) n cc) ∧ W'.cell? ⟨w.heap.size + 1, 2, none⟩ = some (.slice B n2 d) ∧ W'.cell? ⟨ba, oa + r, none⟩ = some (.int .i64 u))
      (first | exact HS.out _ hcur | exact HS.out _ hcur.drew' | exact HS.out _ (hcur.alloc' _) | exact HS.out _ (hcur.drew'.alloc' _) | exact HS.out _ ((hcur.set' HB2.out.1 _).set' HB2.out.1 _) | go_keep)
      (first
        | (go_at_call 73; refine (Calls.at_args ?_ (rec_times_s w4.heap.size (t : Int) a st sM stM _ (RG.out.ext ?_) ⟨HFT.out.1, F.out.2.2.2.1, HFT.out.2.2.2.1⟩ HST HMs HSTM (HT.out.ext ?_))).mono ?_; (with_reducible rfl); (first | exact hcur | exact hcur.drew' | exact hcur.alloc' _ | exact hcur.drew'.alloc' _ | exact (hcur.alloc' _).drew'); (exact HX5.out.step (by first | exact hcur | exact hcur.drew')); rintro e w8 ⟨rfl, hx⟩; have hcur := Ext.step hcur (by first | exact hx | exact Ext.undrew hx | exact Ext.step ((Ext.rfl' _).alloc' _) hx | exact Ext.step ((Ext.rfl' _).drew'.alloc' _) hx))
        | (go_at_call 74; refine (Calls.at_args ?_ (rec_plus_s w4.heap.size x ((t : Int) * a) sI stM sX _ (RG.out.ext ?_) ⟨F.out.2.2.1, HFT.out.2.2.2.1, HFT.out.2.2.2.2.1⟩ HIs HSTM HSX (HT.out.ext ?_))).mono ?_; (with_reducible rfl); (first | exact hcur | exact hcur.drew' | exact hcur.alloc' _ | exact hcur.drew'.alloc' _ | exact (hcur.alloc' _).drew'); (exact HX5.out.step (by first | exact hcur | exact hcur.drew')); rintro e w9 ⟨rfl, hx⟩; have hcur := Ext.step hcur (by first | exact hx | exact Ext.undrew hx | exact Ext.step ((Ext.rfl' _).alloc' _) hx | exact Ext.step ((Ext.rfl' _).drew'.alloc' _) hx)))
    all_goals
      have hcur : Ext W5 w9 := (by first | exact hcur | exact hcur.drew')
      obtain ⟨f0, f1, f2, f3, g0, g1, g2, h0⟩ := HS.out _ hcur
      have HC := hid hcur
      clear hcur
      go_wp2_with fail
      refine (step_s _ m us ad (x + (t : Int) * a) sX sI2 w9 (HMV.out.ext (HX5.out.step HC.out)) hM HSX HFT.out.2.2.2.2.1 HFT.out.2.2.2.2.2 HSI2 (HT.out.ext (HX5.out.step HC.out))).mono ?_
      rintro e w10 ⟨rfl, hx⟩
      have HC10 := hid (HC.out.step hx)
      clear f0 f1 f2 f3 g0 g1 g2 h0 hx
      go_wp2_with fail
      refine (note_any w4.heap.size sI2 0 0 w10 (RG.out.ext HC10.out)).mono ?_
      rintro e w11 ⟨rfl, hw11⟩
      have hn11 : Ext w10 w11 := by rw [hw11]; unfold NoteW; rw [if_pos rfl]; exact (RG.out.ext HC10.out).same
      have HC11 := hid (HC10.out.step hn11)
      clear hw11 hn11
      go_wp2_with fail
      have hcur : Ext W5 w11 := HC11.out
      go_region_held3 (fun W' => W'.cell? ⟨w.heap.size, 0, none⟩ = some (.string sR) ∧ W'.cell? ⟨w.heap.size, 1, none⟩ = some (.string sD) ∧ W'.cell? ⟨w.heap.size, 2, none⟩ = some (.string sI) ∧ W'.cell? ⟨w.heap.size, 3, none⟩ = some (.string sM) ∧ W'.cell? ⟨w.heap.size + 1, 0, none⟩ = some (.int .i64 m) ∧ W'.cell? ⟨w.heap.size + 1, 1, none⟩ = some (.slice (some ⟨ba, oa, none⟩) n cc) ∧ W'.cell? ⟨w.heap.size + 1, 2, none⟩ = some (.slice B n2 d) ∧ W'.cell? ⟨ba, oa + r, none⟩ = some (.int .i64 u))
        (first | exact HS.out _ hcur | exact HS.out _ hcur.drew' | exact HS.out _ (hcur.alloc' _) | exact HS.out _ (hcur.drew'.alloc' _) | exact HS.out _ ((hcur.set' HB2.out.1 _).set' HB2.out.1 _) | go_keep)
        (first
          | (go_at_call 115; refine (itoa_s m sm _ HSM (by have := HM2.out; omega) (by have := HM2.out; omega) (HT.out.ext ?_)).mono ?_; (exact HX5.out.step (by first | exact hcur | exact hcur.drew')); rintro e w12 ⟨rfl, hx⟩; have hcur := Ext.step hcur (by first | exact hx | exact Ext.undrew hx | exact Ext.step ((Ext.rfl' _).alloc' _) hx | exact Ext.step ((Ext.rfl' _).drew'.alloc' _) hx))
          | (go_at_call 73; refine (Calls.at_args ?_ (rec_times_s w4.heap.size D m sD sm sD2 _ (RG.out.ext ?_) ⟨F.out.2.1, HFM.out.1, F.out.2.2.2.2.1⟩ HDs HSM HSD2 (HT.out.ext ?_))).mono ?_; (with_reducible rfl); (first | exact hcur | exact hcur.drew' | exact hcur.alloc' _ | exact hcur.drew'.alloc' _ | exact (hcur.alloc' _).drew'); (exact HX5.out.step (by first | exact hcur | exact hcur.drew')); rintro e w13 ⟨rfl, hx⟩; have hcur := Ext.step hcur (by first | exact hx | exact Ext.undrew hx | exact Ext.step ((Ext.rfl' _).alloc' _) hx | exact Ext.step ((Ext.rfl' _).drew'.alloc' _) hx)))
      all_goals
        have hcur : Ext W5 w13 := (by first | exact hcur | exact hcur.drew')
        have HC := hid hcur
        clear hcur
        go_wp2_with fail
        have hcur : Ext W5 w13 := HC.out
        go_region_held3 (fun W' => W'.cell? ⟨w.heap.size, 0, none⟩ = some (.string sR) ∧ W'.cell? ⟨w.heap.size, 1, none⟩ = some (.string sD) ∧ W'.cell? ⟨w.heap.size, 2, none⟩ = some (.string sI) ∧ W'.cell? ⟨w.heap.size, 3, none⟩ = some (.string sM) ∧ W'.cell? ⟨w.heap.size + 1, 0, none⟩ = some (.int .i64 m) ∧ W'.cell? ⟨w.heap.size + 1, 1, none⟩ = some (.slice (some ⟨ba, oa, none⟩) n cc) ∧ W'.cell? ⟨w.heap.size + 1, 2, none⟩ = some (.slice B n2 d) ∧ W'.cell? ⟨ba, oa + r, none⟩ = some (.int .i64 u))
          (first | exact HS.out _ hcur | exact HS.out _ hcur.drew' | exact HS.out _ (hcur.alloc' _) | exact HS.out _ (hcur.drew'.alloc' _) | exact HS.out _ ((hcur.set' HB2.out.1 _).set' HB2.out.1 _) | go_keep)
          (first
            | (go_at_call 115; refine (itoa_s u su _ HSU (by have := HUU.out; omega) (by have := HUU.out; omega) (HT.out.ext ?_)).mono ?_; (exact HX5.out.step (by first | exact hcur | exact hcur.drew')); rintro e w14 ⟨rfl, hx⟩; have hcur := Ext.step hcur (by first | exact hx | exact Ext.undrew hx | exact Ext.step ((Ext.rfl' _).alloc' _) hx | exact Ext.step ((Ext.rfl' _).drew'.alloc' _) hx))
            | (go_at_call 73; refine (Calls.at_args ?_ (rec_times_s w4.heap.size a u sM su sM2 _ (RG.out.ext ?_) ⟨F.out.2.2.2.1, HFM.out.2, F.out.2.2.2.2.2⟩ HMs HSU HSM2 (HT.out.ext ?_))).mono ?_; (with_reducible rfl); (first | exact hcur | exact hcur.drew' | exact hcur.alloc' _ | exact hcur.drew'.alloc' _ | exact (hcur.alloc' _).drew'); (exact HX5.out.step (by first | exact hcur | exact hcur.drew')); rintro e w15 ⟨rfl, hx⟩; have hcur := Ext.step hcur (by first | exact hx | exact Ext.undrew hx | exact Ext.step ((Ext.rfl' _).alloc' _) hx | exact Ext.step ((Ext.rfl' _).drew'.alloc' _) hx)))
        all_goals
          have hcur : Ext W5 w15 := (by first | exact hcur | exact hcur.drew')
          have c0 : w15.cell? ⟨w4.heap.size, 0, none⟩ = some (.int .i64 0) := (RG.out.ext hcur).cell 0
          obtain ⟨z0, z1, z2, z3, z4, z5, z6, z7⟩ := row_facts4 (R3.out.ext (HX35.out.step hcur))
          have HF : Hid (Ext w ((((w15.setCell ⟨w.heap.size + 1 + 1, 0, none⟩ (.string sR2)).setCell ⟨w.heap.size + 1 + 1, 1, none⟩ (.string sD2)).setCell ⟨w.heap.size + 1 + 1, 2, none⟩ (.string sI2)).setCell ⟨w.heap.size + 1 + 1, 3, none⟩ (.string sM2))) := hid (((((HX5.out.step hcur).set' (by show w.heap.size ≤ w.heap.size + 1 + 1; omega) _).set' (by show w.heap.size ≤ w.heap.size + 1 + 1; omega) _).set' (by show w.heap.size ≤ w.heap.size + 1 + 1; omega) _).set' (by show w.heap.size ≤ w.heap.size + 1 + 1; omega) _)
          clear hcur
          go_wp2
          refine bodyPost_ret (v := .tuple #[.agg #[.string sR2, .string sD2, .string sI2, .string sM2], .int .i64 0]) (by simp [results, Tryz.results78, go_sem, z0, z1, z2, z3]) rfl ⟨t, ?_, HTM.out.1, HTM.out.2, HF.out⟩
          rw [HSR2.out, HSD2.out, HSI2.out, HSM2.out]
end Go.Proofs.YtlfbgemceeibiaaGreatDoor
