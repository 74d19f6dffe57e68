/- Joined texts: the law NumSums; the law NumDivides. -/
import Derived.Test.YtoilkfohhhidpaaDoorJCNumDivides12
import Derived.Test.YtoilkfohhhidpaaDoorJCNumDivides09
import Derived.Test.YtoilkfohhhidpaaDoorJCNumDivides14
/- the law NumSums -/
namespace Go.Proofs.YtoilkfohhhidpaaDoor
open Go.RowKit
def Told2 (n : Int) (s : ByteArray) (c : Int) : Prop := (K.fits n → s = Str (K.txt n) ∧ c = 0) ∧ (¬ K.fits n → s = ⟨#[]⟩ ∧ c = 3)
theorem told2_of {n : Int} {w : World} {e : Ending} {w' : World} (h : ToldPost n w e w') : ∃ (s : ByteArray) (c : Int), e = .returned (.tuple #[.string s, .int .i64 c]) ∧ Told2 n s c ∧ Ext w w' := by
  by_cases hf : K.fits n
  · exact ⟨_, _, h.1 hf, ⟨fun _ => ⟨rfl, rfl⟩, fun k => absurd hf k⟩, h.2.2⟩
  · exact ⟨_, _, h.2.1 hf, ⟨fun k => absurd k hf, fun _ => ⟨rfl, rfl⟩⟩, h.2.2⟩
set_option maxRecDepth 100000 in
set_option maxHeartbeats 800000 in
theorem lawtold_any (s : ByteArray) (c : Int) (v : Value) (n : Int) (w : World) (h : RefV w v n) (hb : n.natAbs ≤ BIG) (ht : Hid (Told2 n s c)) :
    Calls Tryd.prog 16 #[.string s, .int .i64 c, v] w (TruePost w) := by
  obtain ⟨A, k, cc, xs, nb, rfl, -⟩ := id h
  have hx : Ext w (w.alloc (.cells #[.bool nb, .slice A k cc] 31)) := (Ext.rfl' w).alloc' _
  have H := hid (h.ext hx)
  have HX := hid hx
  have HB := hid hb
  clear h hx hb
  by_cases hf : K.fits n
  · obtain ⟨rfl, rfl⟩ := ht.out.1 hf
    have HF := hid hf
    have hne : (Str (K.txt n)).toList.isEmpty = false := by rw [Str_toList]; simpa using K.txt_ne n
    clear hf ht
    go_enter Tryd.func16, Tryd.ntmps16
    go_wp2_with fail
    refine (rtold_any _ n _ H.out HB.out).mono ?_
    intro e w1 h1
    obtain ⟨rfl, hx1⟩ : e = .returned (.tuple #[.string (Str (K.txt n)), .int .i64 0]) ∧ Ext _ w1 := ⟨h1.1 HF.out, h1.2.2⟩
    clear h1
    go_wp2
    go_ret
    exact ⟨rfl, HX.out.step hx1⟩
  · obtain ⟨rfl, rfl⟩ := ht.out.2 hf
    have HF := hid hf
    clear hf ht
    go_enter Tryd.func16, Tryd.ntmps16
    go_wp2_with fail
    refine (rtold_any _ n _ H.out HB.out).mono ?_
    intro e w1 h1
    obtain ⟨rfl, hx1⟩ : e = .returned (.tuple #[.string ⟨#[]⟩, .int .i64 3]) ∧ Ext _ w1 := ⟨h1.2.1 HF.out, h1.2.2⟩
    clear h1
    go_wp2
    go_ret
    exact ⟨rfl, HX.out.step hx1⟩
theorem valid_at (l : List UInt8) {v : Bool} (w : World) (hv : Hid (K.validL l = v)) (hl : l.length ≤ 140737488351232) :
    Calls Tryd.prog 12 #[.string (Str l)] w (fun e w' => e = .returned (.bool v) ∧ Ext w w') := by
  rw [← hv.out]; exact valid_any l w hl
set_option maxRecDepth 100000 in
set_option maxHeartbeats 3200000 in
theorem ok_NumSums (a b : List UInt8) (w : World) (ha : a.length ≤ 140737488351232) (hb : b.length ≤ 140737488351232) (ht : Tab w) (va : Hid (K.validL a = true)) (vb : Hid (K.validL b = true)) :
    Calls Tryd.prog 3 #[.string (Str a), .string (Str b)] w (TruePost w) := by
  have HT := hid ht
  have g1 := hid (fits_big (K.txt_numL a va.out).2)
  have g2 := hid (fits_big (K.txt_numL b vb.out).2)
  have f1 := hid (K.txt_numL a va.out).2
  have f2 := hid (K.txt_numL b vb.out).2
  go_enter Tryd.func3, Tryd.ntmps3
  go_wp2_with fail
  refine (add_ok a b w ha hb va.out vb.out HT.out).mono ?_
  intro e w1 h1
  obtain ⟨s1, c1, rfl, t1, hx1⟩ := told2_of h1
  have T1 := hid t1
  have hy1 : Ext w w1 := hx1
  clear h1 t1 hx1
  go_wp2_with fail
  refine (sub_ok a b w1 ha hb va.out vb.out (HT.out.ext hy1)).mono ?_
  intro e w2 h2
  obtain ⟨s2, c2, rfl, t2, hx2⟩ := told2_of h2
  have T2 := hid t2
  have hy2 : Ext w w2 := hy1.step hx2
  clear h2 t2 hx2 hy1
  go_wp2_with fail
  refine (mul_ok a b w2 ha hb va.out vb.out (HT.out.ext hy2)).mono ?_
  intro e w3 h3
  obtain ⟨s3, c3, rfl, t3, hx3⟩ := told2_of h3
  have T3 := hid t3
  have hy3 : Ext w w3 := hy2.step hx3
  clear h3 t3 hx3 hy2
  go_wp2_with fail
  refine (compare_ok a b w3 ha hb va.out vb.out).mono ?_
  rintro e w4 ⟨rfl, hx4⟩
  have hy4 : Ext w w4 := hy3.step hx4
  clear hx4 hy3
  go_wp2_with fail
  refine (valid_at a w4 va ha).mono ?_
  rintro e w5 ⟨rfl, hx5⟩
  have hy5 : Ext w w5 := hy4.step hx5
  clear hx5 hy4
  go_wp2_with fail
  refine (rvalid_at a w5 va ha).mono ?_
  rintro e wz ⟨rfl, rfl⟩
  go_wp2_with fail
  refine (valid_at b w5 vb hb).mono ?_
  rintro e w6 ⟨rfl, hx6⟩
  have hy6 : Ext w w6 := hy5.step hx6
  clear hx6 hy5
  go_wp2_with fail
  refine (rvalid_at b w6 vb hb).mono ?_
  rintro e wz ⟨rfl, rfl⟩
  go_wp2_with fail
  refine (rvalid_at a w6 va ha).mono ?_
  rintro e wz ⟨rfl, rfl⟩
  go_wp2_with fail
  refine (rvalid_at b w6 vb hb).mono ?_
  rintro e wz ⟨rfl, rfl⟩
  go_wp2_with fail
  refine (parse_any a w6 va.out).mono ?_
  rintro e w7 ⟨v1, rfl, hv1, hx7⟩
  have hy7 : Ext w w7 := hy6.step hx7
  clear hx7 hy6
  have HV1 := hid hv1
  obtain ⟨A, ka, ca, xs, na, rfl, -⟩ := hv1
  go_wp2_with fail
  refine (parse_any b w7 vb.out).mono ?_
  rintro e w8 ⟨v2, rfl, hv2, hx8⟩
  have hy8 : Ext w w8 := hy7.step hx8
  have HV1' := hid (HV1.out.ext hx8)
  clear hx8 hy7 HV1
  have HV2 := hid hv2
  obtain ⟨B, kb, cb, ys, nb, rfl, -⟩ := hv2
  go_wp2_with fail
  have hW9 : Ext w8 ((w8.alloc (.cells #[.bool na, .slice A ka ca] 31)).alloc (.cells #[.bool nb, .slice B kb cb] 31)) := ((Ext.rfl' w8).alloc' _).alloc' _
  have hk : ∀ w', Ext ((w8.alloc (.cells #[.bool na, .slice A ka ca] 31)).alloc (.cells #[.bool nb, .slice B kb cb] 31)) w' →
      w'.cell? ⟨w8.heap.size, 0, none⟩ = some (.bool na) ∧ w'.cell? ⟨w8.heap.size, 1, none⟩ = some (.slice A ka ca) ∧ w'.cell? ⟨w8.heap.size + 1, 0, none⟩ = some (.bool nb) ∧ w'.cell? ⟨w8.heap.size + 1, 1, none⟩ = some (.slice B kb cb) := fun w' e => boxes e
  obtain ⟨W9, hW9e⟩ : ∃ W9, ((w8.alloc (.cells #[.bool na, .slice A ka ca] 31)).alloc (.cells #[.bool nb, .slice B kb cb] 31)) = W9 := ⟨_, rfl⟩
  rw [hW9e] at hW9
  rw [hW9e] at hk
  rw [hW9e]
  have HK := hid hk
  have HR1 := hid (HV1'.out.ext hW9)
  have HR2 := hid (HV2.out.ext hW9)
  have HY9 := hid (hy8.step hW9)
  clear hW9e hW9 hk HV1' HV2 hy8
  refine (radd_any _ _ _ _ _ HR1.out HR2.out g1.out g2.out).mono ?_
  rintro e w10 ⟨v3, rfl, hv3, hx10⟩
  have HV3 := hid hv3
  obtain ⟨A3, k3, c3', xs3, n3, rfl, -⟩ := hv3
  obtain ⟨q0, q1, q2, q3⟩ := HK.out _ hx10
  go_wp2_with fail
  refine (lawtold_any s1 c1 _ _ _ HV3.out (add_big f1.out f2.out) T1).mono ?_
  rintro e w11 ⟨rfl, hx11⟩
  have hy11 : Ext W9 w11 := hx10.step hx11
  clear q0 q1 q2 q3 hx10 hx11 HV3
  obtain ⟨q0, q1, q2, q3⟩ := HK.out _ hy11
  go_wp2_with fail
  refine (rsub_any _ _ _ _ _ (HR1.out.ext hy11) (HR2.out.ext hy11) g1.out g2.out).mono ?_
  rintro e w12 ⟨v4, rfl, hv4, hx12⟩
  have HV4 := hid hv4
  obtain ⟨A4, k4, c4', xs4, n4, rfl, -⟩ := hv4
  have hy12 : Ext W9 w12 := hy11.step hx12
  clear q0 q1 q2 q3 hx12 hy11
  obtain ⟨q0, q1, q2, q3⟩ := HK.out _ hy12
  go_wp2_with fail
  refine (lawtold_any s2 c2 _ _ _ HV4.out (sub_big f1.out f2.out) T2).mono ?_
  rintro e w13 ⟨rfl, hx13⟩
  have hy13 : Ext W9 w13 := hy12.step hx13
  clear q0 q1 q2 q3 hx13 hy12 HV4
  obtain ⟨q0, q1, q2, q3⟩ := HK.out _ hy13
  go_wp2_with fail
  refine (rmul_any _ _ _ _ _ (HR1.out.ext hy13) (HR2.out.ext hy13) g1.out g2.out).mono ?_
  rintro e w14 ⟨v5, rfl, hv5, hx14⟩
  have HV5 := hid hv5
  obtain ⟨A5, k5, c5', xs5, n5, rfl, -⟩ := hv5
  have hy14 : Ext W9 w14 := hy13.step hx14
  clear q0 q1 q2 q3 hx14 hy13
  obtain ⟨q0, q1, q2, q3⟩ := HK.out _ hy14
  go_wp2_with fail
  refine (lawtold_any s3 c3 _ _ _ HV5.out (mul_big f1.out f2.out) T3).mono ?_
  rintro e w15 ⟨rfl, hx15⟩
  have hy15 : Ext W9 w15 := hy14.step hx15
  clear q0 q1 q2 q3 hx15 hy14 HV5
  obtain ⟨q0, q1, q2, q3⟩ := HK.out _ hy15
  go_wp2_with fail
  refine (rcmp_any _ _ _ _ _ (HR1.out.ext hy15) (HR2.out.ext hy15) g1.out g2.out).mono ?_
  rintro e w16 ⟨rfl, hx16⟩
  have hy16 : Ext W9 w16 := hy15.step hx16
  clear q0 q1 q2 q3 hx16 hy15
  go_wp2_with fail
  refine (awake_any w16 ((HT.out.ext HY9.out).ext hy16)).mono ?_
  rintro e w17 ⟨rfl, hx17⟩
  have hfin : Hid (Ext w w17) := hid ((HY9.out.step hy16).step hx17)
  go_wp2
  go_ret
  exact ⟨rfl, hfin.out⟩
set_option maxRecDepth 100000 in
set_option maxHeartbeats 3200000 in
theorem bad_NumSums (a b : List UInt8) (x y : Bool) (w : World) (ha : a.length ≤ 140737488351232) (hb : b.length ≤ 140737488351232) (ht : Tab w) (va : Hid (K.validL a = x)) (vb : Hid (K.validL b = y)) (hxy : x = false ∨ y = false) :
    Calls Tryd.prog 3 #[.string (Str a), .string (Str b)] w (TruePost w) := by
  have HT := hid ht
  have HV : Hid (K.validL a = false ∨ K.validL b = false) := hid (by rw [va.out, vb.out]; exact hxy)
  have HXY := hid hxy
  have hcc : (({ data := #[] } : ByteArray) ++ ({ data := #[] } : ByteArray) ++ ({ data := #[] } : ByteArray)).toList = [] := by
    rw [show ({ data := #[] } : ByteArray) ++ ({ data := #[] } : ByteArray) ++ ({ data := #[] } : ByteArray) = Str [] from rfl, Str_toList]
  have hq1 : (x == x) = true := by simp
  have hq2 : (y == y) = true := by simp
  clear hxy
  go_enter Tryd.func3, Tryd.ntmps3
  go_wp2_with fail
  refine (add_bad a b w ha hb HV.out).mono ?_
  rintro e w1 ⟨rfl, hx1⟩
  have hy1 : Ext w w1 := hx1
  clear hx1
  go_wp2_with fail
  refine (sub_bad a b w1 ha hb HV.out).mono ?_
  rintro e w2 ⟨rfl, hx2⟩
  have hy2 : Ext w w2 := hy1.step hx2
  clear hx2 hy1
  go_wp2_with fail
  refine (mul_bad a b w2 ha hb HV.out).mono ?_
  rintro e w3 ⟨rfl, hx3⟩
  have hy3 : Ext w w3 := hy2.step hx3
  clear hx3 hy2
  go_wp2_with fail
  refine (compare_bad a b w3 ha hb HV.out).mono ?_
  rintro e w4 ⟨rfl, hx4⟩
  have hy4 : Ext w w4 := hy3.step hx4
  clear hx4 hy3
  go_wp2_with fail
  refine (valid_at a w4 va ha).mono ?_
  rintro e w5 ⟨rfl, hx5⟩
  have hy5 : Ext w w5 := hy4.step hx5
  clear hx5 hy4
  go_wp2_with fail
  refine (rvalid_at a w5 va ha).mono ?_
  rintro e wz ⟨rfl, rfl⟩
  go_wp2_with fail
  refine (valid_at b w5 vb hb).mono ?_
  rintro e w6 ⟨rfl, hx6⟩
  have hy6 : Ext w w6 := hy5.step hx6
  clear hx6 hy5
  go_wp2_with fail
  refine (rvalid_at b w6 vb hb).mono ?_
  rintro e wz ⟨rfl, rfl⟩
  go_wp2_with fail
  refine (rvalid_at a w6 va ha).mono ?_
  rintro e wz ⟨rfl, rfl⟩
  cases x with
  | false =>
    go_wp2_with fail
    refine (awake_any w6 (HT.out.ext hy6)).mono ?_
    rintro e w7 ⟨rfl, hx7⟩
    have hfin : Hid (Ext w w7) := hid (hy6.step hx7)
    go_wp2
    go_ret
    exact ⟨rfl, hfin.out⟩
  | true =>
    obtain rfl : y = false := by have := HXY.out; simpa using this
    go_wp2_with fail
    refine (rvalid_at b w6 vb hb).mono ?_
    rintro e wz ⟨rfl, rfl⟩
    go_wp2_with fail
    refine (awake_any w6 (HT.out.ext hy6)).mono ?_
    rintro e w7 ⟨rfl, hx7⟩
    have hfin : Hid (Ext w w7) := hid (hy6.step hx7)
    go_wp2
    go_ret
    exact ⟨rfl, hfin.out⟩
theorem law_NumSums (a b : List UInt8) (w : World) (ha : a.length ≤ 140737488351232) (hb : b.length ≤ 140737488351232) (ht : Tab w) :
    Calls Tryd.prog 3 #[.string (Str a), .string (Str b)] w (TruePost w) := by
  by_cases h : K.validL a = true ∧ K.validL b = true
  · exact ok_NumSums a b w ha hb ht (hid h.1) (hid h.2)
  · refine bad_NumSums a b _ _ w ha hb ht (hid rfl) (hid rfl) ?_
    cases h1 : K.validL a <;> cases h2 : K.validL b <;> simp_all
end Go.Proofs.YtoilkfohhhidpaaDoor
/- the law NumDivides -/
namespace Go.Proofs.YtoilkfohhhidpaaDoor
open Go.RowKit
theorem told2_fits {n : Int} (h : K.fits n) : Told2 n (Str (K.txt n)) 0 := ⟨fun _ => ⟨rfl, rfl⟩, fun k => absurd h k⟩
set_option maxRecDepth 100000 in
set_option maxHeartbeats 1600000 in
theorem bad_NumDivides (a b : List UInt8) (x y : Bool) (w : World) (ha : a.length ≤ 140737488351232) (hb : b.length ≤ 140737488351232) (ht : Tab w) (va : Hid (K.validL a = x)) (vb : Hid (K.validL b = y)) (hxy : x = false ∨ y = false) :
    Calls Tryd.prog 4 #[.string (Str a), .string (Str b)] w (TruePost w) := by
  have HT := hid ht
  have HV : Hid (K.validL a = false ∨ K.validL b = false) := hid (by rw [va.out, vb.out]; exact hxy)
  have HXY := hid hxy
  have hcc : (({ data := #[] } : ByteArray) ++ ({ data := #[] } : ByteArray) ++ ({ data := #[] } : ByteArray)).toList = [] := by
    rw [show ({ data := #[] } : ByteArray) ++ ({ data := #[] } : ByteArray) ++ ({ data := #[] } : ByteArray) = Str [] from rfl, Str_toList]
  clear hxy
  go_enter Tryd.func4, Tryd.ntmps4
  go_wp2_with fail
  refine (divide_form a b w ha hb HV.out).mono ?_
  rintro e w1 ⟨rfl, hx1⟩
  have hy1 : Ext w w1 := hx1
  clear hx1
  go_wp2_with fail
  refine (gcd_bad a b w1 ha hb HV.out).mono ?_
  rintro e w2 ⟨rfl, hx2⟩
  have hy2 : Ext w w2 := hy1.step hx2
  clear hx2 hy1
  go_wp2_with fail
  refine (rvalid_at a w2 va ha).mono ?_
  rintro e wz ⟨rfl, rfl⟩
  cases x with
  | false =>
    go_wp2_with fail
    refine (awake_any w2 (HT.out.ext hy2)).mono ?_
    rintro e w7 ⟨rfl, hx7⟩
    have hfin : Hid (Ext w w7) := hid (hy2.step hx7)
    go_wp2
    go_ret
    exact ⟨rfl, hfin.out⟩
  | true =>
    obtain rfl : y = false := by have := HXY.out; simpa using this
    go_wp2_with fail
    refine (rvalid_at b w2 vb hb).mono ?_
    rintro e wz ⟨rfl, rfl⟩
    go_wp2_with fail
    refine (awake_any w2 (HT.out.ext hy2)).mono ?_
    rintro e w7 ⟨rfl, hx7⟩
    have hfin : Hid (Ext w w7) := hid (hy2.step hx7)
    go_wp2
    go_ret
    exact ⟨rfl, hfin.out⟩
set_option maxRecDepth 100000 in
set_option maxHeartbeats 3200000 in
theorem pos_NumDivides (a b : List UInt8) (w : World) (ha : a.length ≤ 140737488351232) (hb : b.length ≤ 140737488351232) (ht : Tab w) (va : Hid (K.validL a = true)) (vb : Hid (K.validL b = true)) (hn : 0 < K.numL b) :
    Calls Tryd.prog 4 #[.string (Str a), .string (Str b)] w (TruePost w) := by
  have HT := hid ht
  have f1 := hid (K.txt_numL a va.out).2
  have f2 := hid (K.txt_numL b vb.out).2
  have g1 := hid (fits_big f1.out)
  have g2 := hid (fits_big f2.out)
  have HN := hid hn
  have HS : Hid (sgn0 (K.numL b) = 1) := hid (by unfold sgn0; rw [if_neg (by omega), if_neg (by omega)])
  have hgle : (((Nat.gcd (K.numL a).natAbs (K.numL b).natAbs : Nat)) : Int).natAbs ≤ BIG := by rw [Int.natAbs_natCast]; exact gcd_le g1.out g2.out
  have GLE := hid hgle
  have hr0 := Int.emod_nonneg (K.numL a) (show K.numL b ≠ 0 by omega)
  have hr1 := Int.emod_lt_of_pos (K.numL a) hn
  have FR : Hid (K.fits (K.numL a % K.numL b)) := hid (by have := f2.out; unfold K.fits at *; omega)
  have FQ : Hid (K.fits (K.numL a / K.numL b)) := hid (by
    have := f1.out
    unfold K.fits at *
    have := Int.natAbs_ediv_le_natAbs (K.numL a) (K.numL b)
    omega)
  obtain ⟨bn, hbn⟩ := Int.eq_ofNat_of_zero_le (show 0 ≤ K.numL b by omega)
  have HBN : Hid (K.numL b = (bn : Int)) := hid hbn
  have BN0 : Hid (0 < bn) := hid (by omega)
  have BNB : Hid (bn ≤ BIG) := hid (by have := g2.out; omega)
  clear hr0 hr1 hbn
  clear hgle hn
  go_enter Tryd.func4, Tryd.ntmps4
  go_wp2_with fail
  refine (divide_ok a b w ha hb va.out vb.out HN.out HT.out).mono ?_
  rintro e w1 ⟨rfl, hx1⟩
  have hy1 : Ext w w1 := hx1
  clear hx1
  go_wp2_with fail
  refine (gcd_ok a b w1 ha hb va.out vb.out (HT.out.ext hy1)).mono ?_
  intro e w2 h2
  obtain ⟨s2, c2, rfl, t2, hx2⟩ := told2_of h2
  have T2 := hid t2
  have hy2 : Ext w w2 := hy1.step hx2
  clear h2 t2 hx2 hy1
  go_wp2_with fail
  refine (rvalid_at a w2 va ha).mono ?_
  rintro e wz ⟨rfl, rfl⟩
  go_wp2_with fail
  refine (rvalid_at b w2 vb hb).mono ?_
  rintro e wz ⟨rfl, rfl⟩
  go_wp2_with fail
  refine (parse_any a w2 va.out).mono ?_
  rintro e w7 ⟨v1, rfl, hv1, hx7⟩
  have hy7 : Ext w w7 := hy2.step hx7
  clear hx7 hy2
  have HV1 := hid hv1
  obtain ⟨A, ka, ca, xs, na, rfl, -⟩ := hv1
  go_wp2_with fail
  refine (parse_any b w7 vb.out).mono ?_
  rintro e w8 ⟨v2, rfl, hv2, hx8⟩
  have hy8 : Ext w w8 := hy7.step hx8
  have HV1' := hid (HV1.out.ext hx8)
  clear hx8 hy7 HV1
  have HV2 := hid hv2
  obtain ⟨B, kb, cb, ys, nb, rfl, -⟩ := hv2
  have hW9 : Ext w8 ((w8.alloc (.cells #[.bool na, .slice A ka ca] 31)).alloc (.cells #[.bool nb, .slice B kb cb] 31)) := ((Ext.rfl' w8).alloc' _).alloc' _
  have hk : ∀ w', Ext ((w8.alloc (.cells #[.bool na, .slice A ka ca] 31)).alloc (.cells #[.bool nb, .slice B kb cb] 31)) w' →
      w'.cell? ⟨w8.heap.size, 0, none⟩ = some (.bool na) ∧ w'.cell? ⟨w8.heap.size, 1, none⟩ = some (.slice A ka ca) ∧ w'.cell? ⟨w8.heap.size + 1, 0, none⟩ = some (.bool nb) ∧ w'.cell? ⟨w8.heap.size + 1, 1, none⟩ = some (.slice B kb cb) := fun w' e => boxes e
  obtain ⟨W9, hW9e⟩ : ∃ W9, ((w8.alloc (.cells #[.bool na, .slice A ka ca] 31)).alloc (.cells #[.bool nb, .slice B kb cb] 31)) = W9 := ⟨_, rfl⟩
  rw [hW9e] at hW9
  rw [hW9e] at hk
  have HWE := hid hW9e
  have HK := hid hk
  have HR1 := hid (HV1'.out.ext hW9)
  have HR2 := hid (HV2.out.ext hW9)
  have HY9 := hid (hy8.step hW9)
  clear hW9e hW9 hk HV1' HV2 hy8
  go_upto_region 6 with fail
  rw [HWE.out]
  obtain ⟨q0, q1, q2, q3⟩ := HK.out _ (Ext.rfl' _)
  go_wp2_with fail
  refine (rgcd_any _ _ _ _ _ HR1.out HR2.out g1.out g2.out).mono ?_
  rintro e w10 ⟨v3, rfl, hv3, hx10⟩
  have HV3 := hid hv3
  obtain ⟨A3, k3, c3', xs3, n3, rfl, -⟩ := hv3
  clear q0 q1 q2 q3
  obtain ⟨q0, q1, q2, q3⟩ := HK.out _ hx10
  go_wp2_with fail
  refine (lawtold_any s2 c2 _ _ _ HV3.out GLE.out T2).mono ?_
  rintro e w11 ⟨rfl, hx11⟩
  have hy11 : Ext W9 w11 := hx10.step hx11
  clear q0 q1 q2 q3 hx10 hx11 HV3
  obtain ⟨q0, q1, q2, q3⟩ := HK.out _ hy11
  go_wp2_with fail
  refine (rsign_at0 w11 (HR2.out.ext hy11) HS).mono ?_
  rintro e w12 ⟨rfl, hx12⟩
  have hy12 : Ext W9 w12 := hy11.step hx12
  clear q0 q1 q2 q3 hx12 hy11
  obtain ⟨q0, q1, q2, q3⟩ := HK.out _ hy12
  go_wp2_with fail
  have HRB := hid (HR2.out.ext hy12)
  rw [HBN.out] at HRB
  refine (rdiv_any _ _ (K.numL a) bn w12 (HR1.out.ext hy12) HRB.out g1.out BNB.out BN0.out).mono ?_
  rintro e w13 ⟨v4, v5, rfl, hv4, hv5, hx13⟩
  rw [← HBN.out] at hv4 hv5
  have HV4 := hid hv4
  have HV5 := hid hv5
  obtain ⟨A4, k4, c4, xs4, n4, rfl, -⟩ := hv4
  obtain ⟨A5, k5, c5, xs5, n5, rfl, -⟩ := hv5
  have hy13 : Ext W9 w13 := hy12.step hx13
  clear q0 q1 q2 q3 hx13 hy12 HRB
  have hW14 : Ext w13 ((w13.alloc (.cells #[.bool n4, .slice A4 k4 c4] 31)).alloc (.cells #[.bool n5, .slice A5 k5 c5] 31)) := ((Ext.rfl' w13).alloc' _).alloc' _
  have hk2 : ∀ w', Ext ((w13.alloc (.cells #[.bool n4, .slice A4 k4 c4] 31)).alloc (.cells #[.bool n5, .slice A5 k5 c5] 31)) w' →
      w'.cell? ⟨w13.heap.size, 0, none⟩ = some (.bool n4) ∧ w'.cell? ⟨w13.heap.size, 1, none⟩ = some (.slice A4 k4 c4) ∧ w'.cell? ⟨w13.heap.size + 1, 0, none⟩ = some (.bool n5) ∧ w'.cell? ⟨w13.heap.size + 1, 1, none⟩ = some (.slice A5 k5 c5) := fun w' e => boxes e
  obtain ⟨W14, hW14e⟩ : ∃ W14, ((w13.alloc (.cells #[.bool n4, .slice A4 k4 c4] 31)).alloc (.cells #[.bool n5, .slice A5 k5 c5] 31)) = W14 := ⟨_, rfl⟩
  rw [hW14e] at hW14
  rw [hW14e] at hk2
  have HWE2 := hid hW14e
  have HK2 := hid hk2
  have HR4 := hid (HV4.out.ext hW14)
  have HR5 := hid (HV5.out.ext hW14)
  have HY14 := hid ((HY9.out.step hy13).step hW14)
  clear hW14e hW14 hk2 HV4 HV5 hy13
  go_upto_region 11 with fail
  rw [HWE2.out]
  obtain ⟨q0, q1, q2, q3⟩ := HK2.out _ (Ext.rfl' _)
  go_wp2_with fail
  refine (lawtold_any _ _ _ _ W14 HR4.out (fits_big FQ.out) (hid (told2_fits FQ.out))).mono ?_
  rintro e w15 ⟨rfl, hx15⟩
  clear q0 q1 q2 q3
  obtain ⟨q0, q1, q2, q3⟩ := HK2.out _ hx15
  go_wp2_with fail
  refine (lawtold_any _ _ _ _ w15 (HR5.out.ext hx15) (fits_big FR.out) (hid (told2_fits FR.out))).mono ?_
  rintro e w16 ⟨rfl, hx16⟩
  have hy16 := hx15.step hx16
  clear q0 q1 q2 q3 hx15 hx16
  go_wp2_with fail
  refine (awake_any w16 ((HT.out.ext HY14.out).ext hy16)).mono ?_
  rintro e w17 ⟨rfl, hx17⟩
  have hfin : Hid (Ext w w17) := hid ((HY14.out.step hy16).step hx17)
  go_wp2
  go_ret
  exact ⟨rfl, hfin.out⟩
set_option maxRecDepth 100000 in
set_option maxHeartbeats 3200000 in
theorem zero_NumDivides (a b : List UInt8) (w : World) (ha : a.length ≤ 140737488351232) (hb : b.length ≤ 140737488351232) (ht : Tab w) (va : Hid (K.validL a = true)) (vb : Hid (K.validL b = true)) (hn : K.numL b = 0) :
    Calls Tryd.prog 4 #[.string (Str a), .string (Str b)] w (TruePost w) := by
  have HT := hid ht
  have f1 := hid (K.txt_numL a va.out).2
  have f2 := hid (K.txt_numL b vb.out).2
  have g1 := hid (fits_big f1.out)
  have g2 := hid (fits_big f2.out)
  have HN := hid hn
  have HS : Hid (sgn0 (K.numL b) = 0) := hid (by unfold sgn0; rw [if_pos hn])
  have hgle : (((Nat.gcd (K.numL a).natAbs (K.numL b).natAbs : Nat)) : Int).natAbs ≤ BIG := by rw [Int.natAbs_natCast]; exact gcd_le g1.out g2.out
  have GLE := hid hgle
  have hcc : (({ data := #[] } : ByteArray) ++ ({ data := #[] } : ByteArray)).toList = [] := by
    rw [show ({ data := #[] } : ByteArray) ++ ({ data := #[] } : ByteArray) = Str [] from rfl, Str_toList]
  clear hgle hn
  go_enter Tryd.func4, Tryd.ntmps4
  go_wp2_with fail
  refine (divide_arg a b w ha hb va.out vb.out (by have := HN.out; omega)).mono ?_
  rintro e w1 ⟨rfl, hx1⟩
  have hy1 : Ext w w1 := hx1
  clear hx1
  go_wp2_with fail
  refine (gcd_ok a b w1 ha hb va.out vb.out (HT.out.ext hy1)).mono ?_
  intro e w2 h2
  obtain ⟨s2, c2, rfl, t2, hx2⟩ := told2_of h2
  have T2 := hid t2
  have hy2 : Ext w w2 := hy1.step hx2
  clear h2 t2 hx2 hy1
  go_wp2_with fail
  refine (rvalid_at a w2 va ha).mono ?_
  rintro e wz ⟨rfl, rfl⟩
  go_wp2_with fail
  refine (rvalid_at b w2 vb hb).mono ?_
  rintro e wz ⟨rfl, rfl⟩
  go_wp2_with fail
  refine (parse_any a w2 va.out).mono ?_
  rintro e w7 ⟨v1, rfl, hv1, hx7⟩
  have hy7 : Ext w w7 := hy2.step hx7
  clear hx7 hy2
  have HV1 := hid hv1
  obtain ⟨A, ka, ca, xs, na, rfl, -⟩ := hv1
  go_wp2_with fail
  refine (parse_any b w7 vb.out).mono ?_
  rintro e w8 ⟨v2, rfl, hv2, hx8⟩
  have hy8 : Ext w w8 := hy7.step hx8
  have HV1' := hid (HV1.out.ext hx8)
  clear hx8 hy7 HV1
  have HV2 := hid hv2
  obtain ⟨B, kb, cb, ys, nb, rfl, -⟩ := hv2
  have hW9 : Ext w8 ((w8.alloc (.cells #[.bool na, .slice A ka ca] 31)).alloc (.cells #[.bool nb, .slice B kb cb] 31)) := ((Ext.rfl' w8).alloc' _).alloc' _
  have hk : ∀ w', Ext ((w8.alloc (.cells #[.bool na, .slice A ka ca] 31)).alloc (.cells #[.bool nb, .slice B kb cb] 31)) w' →
      w'.cell? ⟨w8.heap.size, 0, none⟩ = some (.bool na) ∧ w'.cell? ⟨w8.heap.size, 1, none⟩ = some (.slice A ka ca) ∧ w'.cell? ⟨w8.heap.size + 1, 0, none⟩ = some (.bool nb) ∧ w'.cell? ⟨w8.heap.size + 1, 1, none⟩ = some (.slice B kb cb) := fun w' e => boxes e
  obtain ⟨W9, hW9e⟩ : ∃ W9, ((w8.alloc (.cells #[.bool na, .slice A ka ca] 31)).alloc (.cells #[.bool nb, .slice B kb cb] 31)) = W9 := ⟨_, rfl⟩
  rw [hW9e] at hW9
  rw [hW9e] at hk
  have HWE := hid hW9e
  have HK := hid hk
  have HR1 := hid (HV1'.out.ext hW9)
  have HR2 := hid (HV2.out.ext hW9)
  have HY9 := hid (hy8.step hW9)
  clear hW9e hW9 hk HV1' HV2 hy8
  go_upto_region 6 with fail
  rw [HWE.out]
  obtain ⟨q0, q1, q2, q3⟩ := HK.out _ (Ext.rfl' _)
  go_wp2_with fail
  refine (rgcd_any _ _ _ _ _ HR1.out HR2.out g1.out g2.out).mono ?_
  rintro e w10 ⟨v3, rfl, hv3, hx10⟩
  have HV3 := hid hv3
  obtain ⟨A3, k3, c3', xs3, n3, rfl, -⟩ := hv3
  clear q0 q1 q2 q3
  obtain ⟨q0, q1, q2, q3⟩ := HK.out _ hx10
  go_wp2_with fail
  refine (lawtold_any s2 c2 _ _ _ HV3.out GLE.out T2).mono ?_
  rintro e w11 ⟨rfl, hx11⟩
  have hy11 : Ext W9 w11 := hx10.step hx11
  clear q0 q1 q2 q3 hx10 hx11 HV3
  obtain ⟨q0, q1, q2, q3⟩ := HK.out _ hy11
  go_wp2_with fail
  refine (rsign_at0 w11 (HR2.out.ext hy11) HS).mono ?_
  rintro e w12 ⟨rfl, hx12⟩
  have hy12 : Ext W9 w12 := hy11.step hx12
  clear q0 q1 q2 q3 hx12 hy11
  go_wp2_with fail
  refine (awake_any w12 ((HT.out.ext HY9.out).ext hy12)).mono ?_
  rintro e w17 ⟨rfl, hx17⟩
  have hfin : Hid (Ext w w17) := hid ((HY9.out.step hy12).step hx17)
  go_wp2
  go_ret
  exact ⟨rfl, hfin.out⟩
set_option maxRecDepth 100000 in
set_option maxHeartbeats 3200000 in
theorem neg_NumDivides (a b : List UInt8) (w : World) (ha : a.length ≤ 140737488351232) (hb : b.length ≤ 140737488351232) (ht : Tab w) (va : Hid (K.validL a = true)) (vb : Hid (K.validL b = true)) (hn : K.numL b < 0) :
    Calls Tryd.prog 4 #[.string (Str a), .string (Str b)] w (TruePost w) := by
  have HT := hid ht
  have f1 := hid (K.txt_numL a va.out).2
  have f2 := hid (K.txt_numL b vb.out).2
  have g1 := hid (fits_big f1.out)
  have g2 := hid (fits_big f2.out)
  have HN := hid hn
  have HS : Hid (sgn0 (K.numL b) = -1) := hid (by unfold sgn0; rw [if_neg (by omega), if_pos hn])
  have hgle : (((Nat.gcd (K.numL a).natAbs (K.numL b).natAbs : Nat)) : Int).natAbs ≤ BIG := by rw [Int.natAbs_natCast]; exact gcd_le g1.out g2.out
  have GLE := hid hgle
  have hcc : (({ data := #[] } : ByteArray) ++ ({ data := #[] } : ByteArray)).toList = [] := by
    rw [show ({ data := #[] } : ByteArray) ++ ({ data := #[] } : ByteArray) = Str [] from rfl, Str_toList]
  clear hgle hn
  go_enter Tryd.func4, Tryd.ntmps4
  go_wp2_with fail
  refine (divide_arg a b w ha hb va.out vb.out (by have := HN.out; omega)).mono ?_
  rintro e w1 ⟨rfl, hx1⟩
  have hy1 : Ext w w1 := hx1
  clear hx1
  go_wp2_with fail
  refine (gcd_ok a b w1 ha hb va.out vb.out (HT.out.ext hy1)).mono ?_
  intro e w2 h2
  obtain ⟨s2, c2, rfl, t2, hx2⟩ := told2_of h2
  have T2 := hid t2
  have hy2 : Ext w w2 := hy1.step hx2
  clear h2 t2 hx2 hy1
  go_wp2_with fail
  refine (rvalid_at a w2 va ha).mono ?_
  rintro e wz ⟨rfl, rfl⟩
  go_wp2_with fail
  refine (rvalid_at b w2 vb hb).mono ?_
  rintro e wz ⟨rfl, rfl⟩
  go_wp2_with fail
  refine (parse_any a w2 va.out).mono ?_
  rintro e w7 ⟨v1, rfl, hv1, hx7⟩
  have hy7 : Ext w w7 := hy2.step hx7
  clear hx7 hy2
  have HV1 := hid hv1
  obtain ⟨A, ka, ca, xs, na, rfl, -⟩ := hv1
  go_wp2_with fail
  refine (parse_any b w7 vb.out).mono ?_
  rintro e w8 ⟨v2, rfl, hv2, hx8⟩
  have hy8 : Ext w w8 := hy7.step hx8
  have HV1' := hid (HV1.out.ext hx8)
  clear hx8 hy7 HV1
  have HV2 := hid hv2
  obtain ⟨B, kb, cb, ys, nb, rfl, -⟩ := hv2
  have hW9 : Ext w8 ((w8.alloc (.cells #[.bool na, .slice A ka ca] 31)).alloc (.cells #[.bool nb, .slice B kb cb] 31)) := ((Ext.rfl' w8).alloc' _).alloc' _
  have hk : ∀ w', Ext ((w8.alloc (.cells #[.bool na, .slice A ka ca] 31)).alloc (.cells #[.bool nb, .slice B kb cb] 31)) w' →
      w'.cell? ⟨w8.heap.size, 0, none⟩ = some (.bool na) ∧ w'.cell? ⟨w8.heap.size, 1, none⟩ = some (.slice A ka ca) ∧ w'.cell? ⟨w8.heap.size + 1, 0, none⟩ = some (.bool nb) ∧ w'.cell? ⟨w8.heap.size + 1, 1, none⟩ = some (.slice B kb cb) := fun w' e => boxes e
  obtain ⟨W9, hW9e⟩ : ∃ W9, ((w8.alloc (.cells #[.bool na, .slice A ka ca] 31)).alloc (.cells #[.bool nb, .slice B kb cb] 31)) = W9 := ⟨_, rfl⟩
  rw [hW9e] at hW9
  rw [hW9e] at hk
  have HWE := hid hW9e
  have HK := hid hk
  have HR1 := hid (HV1'.out.ext hW9)
  have HR2 := hid (HV2.out.ext hW9)
  have HY9 := hid (hy8.step hW9)
  clear hW9e hW9 hk HV1' HV2 hy8
  go_upto_region 6 with fail
  rw [HWE.out]
  obtain ⟨q0, q1, q2, q3⟩ := HK.out _ (Ext.rfl' _)
  go_wp2_with fail
  refine (rgcd_any _ _ _ _ _ HR1.out HR2.out g1.out g2.out).mono ?_
  rintro e w10 ⟨v3, rfl, hv3, hx10⟩
  have HV3 := hid hv3
  obtain ⟨A3, k3, c3', xs3, n3, rfl, -⟩ := hv3
  clear q0 q1 q2 q3
  obtain ⟨q0, q1, q2, q3⟩ := HK.out _ hx10
  go_wp2_with fail
  refine (lawtold_any s2 c2 _ _ _ HV3.out GLE.out T2).mono ?_
  rintro e w11 ⟨rfl, hx11⟩
  have hy11 : Ext W9 w11 := hx10.step hx11
  clear q0 q1 q2 q3 hx10 hx11 HV3
  obtain ⟨q0, q1, q2, q3⟩ := HK.out _ hy11
  go_wp2_with fail
  refine (rsign_at0 w11 (HR2.out.ext hy11) HS).mono ?_
  rintro e w12 ⟨rfl, hx12⟩
  have hy12 : Ext W9 w12 := hy11.step hx12
  clear q0 q1 q2 q3 hx12 hy11
  go_wp2_with fail
  refine (awake_any w12 ((HT.out.ext HY9.out).ext hy12)).mono ?_
  rintro e w17 ⟨rfl, hx17⟩
  have hfin : Hid (Ext w w17) := hid ((HY9.out.step hy12).step hx17)
  go_wp2
  go_ret
  exact ⟨rfl, hfin.out⟩
theorem law_NumDivides (a b : List UInt8) (w : World) (ha : a.length ≤ 140737488351232) (hb : b.length ≤ 140737488351232) (ht : Tab w) :
    Calls Tryd.prog 4 #[.string (Str a), .string (Str b)] w (TruePost w) := by
  by_cases h : K.validL a = true ∧ K.validL b = true
  · rcases Int.lt_trichotomy (K.numL b) 0 with hc | hc | hc
    · exact neg_NumDivides a b w ha hb ht (hid h.1) (hid h.2) hc
    · exact zero_NumDivides a b w ha hb ht (hid h.1) (hid h.2) hc
    · exact pos_NumDivides a b w ha hb ht (hid h.1) (hid h.2) hc
  · refine bad_NumDivides a b _ _ w ha hb ht (hid rfl) (hid rfl) ?_
    cases h1 : K.validL a <;> cases h2 : K.validL b <;> simp_all
end Go.Proofs.YtoilkfohhhidpaaDoor
