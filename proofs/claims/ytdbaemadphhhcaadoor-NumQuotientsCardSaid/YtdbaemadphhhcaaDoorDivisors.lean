/- the law NumDivisors -/
import Derived.Test.YtdbaemadphhhcaaDoorVal
import Derived.Test.YtdbaemadphhhcaaDoorRSign
namespace Go.Proofs.YtdbaemadphhhcaaDoor
open Go.RowKit
theorem lit_zero : K.validL [48] = true ∧ K.numL [48] = 0 := ⟨by decide +kernel, by decide +kernel⟩
theorem ne_zero_text {x : List UInt8} (h : ¬ K.numL x = 0) : ((Str x).toList == [48]) = false := by
  rw [Str_toList]
  rw [beq_eq_false_iff_ne]
  intro e; apply h; rw [e]; exact lit_zero.2
theorem is_zero_text {x : List UInt8} (v : K.validL x = true) (h : K.numL x = 0) : x = [48] := same_num v lit_zero.1 (h.trans lit_zero.2.symm)
set_option maxRecDepth 100000 in
theorem divides_yes {d n : List UInt8} (w : World) (h1 : d.length ≤ 140737488351232) (h2 : n.length ≤ 140737488351232) (v1 : K.validL d = true) (v2 : K.validL n = true) (hp : 0 < K.numL d) (hq : Hid (K.numL n % K.numL d = 0)) (ht : Tab w) :
    Calls Tryd.prog 38 #[.string (Str d), .string (Str n)] w (fun e w' => e = .returned (.bool true) ∧ Ext w w') := by
  have hc := hid (divide_ok n d w h2 h1 v2 v1 hp ht)
  go_enter Tryd.func38, Tryd.ntmps38
  go_wp2_with fail
  refine hc.out.mono ?_
  rintro e w1 ⟨rfl, hx⟩
  rw [hq.out, K.txt_zero]
  have e0 : (Str [48]).toList = [48] := Str_toList _
  go_wp2
  go_ret
  exact ⟨rfl, hx⟩
set_option maxRecDepth 100000 in
theorem divides_no {d n : List UInt8} (w : World) (h1 : d.length ≤ 140737488351232) (h2 : n.length ≤ 140737488351232) (v1 : K.validL d = true) (v2 : K.validL n = true) (hp : 0 < K.numL d) (hq : Hid (¬ K.numL n % K.numL d = 0)) (ht : Tab w) :
    Calls Tryd.prog 38 #[.string (Str d), .string (Str n)] w (fun e w' => e = .returned (.bool false) ∧ Ext w w') := by
  have hc := hid (divide_ok n d w h2 h1 v2 v1 hp ht)
  have e0 : ((Str (K.txt (K.numL n % K.numL d))).toList == [48]) = false := ne_zero_text (by rw [K.numL_txt]; exact hq.out)
  clear hp hq
  go_enter Tryd.func38, Tryd.ntmps38
  go_wp2_with fail
  refine hc.out.mono ?_
  rintro e w1 ⟨rfl, hx⟩
  generalize K.txt (K.numL n % K.numL d) = x at *
  go_wp2
  go_ret
  exact ⟨rfl, hx⟩
theorem rsign_at {v : Value} {n s : Int} (w : World) (h : RefV w v n) (hs : Hid (sgn0 n = s)) :
    Calls Tryd.prog 27 #[v] w (fun e w' => e = .returned (.int .i64 s) ∧ Ext w w') := by
  rw [← hs.out]; exact rsign_any v n w h
theorem gcd_at {a b x : List UInt8} (w : World) (h1 : a.length ≤ 140737488351232) (h2 : b.length ≤ 140737488351232) (v1 : K.validL a = true) (v2 : K.validL b = true) (hx : Hid (K.validL x = true ∧ K.numL x = (Nat.gcd (K.numL a).natAbs (K.numL b).natAbs : Int))) (ht : Tab w) :
    Calls Tryd.prog 25 #[.string (Str a), .string (Str b)] w (fun e w' => e = .returned (.tuple #[.string (Str x), .int .i64 0]) ∧ Ext w w') :=
  (gcd_ok a b w h1 h2 v1 v2 ht).mono fun e w' h => told_eq h hx.out.1 hx.out.2
theorem gcd_fits {a b : Int} (ha : K.fits a) (hb : K.fits b) : K.fits (Nat.gcd a.natAbs b.natAbs : Int) := by
  unfold K.fits at *
  rw [Int.natAbs_natCast]
  have := gcd_le (c := K.LIM - 1) (a := a.natAbs) (b := b.natAbs) (by omega) (by omega)
  omega
set_option maxRecDepth 100000 in
theorem bad0_NumDivisors (a b c : List UInt8) (w : World) (ha : a.length ≤ 140737488351232) (hb : b.length ≤ 140737488351232) (hc : c.length ≤ 140737488351232) (ht : Tab w) (va : Hid (K.validL a = false)) :
    Calls Tryd.prog 9 #[.string (Str a), .string (Str b), .string (Str c)] w (TruePost w) := by
  have HT := hid ht
  go_enter Tryd.func9, Tryd.ntmps9
  go_wp2_with fail
  refine (rvalid_at a w va ha).mono ?_
  rintro e wz ⟨rfl, rfl⟩
  go_wp2_with fail
  refine (awake_any w HT.out).mono ?_
  rintro e w1 ⟨rfl, hx1⟩
  have hy1 : Ext w w1 := hx1
  clear hx1
  go_wp2
  go_ret
  exact ⟨rfl, hy1⟩
set_option maxRecDepth 100000 in
theorem bad1_NumDivisors (a b c : List UInt8) (w : World) (ha : a.length ≤ 140737488351232) (hb : b.length ≤ 140737488351232) (hc : c.length ≤ 140737488351232) (ht : Tab w) (va : Hid (K.validL a = true)) (vb : Hid (K.validL b = false)) :
    Calls Tryd.prog 9 #[.string (Str a), .string (Str b), .string (Str c)] w (TruePost w) := by
  have HT := hid ht
  go_enter Tryd.func9, Tryd.ntmps9
  go_wp2_with fail
  refine (rvalid_at a w va ha).mono ?_
  rintro e wz ⟨rfl, rfl⟩
  go_wp2_with fail
  refine (rvalid_at b w vb hb).mono ?_
  rintro e wz ⟨rfl, rfl⟩
  go_wp2_with fail
  refine (awake_any w HT.out).mono ?_
  rintro e w1 ⟨rfl, hx1⟩
  have hy1 : Ext w w1 := hx1
  clear hx1
  go_wp2
  go_ret
  exact ⟨rfl, hy1⟩
set_option maxRecDepth 100000 in
theorem bad2_NumDivisors (a b c : List UInt8) (w : World) (ha : a.length ≤ 140737488351232) (hb : b.length ≤ 140737488351232) (hc : c.length ≤ 140737488351232) (ht : Tab w) (va : Hid (K.validL a = true)) (vb : Hid (K.validL b = true)) (vc : Hid (K.validL c = false)) :
    Calls Tryd.prog 9 #[.string (Str a), .string (Str b), .string (Str c)] w (TruePost w) := by
  have HT := hid ht
  go_enter Tryd.func9, Tryd.ntmps9
  go_wp2_with fail
  refine (rvalid_at a w va ha).mono ?_
  rintro e wz ⟨rfl, rfl⟩
  go_wp2_with fail
  refine (rvalid_at b w vb hb).mono ?_
  rintro e wz ⟨rfl, rfl⟩
  go_wp2_with fail
  refine (rvalid_at c w vc hc).mono ?_
  rintro e wz ⟨rfl, rfl⟩
  go_wp2_with fail
  refine (awake_any w HT.out).mono ?_
  rintro e w1 ⟨rfl, hx1⟩
  have hy1 : Ext w w1 := hx1
  clear hx1
  go_wp2
  go_ret
  exact ⟨rfl, hy1⟩
set_option maxRecDepth 100000 in
theorem okZ_NumDivisors (c : List UInt8) (w : World) (hc : c.length ≤ 140737488351232) (ht : Tab w) (vc : Hid (K.validL c = true)) :
    Calls Tryd.prog 9 #[.string (Str [48]), .string (Str [48]), .string (Str c)] w (TruePost w) := by
  have h1 : Hid (([48] : List UInt8).length ≤ 140737488351232) := hid (by simp)
  have vz := hid lit_zero.1
  have hx := hid (show K.validL [48] = true ∧ K.numL [48] = (Nat.gcd (K.numL [48]).natAbs (K.numL [48]).natAbs : Int) from ⟨lit_zero.1, by rw [lit_zero.2]; rfl⟩)
  have HT := hid ht
  have e0 : (Str [48]).toList = [48] := Str_toList _
  go_enter Tryd.func9, Tryd.ntmps9
  go_wp2_with fail
  refine (rvalid_at [48] w vz h1.out).mono ?_
  rintro e wz ⟨rfl, rfl⟩
  go_wp2_with fail
  refine (rvalid_at [48] w vz h1.out).mono ?_
  rintro e wz ⟨rfl, rfl⟩
  go_wp2_with fail
  refine (rvalid_at c w vc hc).mono ?_
  rintro e wz ⟨rfl, rfl⟩
  go_wp2_with fail
  refine (gcd_at w h1.out h1.out vz.out vz.out hx HT.out).mono ?_
  rintro e w1 ⟨rfl, hx1⟩
  have hy1 : Ext w w1 := hx1
  clear hx1
  go_wp2_with fail
  refine (awake_any w1 (HT.out.ext hy1)).mono ?_
  rintro e w2 ⟨rfl, hx2⟩
  have hy2 : Ext w w2 := hy1.step hx2
  clear hx2 hy1
  go_wp2
  go_ret
  exact ⟨rfl, hy2⟩
set_option maxRecDepth 100000 in
set_option maxHeartbeats 1600000 in
theorem okN0_NumDivisors (a b c x : List UInt8) (w : World) (ha : a.length ≤ 140737488351232) (hb : b.length ≤ 140737488351232) (hc : c.length ≤ 140737488351232) (hx0 : x.length ≤ 140737488351232) (ht : Tab w) (va : Hid (K.validL a = true)) (vb : Hid (K.validL b = true)) (vc : Hid (K.validL c = true))
    (hx : Hid (K.validL x = true ∧ K.numL x = (Nat.gcd (K.numL a).natAbs (K.numL b).natAbs : Int))) (hpx : Hid (0 < K.numL x)) (hxa : Hid (K.numL a % K.numL x = 0)) (hxb : Hid (K.numL b % K.numL x = 0)) (hsg : Hid (sgn0 (K.numL c) = 0))  :
    Calls Tryd.prog 9 #[.string (Str a), .string (Str b), .string (Str c)] w (TruePost w) := by
  have HT := hid ht
  have e0 : ((Str x).toList == [48]) = false := ne_zero_text (by have := hpx.out; omega)
  go_enter Tryd.func9, Tryd.ntmps9
  go_wp2_with fail
  refine (rvalid_at a w va ha).mono ?_
  rintro e wz ⟨rfl, rfl⟩
  go_wp2_with fail
  refine (rvalid_at b w vb hb).mono ?_
  rintro e wz ⟨rfl, rfl⟩
  go_wp2_with fail
  refine (rvalid_at c w vc hc).mono ?_
  rintro e wz ⟨rfl, rfl⟩
  go_wp2_with fail
  refine (gcd_at w ha hb va.out vb.out hx HT.out).mono ?_
  rintro e w1 ⟨rfl, hx1⟩
  have hy1 : Ext w w1 := hx1
  clear hx1
  go_wp2_with fail
  refine (divides_yes w1 hx0 ha hx.out.1 va.out hpx.out hxa (HT.out.ext hy1)).mono ?_
  rintro e w2 ⟨rfl, hx2⟩
  have hy2 : Ext w w2 := hy1.step hx2
  clear hx2 hy1
  go_wp2_with fail
  refine (divides_yes w2 hx0 hb hx.out.1 vb.out hpx.out hxb (HT.out.ext hy2)).mono ?_
  rintro e w3 ⟨rfl, hx3⟩
  have hy3 : Ext w w3 := hy2.step hx3
  clear hx3 hy2
  go_wp2_with fail
  refine (parse_any c w3 vc.out).mono ?_
  rintro e wp ⟨v, rfl, hv, hxp⟩
  have hyp : Ext w wp := hy3.step hxp
  clear hxp hy3
  have HV := hid hv
  obtain ⟨A, k, cc, xs, bb, rfl, -⟩ := hv
  go_wp2_with fail
  refine (rsign_at wp HV.out hsg).mono ?_
  rintro e w4 ⟨rfl, hx4⟩
  have hy4 : Ext w w4 := hyp.step hx4
  clear hx4 hyp
  go_wp2_with fail
  refine (awake_any w4 (HT.out.ext hy4)).mono ?_
  rintro e w5 ⟨rfl, hx5⟩
  have hy5 : Ext w w5 := hy4.step hx5
  clear hx5 hy4
  go_wp2
  go_ret
  exact ⟨rfl, hy5⟩
set_option maxRecDepth 100000 in
set_option maxHeartbeats 1600000 in
theorem okN1_NumDivisors (a b c x : List UInt8) (w : World) (ha : a.length ≤ 140737488351232) (hb : b.length ≤ 140737488351232) (hc : c.length ≤ 140737488351232) (hx0 : x.length ≤ 140737488351232) (ht : Tab w) (va : Hid (K.validL a = true)) (vb : Hid (K.validL b = true)) (vc : Hid (K.validL c = true))
    (hx : Hid (K.validL x = true ∧ K.numL x = (Nat.gcd (K.numL a).natAbs (K.numL b).natAbs : Int))) (hpx : Hid (0 < K.numL x)) (hxa : Hid (K.numL a % K.numL x = 0)) (hxb : Hid (K.numL b % K.numL x = 0)) (hsg : Hid (sgn0 (K.numL c) = -1))  :
    Calls Tryd.prog 9 #[.string (Str a), .string (Str b), .string (Str c)] w (TruePost w) := by
  have HT := hid ht
  have e0 : ((Str x).toList == [48]) = false := ne_zero_text (by have := hpx.out; omega)
  go_enter Tryd.func9, Tryd.ntmps9
  go_wp2_with fail
  refine (rvalid_at a w va ha).mono ?_
  rintro e wz ⟨rfl, rfl⟩
  go_wp2_with fail
  refine (rvalid_at b w vb hb).mono ?_
  rintro e wz ⟨rfl, rfl⟩
  go_wp2_with fail
  refine (rvalid_at c w vc hc).mono ?_
  rintro e wz ⟨rfl, rfl⟩
  go_wp2_with fail
  refine (gcd_at w ha hb va.out vb.out hx HT.out).mono ?_
  rintro e w1 ⟨rfl, hx1⟩
  have hy1 : Ext w w1 := hx1
  clear hx1
  go_wp2_with fail
  refine (divides_yes w1 hx0 ha hx.out.1 va.out hpx.out hxa (HT.out.ext hy1)).mono ?_
  rintro e w2 ⟨rfl, hx2⟩
  have hy2 : Ext w w2 := hy1.step hx2
  clear hx2 hy1
  go_wp2_with fail
  refine (divides_yes w2 hx0 hb hx.out.1 vb.out hpx.out hxb (HT.out.ext hy2)).mono ?_
  rintro e w3 ⟨rfl, hx3⟩
  have hy3 : Ext w w3 := hy2.step hx3
  clear hx3 hy2
  go_wp2_with fail
  refine (parse_any c w3 vc.out).mono ?_
  rintro e wp ⟨v, rfl, hv, hxp⟩
  have hyp : Ext w wp := hy3.step hxp
  clear hxp hy3
  have HV := hid hv
  obtain ⟨A, k, cc, xs, bb, rfl, -⟩ := hv
  go_wp2_with fail
  refine (rsign_at wp HV.out hsg).mono ?_
  rintro e w4 ⟨rfl, hx4⟩
  have hy4 : Ext w w4 := hyp.step hx4
  clear hx4 hyp
  go_wp2_with fail
  refine (awake_any w4 (HT.out.ext hy4)).mono ?_
  rintro e w5 ⟨rfl, hx5⟩
  have hy5 : Ext w w5 := hy4.step hx5
  clear hx5 hy4
  go_wp2
  go_ret
  exact ⟨rfl, hy5⟩
set_option maxRecDepth 100000 in
set_option maxHeartbeats 1600000 in
theorem okF1_NumDivisors (a b c x : List UInt8) (w : World) (ha : a.length ≤ 140737488351232) (hb : b.length ≤ 140737488351232) (hc : c.length ≤ 140737488351232) (hx0 : x.length ≤ 140737488351232) (ht : Tab w) (va : Hid (K.validL a = true)) (vb : Hid (K.validL b = true)) (vc : Hid (K.validL c = true))
    (hx : Hid (K.validL x = true ∧ K.numL x = (Nat.gcd (K.numL a).natAbs (K.numL b).natAbs : Int))) (hpx : Hid (0 < K.numL x)) (hxa : Hid (K.numL a % K.numL x = 0)) (hxb : Hid (K.numL b % K.numL x = 0)) (hsg : Hid (sgn0 (K.numL c) = 1)) (hpc : Hid (0 < K.numL c)) (ha1 : Hid (¬ K.numL a % K.numL c = 0)) :
    Calls Tryd.prog 9 #[.string (Str a), .string (Str b), .string (Str c)] w (TruePost w) := by
  have HT := hid ht
  have e0 : ((Str x).toList == [48]) = false := ne_zero_text (by have := hpx.out; omega)
  go_enter Tryd.func9, Tryd.ntmps9
  go_wp2_with fail
  refine (rvalid_at a w va ha).mono ?_
  rintro e wz ⟨rfl, rfl⟩
  go_wp2_with fail
  refine (rvalid_at b w vb hb).mono ?_
  rintro e wz ⟨rfl, rfl⟩
  go_wp2_with fail
  refine (rvalid_at c w vc hc).mono ?_
  rintro e wz ⟨rfl, rfl⟩
  go_wp2_with fail
  refine (gcd_at w ha hb va.out vb.out hx HT.out).mono ?_
  rintro e w1 ⟨rfl, hx1⟩
  have hy1 : Ext w w1 := hx1
  clear hx1
  go_wp2_with fail
  refine (divides_yes w1 hx0 ha hx.out.1 va.out hpx.out hxa (HT.out.ext hy1)).mono ?_
  rintro e w2 ⟨rfl, hx2⟩
  have hy2 : Ext w w2 := hy1.step hx2
  clear hx2 hy1
  go_wp2_with fail
  refine (divides_yes w2 hx0 hb hx.out.1 vb.out hpx.out hxb (HT.out.ext hy2)).mono ?_
  rintro e w3 ⟨rfl, hx3⟩
  have hy3 : Ext w w3 := hy2.step hx3
  clear hx3 hy2
  go_wp2_with fail
  refine (parse_any c w3 vc.out).mono ?_
  rintro e wp ⟨v, rfl, hv, hxp⟩
  have hyp : Ext w wp := hy3.step hxp
  clear hxp hy3
  have HV := hid hv
  obtain ⟨A, k, cc, xs, bb, rfl, -⟩ := hv
  go_wp2_with fail
  refine (rsign_at wp HV.out hsg).mono ?_
  rintro e w4 ⟨rfl, hx4⟩
  have hy4 : Ext w w4 := hyp.step hx4
  clear hx4 hyp
  go_wp2_with fail
  refine (divides_no w4 hc ha vc.out va.out hpc.out ha1 (HT.out.ext hy4)).mono ?_
  rintro e w5 ⟨rfl, hx5⟩
  have hy5 : Ext w w5 := hy4.step hx5
  clear hx5 hy4
  go_wp2_with fail
  refine (awake_any w5 (HT.out.ext hy5)).mono ?_
  rintro e w6 ⟨rfl, hx6⟩
  have hy6 : Ext w w6 := hy5.step hx6
  clear hx6 hy5
  go_wp2
  go_ret
  exact ⟨rfl, hy6⟩
set_option maxRecDepth 100000 in
set_option maxHeartbeats 1600000 in
theorem okF2_NumDivisors (a b c x : List UInt8) (w : World) (ha : a.length ≤ 140737488351232) (hb : b.length ≤ 140737488351232) (hc : c.length ≤ 140737488351232) (hx0 : x.length ≤ 140737488351232) (ht : Tab w) (va : Hid (K.validL a = true)) (vb : Hid (K.validL b = true)) (vc : Hid (K.validL c = true))
    (hx : Hid (K.validL x = true ∧ K.numL x = (Nat.gcd (K.numL a).natAbs (K.numL b).natAbs : Int))) (hpx : Hid (0 < K.numL x)) (hxa : Hid (K.numL a % K.numL x = 0)) (hxb : Hid (K.numL b % K.numL x = 0)) (hsg : Hid (sgn0 (K.numL c) = 1)) (hpc : Hid (0 < K.numL c)) (ha1 : Hid (K.numL a % K.numL c = 0)) (hb1 : Hid (¬ K.numL b % K.numL c = 0)) :
    Calls Tryd.prog 9 #[.string (Str a), .string (Str b), .string (Str c)] w (TruePost w) := by
  have HT := hid ht
  have e0 : ((Str x).toList == [48]) = false := ne_zero_text (by have := hpx.out; omega)
  go_enter Tryd.func9, Tryd.ntmps9
  go_wp2_with fail
  refine (rvalid_at a w va ha).mono ?_
  rintro e wz ⟨rfl, rfl⟩
  go_wp2_with fail
  refine (rvalid_at b w vb hb).mono ?_
  rintro e wz ⟨rfl, rfl⟩
  go_wp2_with fail
  refine (rvalid_at c w vc hc).mono ?_
  rintro e wz ⟨rfl, rfl⟩
  go_wp2_with fail
  refine (gcd_at w ha hb va.out vb.out hx HT.out).mono ?_
  rintro e w1 ⟨rfl, hx1⟩
  have hy1 : Ext w w1 := hx1
  clear hx1
  go_wp2_with fail
  refine (divides_yes w1 hx0 ha hx.out.1 va.out hpx.out hxa (HT.out.ext hy1)).mono ?_
  rintro e w2 ⟨rfl, hx2⟩
  have hy2 : Ext w w2 := hy1.step hx2
  clear hx2 hy1
  go_wp2_with fail
  refine (divides_yes w2 hx0 hb hx.out.1 vb.out hpx.out hxb (HT.out.ext hy2)).mono ?_
  rintro e w3 ⟨rfl, hx3⟩
  have hy3 : Ext w w3 := hy2.step hx3
  clear hx3 hy2
  go_wp2_with fail
  refine (parse_any c w3 vc.out).mono ?_
  rintro e wp ⟨v, rfl, hv, hxp⟩
  have hyp : Ext w wp := hy3.step hxp
  clear hxp hy3
  have HV := hid hv
  obtain ⟨A, k, cc, xs, bb, rfl, -⟩ := hv
  go_wp2_with fail
  refine (rsign_at wp HV.out hsg).mono ?_
  rintro e w4 ⟨rfl, hx4⟩
  have hy4 : Ext w w4 := hyp.step hx4
  clear hx4 hyp
  go_wp2_with fail
  refine (divides_yes w4 hc ha vc.out va.out hpc.out ha1 (HT.out.ext hy4)).mono ?_
  rintro e w5 ⟨rfl, hx5⟩
  have hy5 : Ext w w5 := hy4.step hx5
  clear hx5 hy4
  go_wp2_with fail
  refine (divides_no w5 hc hb vc.out vb.out hpc.out hb1 (HT.out.ext hy5)).mono ?_
  rintro e w6 ⟨rfl, hx6⟩
  have hy6 : Ext w w6 := hy5.step hx6
  clear hx6 hy5
  go_wp2_with fail
  refine (awake_any w6 (HT.out.ext hy6)).mono ?_
  rintro e w7 ⟨rfl, hx7⟩
  have hy7 : Ext w w7 := hy6.step hx7
  clear hx7 hy6
  go_wp2
  go_ret
  exact ⟨rfl, hy7⟩
set_option maxRecDepth 100000 in
set_option maxHeartbeats 1600000 in
theorem okT_NumDivisors (a b c x : List UInt8) (w : World) (ha : a.length ≤ 140737488351232) (hb : b.length ≤ 140737488351232) (hc : c.length ≤ 140737488351232) (hx0 : x.length ≤ 140737488351232) (ht : Tab w) (va : Hid (K.validL a = true)) (vb : Hid (K.validL b = true)) (vc : Hid (K.validL c = true))
    (hx : Hid (K.validL x = true ∧ K.numL x = (Nat.gcd (K.numL a).natAbs (K.numL b).natAbs : Int))) (hpx : Hid (0 < K.numL x)) (hxa : Hid (K.numL a % K.numL x = 0)) (hxb : Hid (K.numL b % K.numL x = 0)) (hsg : Hid (sgn0 (K.numL c) = 1)) (hpc : Hid (0 < K.numL c)) (ha1 : Hid (K.numL a % K.numL c = 0)) (hb1 : Hid (K.numL b % K.numL c = 0)) (hx1 : Hid (K.numL x % K.numL c = 0)) :
    Calls Tryd.prog 9 #[.string (Str a), .string (Str b), .string (Str c)] w (TruePost w) := by
  have HT := hid ht
  have e0 : ((Str x).toList == [48]) = false := ne_zero_text (by have := hpx.out; omega)
  go_enter Tryd.func9, Tryd.ntmps9
  go_wp2_with fail
  refine (rvalid_at a w va ha).mono ?_
  rintro e wz ⟨rfl, rfl⟩
  go_wp2_with fail
  refine (rvalid_at b w vb hb).mono ?_
  rintro e wz ⟨rfl, rfl⟩
  go_wp2_with fail
  refine (rvalid_at c w vc hc).mono ?_
  rintro e wz ⟨rfl, rfl⟩
  go_wp2_with fail
  refine (gcd_at w ha hb va.out vb.out hx HT.out).mono ?_
  rintro e w1 ⟨rfl, hx1⟩
  have hy1 : Ext w w1 := hx1
  clear hx1
  go_wp2_with fail
  refine (divides_yes w1 hx0 ha hx.out.1 va.out hpx.out hxa (HT.out.ext hy1)).mono ?_
  rintro e w2 ⟨rfl, hx2⟩
  have hy2 : Ext w w2 := hy1.step hx2
  clear hx2 hy1
  go_wp2_with fail
  refine (divides_yes w2 hx0 hb hx.out.1 vb.out hpx.out hxb (HT.out.ext hy2)).mono ?_
  rintro e w3 ⟨rfl, hx3⟩
  have hy3 : Ext w w3 := hy2.step hx3
  clear hx3 hy2
  go_wp2_with fail
  refine (parse_any c w3 vc.out).mono ?_
  rintro e wp ⟨v, rfl, hv, hxp⟩
  have hyp : Ext w wp := hy3.step hxp
  clear hxp hy3
  have HV := hid hv
  obtain ⟨A, k, cc, xs, bb, rfl, -⟩ := hv
  go_wp2_with fail
  refine (rsign_at wp HV.out hsg).mono ?_
  rintro e w4 ⟨rfl, hx4⟩
  have hy4 : Ext w w4 := hyp.step hx4
  clear hx4 hyp
  go_wp2_with fail
  refine (divides_yes w4 hc ha vc.out va.out hpc.out ha1 (HT.out.ext hy4)).mono ?_
  rintro e w5 ⟨rfl, hx5⟩
  have hy5 : Ext w w5 := hy4.step hx5
  clear hx5 hy4
  go_wp2_with fail
  refine (divides_yes w5 hc hb vc.out vb.out hpc.out hb1 (HT.out.ext hy5)).mono ?_
  rintro e w6 ⟨rfl, hx6⟩
  have hy6 : Ext w w6 := hy5.step hx6
  clear hx6 hy5
  go_wp2_with fail
  refine (divides_yes w6 hc hx0 vc.out hx.out.1 hpc.out hx1 (HT.out.ext hy6)).mono ?_
  rintro e w7 ⟨rfl, hx7⟩
  have hy7 : Ext w w7 := hy6.step hx7
  clear hx7 hy6
  go_wp2_with fail
  refine (awake_any w7 (HT.out.ext hy7)).mono ?_
  rintro e w8 ⟨rfl, hx8⟩
  have hy8 : Ext w w8 := hy7.step hx8
  clear hx8 hy7
  go_wp2
  go_ret
  exact ⟨rfl, hy8⟩
theorem law_NumDivisors (a b c : List UInt8) (w : World) (ha : a.length ≤ 140737488351232) (hb : b.length ≤ 140737488351232) (hc : c.length ≤ 140737488351232) (ht : Tab w) :
    Calls Tryd.prog 9 #[.string (Str a), .string (Str b), .string (Str c)] w (TruePost w) := by
  cases va : K.validL a with
  | false => exact bad0_NumDivisors a b c w ha hb hc ht (hid va)
  | true => cases vb : K.validL b with
    | false => exact bad1_NumDivisors a b c w ha hb hc ht (hid va) (hid vb)
    | true => cases vc : K.validL c with
      | false => exact bad2_NumDivisors a b c w ha hb hc ht (hid va) (hid vb) (hid vc)
      | true =>
        by_cases hz : K.numL a = 0 ∧ K.numL b = 0
        · obtain rfl := is_zero_text va hz.1
          obtain rfl := is_zero_text vb hz.2
          exact okZ_NumDivisors c w hc ht (hid vc)
        · have hf := gcd_fits (K.txt_numL a va).2 (K.txt_numL b vb).2
          have hx : K.validL (K.txt (Nat.gcd (K.numL a).natAbs (K.numL b).natAbs : Int)) = true ∧ K.numL (K.txt (Nat.gcd (K.numL a).natAbs (K.numL b).natAbs : Int)) = (Nat.gcd (K.numL a).natAbs (K.numL b).natAbs : Int) := ⟨K.valid_txt _ hf, K.numL_txt _⟩
          have hxl := len_of (K.txt_len _ hf)
          generalize K.txt (Nat.gcd (K.numL a).natAbs (K.numL b).natAbs : Int) = x at *
          have hg : 0 < Nat.gcd (K.numL a).natAbs (K.numL b).natAbs := by
            apply Nat.pos_of_ne_zero
            intro e
            have := Nat.gcd_eq_zero_iff.1 e
            exact hz ⟨by omega, by omega⟩
          have hpx : 0 < K.numL x := by rw [hx.2]; omega
          have hxa : K.numL a % K.numL x = 0 := by
            rw [hx.2]; exact Int.emod_eq_zero_of_dvd (Int.ofNat_dvd_left.2 (Nat.gcd_dvd_left _ _))
          have hxb : K.numL b % K.numL x = 0 := by
            rw [hx.2]; exact Int.emod_eq_zero_of_dvd (Int.ofNat_dvd_left.2 (Nat.gcd_dvd_right _ _))
          rcases Int.lt_trichotomy (K.numL c) 0 with hc0 | hc0 | hc0
          · exact okN1_NumDivisors a b c x w ha hb hc hxl ht (hid va) (hid vb) (hid vc) (hid hx) (hid hpx) (hid hxa) (hid hxb) (hid (by unfold sgn0; rw [if_neg (by omega), if_pos hc0]))
          · exact okN0_NumDivisors a b c x w ha hb hc hxl ht (hid va) (hid vb) (hid vc) (hid hx) (hid hpx) (hid hxa) (hid hxb) (hid (by unfold sgn0; rw [if_pos hc0]))
          · have hs : Hid (sgn0 (K.numL c) = 1) := hid (by unfold sgn0; rw [if_neg (by omega), if_neg (by omega)])
            by_cases ha1 : K.numL a % K.numL c = 0
            · by_cases hb1 : K.numL b % K.numL c = 0
              · refine okT_NumDivisors a b c x w ha hb hc hxl ht (hid va) (hid vb) (hid vc) (hid hx) (hid hpx) (hid hxa) (hid hxb) hs (hid hc0) (hid ha1) (hid hb1) (hid ?_)
                rw [hx.2]
                obtain ⟨m, hm⟩ := Int.eq_ofNat_of_zero_le (Int.le_of_lt hc0)
                rw [hm] at ha1 hb1 ⊢
                exact Int.emod_eq_zero_of_dvd (Int.natCast_dvd_natCast.2 (Nat.dvd_gcd (Int.ofNat_dvd_left.1 (Int.dvd_of_emod_eq_zero ha1)) (Int.ofNat_dvd_left.1 (Int.dvd_of_emod_eq_zero hb1))))
              · exact okF2_NumDivisors a b c x w ha hb hc hxl ht (hid va) (hid vb) (hid vc) (hid hx) (hid hpx) (hid hxa) (hid hxb) hs (hid hc0) (hid ha1) (hid hb1)
            · exact okF1_NumDivisors a b c x w ha hb hc hxl ht (hid va) (hid vb) (hid vc) (hid hx) (hid hpx) (hid hxa) (hid hxb) hs (hid hc0) (hid ha1)
end Go.Proofs.YtdbaemadphhhcaaDoor
