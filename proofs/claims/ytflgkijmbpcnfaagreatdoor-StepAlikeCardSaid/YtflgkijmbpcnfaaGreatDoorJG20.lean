/- the law StepAlike -/
import Derived.Test.YtflgkijmbpcnfaaGreatDoorJG13
import Derived.Test.YtflgkijmbpcnfaaGreatDoorJG07
import Derived.Test.YtflgkijmbpcnfaaGreatDoorJG14
import Derived.Deep.RegionHeld3
import Derived.Deep.DeepCutAuto
import Derived.Deep.LoopGhost
set_option linter.unusedSimpArgs false
set_option linter.unusedVariables false
namespace Go.Proofs.YtflgkijmbpcnfaaGreatDoor
open Go.RowKit
set_option maxRecDepth 100000 in
set_option maxHeartbeats 800000 in
theorem alike_form (v : Value) (m : Int) (us ad : List Int) (s sd : List UInt8) (k : Int) (w : World) (hv : MapV w v m us ad) (ht : Tab w) (hlen : s.length ≤ 140737488351232) (hlen2 : sd.length ≤ 140737488351232) (hb : Hid (false = (mapB m us ad && K.validL s))) :
    Calls Tryz.prog 6 #[v, .string (Str s), .string (Str sd), .int .i64 k] w (TruePost w) := by
  have HT := hid ht
  have HV := hid hv
  obtain ⟨A, n, cc, B, n2, d, rfl, -⟩ := hv
  have hx : Ext w (w.alloc (.cells #[.int .i64 m, .slice A n cc, .slice B n2 d] 24)) := (Ext.rfl' w).alloc' _
  have hr : Row (w.alloc (.cells #[.int .i64 m, .slice A n cc, .slice B n2 d] 24)) w.heap.size 24 [.int .i64 m, .slice A n cc, .slice B n2 d] := Row.new w _ _
  obtain ⟨W1, hW1⟩ : ∃ W1, (w.alloc (.cells #[.int .i64 m, .slice A n cc, .slice B n2 d] 24)) = W1 := ⟨_, rfl⟩
  rw [hW1] at hx hr
  have HX := hid hx
  have HR := hid hr
  have HW1 := hid hW1
  obtain ⟨f0, f1, f2, -, -, -⟩ := row_facts3 hr
  have HTT : Hid (Tab W1) := hid (ht.ext hx)
  have HV1 := hid (HV.out.ext hx)
  clear hW1 hx hr
  go_enter Tryz.func6, Tryz.ntmps6
  go_upto_region 1 with fail
  rw [HW1.out]
  go_wp2_with fail
  refine (formed_any _ m us ad s W1 HV1.out hlen (hid rfl) (hid rfl) hb).mono ?_
  rintro e w2 ⟨rfl, hx2⟩
  have HY2 : Hid (Ext W1 w2) := hid hx2
  clear f0 f1 f2 hx2
  go_wp2_with fail
  refine (awake2_any w2 (HTT.out.ext HY2.out)).mono ?_
  rintro e w3 ⟨rfl, hx3⟩
  have HZ := hid (HX.out.step (HY2.out.step hx3))
  go_wp2
  go_ret
  exact ⟨rfl, HZ.out⟩
set_option maxRecDepth 100000 in
set_option maxHeartbeats 800000 in
theorem alike_dno (v : Value) (m : Int) (us ad : List Int) (s sd : List UInt8) (k : Int) (w : World) (hv : MapV w v m us ad) (ht : Tab w) (hlen : s.length ≤ 140737488351232) (hlen2 : sd.length ≤ 140737488351232) (hb : Hid (true = (mapB m us ad && K.validL s))) (hd : Hid (K.validL sd = false)) :
    Calls Tryz.prog 6 #[v, .string (Str s), .string (Str sd), .int .i64 k] w (TruePost w) := by
  have HT := hid ht
  have HV := hid hv
  obtain ⟨A, n, cc, B, n2, d, rfl, -⟩ := hv
  have hx : Ext w (w.alloc (.cells #[.int .i64 m, .slice A n cc, .slice B n2 d] 24)) := (Ext.rfl' w).alloc' _
  have hr : Row (w.alloc (.cells #[.int .i64 m, .slice A n cc, .slice B n2 d] 24)) w.heap.size 24 [.int .i64 m, .slice A n cc, .slice B n2 d] := Row.new w _ _
  obtain ⟨W1, hW1⟩ : ∃ W1, (w.alloc (.cells #[.int .i64 m, .slice A n cc, .slice B n2 d] 24)) = W1 := ⟨_, rfl⟩
  rw [hW1] at hx hr
  have HX := hid hx
  have HR := hid hr
  have HW1 := hid hW1
  obtain ⟨f0, f1, f2, -, -, -⟩ := row_facts3 hr
  have HTT : Hid (Tab W1) := hid (ht.ext hx)
  have HV1 := hid (HV.out.ext hx)
  clear hW1 hx hr
  go_enter Tryz.func6, Tryz.ntmps6
  go_upto_region 1 with fail
  rw [HW1.out]
  go_wp2_with fail
  refine (formed_any _ m us ad s W1 HV1.out hlen (hid rfl) (hid rfl) hb).mono ?_
  rintro e w2 ⟨rfl, hx2⟩
  have HY2 : Hid (Ext W1 w2) := hid hx2
  clear f0 f1 f2 hx2
  go_wp2_with fail
  refine (rvalid_at sd w2 hd hlen2).mono ?_
  rintro e wz ⟨rfl, rfl⟩
  go_wp2_with fail
  refine (awake2_any w2 (HTT.out.ext HY2.out)).mono ?_
  rintro e w3 ⟨rfl, hx3⟩
  have HZ := hid (HX.out.step (HY2.out.step hx3))
  go_wp2
  go_ret
  exact ⟨rfl, HZ.out⟩
set_option maxRecDepth 100000 in
set_option maxHeartbeats 800000 in
theorem alike_low (v : Value) (m : Int) (us ad : List Int) (s sd : List UInt8) (k : Int) (w : World) (hv : MapV w v m us ad) (ht : Tab w) (hlen : s.length ≤ 140737488351232) (hlen2 : sd.length ≤ 140737488351232) (hb : Hid (true = (mapB m us ad && K.validL s))) (hd : Hid (K.validL sd = true)) (h1 : k < 0) :
    Calls Tryz.prog 6 #[v, .string (Str s), .string (Str sd), .int .i64 k] w (TruePost w) := by
  have HT := hid ht
  have HV := hid hv
  obtain ⟨A, n, cc, B, n2, d, rfl, -⟩ := hv
  have hx : Ext w (w.alloc (.cells #[.int .i64 m, .slice A n cc, .slice B n2 d] 24)) := (Ext.rfl' w).alloc' _
  have hr : Row (w.alloc (.cells #[.int .i64 m, .slice A n cc, .slice B n2 d] 24)) w.heap.size 24 [.int .i64 m, .slice A n cc, .slice B n2 d] := Row.new w _ _
  obtain ⟨W1, hW1⟩ : ∃ W1, (w.alloc (.cells #[.int .i64 m, .slice A n cc, .slice B n2 d] 24)) = W1 := ⟨_, rfl⟩
  rw [hW1] at hx hr
  have HX := hid hx
  have HR := hid hr
  have HW1 := hid hW1
  obtain ⟨f0, f1, f2, -, -, -⟩ := row_facts3 hr
  have HTT : Hid (Tab W1) := hid (ht.ext hx)
  have HV1 := hid (HV.out.ext hx)
  clear hW1 hx hr
  go_enter Tryz.func6, Tryz.ntmps6
  go_upto_region 1 with fail
  rw [HW1.out]
  go_wp2_with fail
  refine (formed_any _ m us ad s W1 HV1.out hlen (hid rfl) (hid rfl) hb).mono ?_
  rintro e w2 ⟨rfl, hx2⟩
  have HY2 : Hid (Ext W1 w2) := hid hx2
  clear f0 f1 f2 hx2
  go_wp2_with fail
  refine (rvalid_at sd w2 hd hlen2).mono ?_
  rintro e wz ⟨rfl, rfl⟩
  go_wp2_with fail
  refine (awake2_any w2 (HTT.out.ext HY2.out)).mono ?_
  rintro e w3 ⟨rfl, hx3⟩
  have HZ := hid (HX.out.step (HY2.out.step hx3))
  go_wp2
  go_ret
  exact ⟨rfl, HZ.out⟩
set_option maxRecDepth 100000 in
set_option maxHeartbeats 800000 in
theorem alike_high (v : Value) (m : Int) (us ad : List Int) (s sd : List UInt8) (k : Int) (w : World) (hv : MapV w v m us ad) (ht : Tab w) (hlen : s.length ≤ 140737488351232) (hlen2 : sd.length ≤ 140737488351232) (hb : Hid (true = (mapB m us ad && K.validL s))) (hd : Hid (K.validL sd = true)) (h0 : 0 ≤ k) (h1 : 1000 < k) :
    Calls Tryz.prog 6 #[v, .string (Str s), .string (Str sd), .int .i64 k] w (TruePost w) := by
  have HT := hid ht
  have HV := hid hv
  obtain ⟨A, n, cc, B, n2, d, rfl, -⟩ := hv
  have hx : Ext w (w.alloc (.cells #[.int .i64 m, .slice A n cc, .slice B n2 d] 24)) := (Ext.rfl' w).alloc' _
  have hr : Row (w.alloc (.cells #[.int .i64 m, .slice A n cc, .slice B n2 d] 24)) w.heap.size 24 [.int .i64 m, .slice A n cc, .slice B n2 d] := Row.new w _ _
  obtain ⟨W1, hW1⟩ : ∃ W1, (w.alloc (.cells #[.int .i64 m, .slice A n cc, .slice B n2 d] 24)) = W1 := ⟨_, rfl⟩
  rw [hW1] at hx hr
  have HX := hid hx
  have HR := hid hr
  have HW1 := hid hW1
  obtain ⟨f0, f1, f2, -, -, -⟩ := row_facts3 hr
  have HTT : Hid (Tab W1) := hid (ht.ext hx)
  have HV1 := hid (HV.out.ext hx)
  clear hW1 hx hr
  go_enter Tryz.func6, Tryz.ntmps6
  go_upto_region 1 with fail
  rw [HW1.out]
  go_wp2_with fail
  refine (formed_any _ m us ad s W1 HV1.out hlen (hid rfl) (hid rfl) hb).mono ?_
  rintro e w2 ⟨rfl, hx2⟩
  have HY2 : Hid (Ext W1 w2) := hid hx2
  clear f0 f1 f2 hx2
  go_wp2_with fail
  refine (rvalid_at sd w2 hd hlen2).mono ?_
  rintro e wz ⟨rfl, rfl⟩
  go_wp2_with fail
  refine (awake2_any w2 (HTT.out.ext HY2.out)).mono ?_
  rintro e w3 ⟨rfl, hx3⟩
  have HZ := hid (HX.out.step (HY2.out.step hx3))
  go_wp2
  go_ret
  exact ⟨rfl, HZ.out⟩
theorem alike_big {X D c : Int} (hX : K.fits X) (hD : K.fits D) (hc : c.natAbs ≤ 1000) {k : Nat} (hk : k ≤ 1002) : (X + D * c ^ k).natAbs ≤ BIG := by
  have h0 := fits_top hX
  have h1 := fits_top hD
  have h2 : (c ^ k).natAbs ≤ 1000 ^ k := by rw [Int.natAbs_pow]; exact Nat.pow_le_pow_left hc k
  have h5 : (c ^ k).natAbs ≤ TOP 334 := Nat.le_trans h2 (thousand_le k 334 (by omega))
  have h6 : (D * c ^ k).natAbs < TOP (223 + 334) := by
    rw [Int.natAbs_mul, TOP_add]
    calc D.natAbs * (c ^ k).natAbs ≤ D.natAbs * TOP 334 := Nat.mul_le_mul_left _ h5
      _ < TOP 223 * TOP 334 := Nat.mul_lt_mul_of_pos_right h1 (TOP_pos _)
  have h7 : TOP 223 ≤ TOP (223 + 334) := TOP_mono (by omega)
  have h8 : TOP (1 + (223 + 334)) = TOP 1 * TOP (223 + 334) := TOP_add 1 _
  have h9 : TOP 1 = 1000000000 := by decide
  refine le_big (a := 1 + (223 + 334)) ?_ (by omega)
  rw [h8, h9]
  generalize TOP (223 + 334) = t at *
  generalize TOP 223 = t2 at *
  generalize D * c ^ k = y at *
  omega
theorem orbit_no (v : Value) (m : Int) (us ad : List Int) (l : List UInt8) (k : Nat) (w : World) (hv : MapV w v m us ad) (hM : Hid (mapP m us ad)) (hl : Hid (K.validL l = true)) (hk : k ≤ 1000) (ht : Tab w) (hn : Hid (none ∈ seqO m us ad k (K.numL l))) :
    Calls Tryz.prog 25 #[v, .string (Str l), .int .i64 (k : Int)] w (fun e w' => e = .returned (.tuple #[.slice none 0 0, .int .i64 3]) ∧ Ext w w') := by
  refine (orbit_ok v m us ad l k w hv hM hl hk ht).mono ?_
  rintro e w' ⟨-, h2, h3⟩
  exact ⟨h2 hn.out, h3⟩
theorem orbit_code (v : Value) (m : Int) (us ad : List Int) (l : List UInt8) (k : Nat) (w : World) (hv : MapV w v m us ad) (hM : Hid (mapP m us ad)) (hl : Hid (K.validL l = true)) (hk : k ≤ 1000) (ht : Tab w) :
    Calls Tryz.prog 25 #[v, .string (Str l), .int .i64 (k : Int)] w (fun e w' => ∃ P q c f, e = .returned (.tuple #[.slice P q c, .int .i64 f]) ∧ (f = 0 ∨ f = 3) ∧ Ext w w') := by
  refine (orbit_ok v m us ad l k w hv hM hl hk ht).mono ?_
  rintro e w' ⟨h1, h2, h3⟩
  by_cases hn : none ∈ seqO m us ad k (K.numL l)
  · exact ⟨none, 0, 0, 3, h2 hn, .inr rfl, h3⟩
  · obtain ⟨A, q, c, he, -⟩ := h1 hn
    exact ⟨A, q, c, 0, he, .inl rfl, h3⟩
theorem item_orb {m x : Int} {us ad : List Int} {k : Nat} (hn : none ∉ seqO m us ad k x) (hx : K.fits x) (j : Nat) (hj : j < k + 1) :
    ∃ t : List UInt8, strO (some (orbN m us ad j x)) = Str t ∧ K.validL t = true ∧ K.numL t = orbN m us ad j x ∧ (orbN m us ad j x).natAbs ≤ BIG ∧ (some x :: seqO m us ad k x)[j]? = some (some (orbN m us ad j x)) := by
  obtain ⟨t, z, h1, h2, h3, h4, h5⟩ := item_at hn hx j hj
  have h6 := seq_orb0 hn j hj
  rw [h5] at h6
  obtain rfl : z = orbN m us ad j x := by simpa using h6
  exact ⟨t, h1, h2, h3, h4, h5⟩
theorem rpart_m (va : Value) (x m : Int) (w : World) (ha : RefV w va x) (la : x.natAbs ≤ BIG) (hm : 1 ≤ m) (hm2 : m ≤ 2147483647) :
    Calls Tryz.prog 34 #[va, .int .i64 m] w (NumInt (x / m) (x % m) w) := by
  obtain ⟨d, rfl⟩ : ∃ d : Nat, m = (d : Int) := ⟨m.toNat, by omega⟩
  exact rpart_any va x d w ha la (by omega) (by omega)
theorem box_two (w : World) (t t2 : TypeId) (a b c d : Value) : Ext w ((w.alloc (.cells #[a, b] t)).alloc (.cells #[c, d] t2)) ∧ Row ((w.alloc (.cells #[a, b] t)).alloc (.cells #[c, d] t2)) w.heap.size t [a, b] ∧ Row ((w.alloc (.cells #[a, b] t)).alloc (.cells #[c, d] t2)) (w.heap.size + 1) t2 [c, d] := by
  refine ⟨((Ext.rfl' w).alloc' _).alloc' _, (Row.new w t [a, b]).alloc _, ?_⟩
  have := Row.new (w.alloc (.cells #[a, b] t)) t2 [c, d]
  rwa [World.size_alloc] at this

set_option maxRecDepth 100000 in
set_option maxHeartbeats 6400000 in
theorem alike_main (v : Value) (m : Int) (us ad : List Int) (s sd : List UInt8) (k : Nat) (w : World) (hv : MapV w v m us ad) (ht : Tab w) (hlen : s.length ≤ 140737488351232) (hlen2 : sd.length ≤ 140737488351232) (hb : Hid (true = (mapB m us ad && K.validL s))) (hd : Hid (K.validL sd = true)) (hM : Hid (mapP m us ad)) (hs : Hid (K.validL s = true)) (hk : k ≤ 1000) (X D : Int) (HX0 : Hid (K.numL s = X)) (HD0 : Hid (K.numL sd = D)) (HXF : Hid (K.fits X)) (HDF : Hid (K.fits D)) :
    Calls Tryz.prog 6 #[v, .string (Str s), .string (Str sd), .int .i64 (k : Int)] w (TruePost w) := by
  have q0 : (0 : Int) ≤ (k : Int) := by omega
  have q1 : (k : Int) ≤ 1000 := by omega
  have hm0 : 0 < m := by have := hM.out.1; omega
  obtain ⟨dm, hdm⟩ : ∃ dm : Nat, m = (dm : Int) := ⟨m.toNat, by omega⟩
  have HDM := hid hdm
  have HM12 : Hid (2 ≤ m ∧ m ≤ 12) := hid ⟨hM.out.1, hM.out.2.1⟩
  have hwk : IntKind.i64.wrap ((k : Int) + 1) = (k : Int) + 1 := IntWalk.i64_in _ (by omega)
  clear hdm
  have HT := hid ht
  have HV := hid hv
  obtain ⟨A, n, cc, B, n2, d, rfl, hl1, hl2, hl3, hl4, hrda, hrdb, -⟩ := hv
  have hml := hM.out.2.2.1
  obtain ⟨ba, oa, eA, -, -⟩ := hrda.atI (k := 0) (by have := HM12.out; omega)
  subst eA
  have HML := hid hl1
  have HMN : Hid ((n : Int) = m) := hid (by omega)
  have hmu0 := hid hrda
  clear hl1 hl2 hl3 hl4 hrda hrdb hml
  have hx : Ext w (w.alloc (.cells #[.int .i64 m, .slice (some ⟨ba, oa, none⟩) n cc, .slice B n2 d] 24)) := (Ext.rfl' w).alloc' _
  have hr : Row (w.alloc (.cells #[.int .i64 m, .slice (some ⟨ba, oa, none⟩) n cc, .slice B n2 d] 24)) w.heap.size 24 [.int .i64 m, .slice (some ⟨ba, oa, none⟩) n cc, .slice B n2 d] := Row.new w _ _
  obtain ⟨W1, hW1⟩ : ∃ W1, (w.alloc (.cells #[.int .i64 m, .slice (some ⟨ba, oa, none⟩) n cc, .slice B n2 d] 24)) = W1 := ⟨_, rfl⟩
  rw [hW1] at hx hr
  have HX := hid hx
  have HR := hid hr
  have HW1 := hid hW1
  obtain ⟨f0, f1, f2, -, -, -⟩ := row_facts3 hr
  have HTT : Hid (Tab W1) := hid (ht.ext hx)
  have HV1 := hid (HV.out.ext hx)
  have HMU := hid (hmu0.out.ext hx)
  clear hW1 hx hr
  go_enter Tryz.func6, Tryz.ntmps6
  go_upto_region 1 with fail
  rw [HW1.out]
  go_wp2_with fail
  refine (formed_any _ m us ad s W1 HV1.out hlen (hid rfl) (hid rfl) hb).mono ?_
  rintro e w2 ⟨rfl, hx2⟩
  have HY2 : Hid (Ext W1 w2) := hid hx2
  clear f0 f1 f2 hx2
  obtain ⟨f0, f1, f2, -, -, -⟩ := row_facts3 (HR.out.ext HY2.out)
  go_wp2_with fail
  refine (rvalid_at sd w2 hd hlen2).mono ?_
  rintro e wz ⟨rfl, rfl⟩
  go_wp2_with fail
  refine (parse_any sd w2 hd.out).mono ?_
  rintro e w5 ⟨v5, rfl, hv5, hx5⟩
  rw [HD0.out] at hv5
  go_wp2_with fail
  refine (parse_any s w5 hs.out).mono ?_
  rintro e w6 ⟨v6, rfl, hv6, hx6⟩
  rw [HX0.out] at hv6
  have hv5b := hv5.ext hx6
  have HV5 := hid hv5b
  have HV6 := hid hv6
  have HY6 := hid ((HY2.out.step hx5).step hx6)
  obtain ⟨A5, k5, c5, xs5, b5, rfl, -⟩ := hv5
  obtain ⟨A6, k6, c6, xs6, b6, rfl, -⟩ := hv6
  clear f0 f1 f2 hx5 hx6 hv5b
  go_upto_region 4 with fail
  obtain ⟨e8, r9, r10⟩ := box_two w6 34 34 (.bool b5) (.slice A5 k5 c5) (.bool b6) (.slice A6 k6 c6)
  obtain ⟨W8, hW8⟩ : ∃ W8, ((w6.alloc (.cells #[.bool b5, .slice A5 k5 c5] 34)).alloc (.cells #[.bool b6, .slice A6 k6 c6] 34)) = W8 := ⟨_, rfl⟩
  rw [hW8] at e8 r9 r10
  rw [hW8]
  have HR6 := hid (HR.out.ext HY6.out)
  have hv8 : RefV W8 (.agg #[.bool b5, .slice A5 k5 c5]) (D * m ^ 0) := by rw [Int.pow_zero, Int.mul_one]; exact HV5.out.ext e8
  have E8 := hid e8
  have R9 := hid r9
  have R10 := hid r10
  have HV8 := hid hv8
  have HMS := hid (show m.natAbs < 1000000000000000000 by have := HM12.out; omega)
  have HMB := hid (small_big (show m.natAbs < 1000000000 by have := HM12.out; omega))
  have HXB := hid (fits_big HXF.out)
  clear e8 r9 r10 hv8 hW8
  go_wp2_with fail
  go_loopw [11] (fun iz wr => ∃ (j : Nat) (b : Bool) (P : Option Addr) (q c : Nat), j ≤ k ∧ iz = .int .i64 (j : Int) ∧ Row wr w6.heap.size 34 [.bool b, .slice P q c] ∧ RefV wr (.agg #[.bool b, .slice P q c]) (D * m ^ j) ∧ Row wr (w6.heap.size + 1) 34 [.bool b6, .slice A6 k6 c6] ∧ Ext w6 wr) (fun iz _ => k - (intOf iz).toNat)
  case atStart => exact ⟨0, b5, A5, k5, c5, by omega, rfl, R9.out, HV8.out, R10.out, E8.out⟩
  case round =>
    obtain ⟨j, b, P, q, c, hj, rfl, hr9, hvj, hr10, hex⟩ := hrel
    have Q9 := hid hr9
    have Q10 := hid hr10
    have VJ := hid hvj
    have EX := hid hex
    have HPB := hid (pow_top (k := j) HDF.out (show m.natAbs ≤ 1000 by have := HM12.out; omega) (by omega))
    clear hr9 hr10 hvj hex R9 R10 HV8
    by_cases hlt : j < k
    · have hcur : Ext wr wr := Ext.rfl' _
      have HRW := hid (HR6.out.ext EX.out)
      obtain ⟨f0, f1, f2, -, -, -⟩ := row_facts3 HRW.out
      obtain ⟨g0, g1, g2, g3⟩ := row_facts Q9.out
      go_wp2_with fail
      go_region_with (first
        | (go_at_call 32; refine (of_any m _ HMS.out).mono ?_; rintro e w11 ⟨v11, rfl, hv11, hx⟩; have hcur := Ext.step hcur (by first | exact hx | exact Ext.undrew hx); have HV11 := hid hv11; obtain ⟨A11, k11, c11, xs11, b11, rfl, -⟩ := hv11; obtain ⟨g0, g1, g2, g3⟩ := row_facts (Q9.out.ext hcur); obtain ⟨f0, f1, f2, -, -, -⟩ := row_facts3 (HRW.out.ext hcur))
        | (go_at_call 31; refine (rmul_any _ _ (D * m ^ j) m _ (VJ.out.ext ?_) (HV11.out.ext ?_) HPB.out HMB.out).mono ?_; (first | exact hcur | exact hcur.drew'); (first | exact Ext.rfl' _ | exact (Ext.rfl' _).drew'); rintro e w12 ⟨v12, rfl, hv12, hx⟩; have hcur := Ext.step hcur (by first | exact hx | exact Ext.undrew hx); have HV12 := hid hv12; obtain ⟨A12, k12, c12, xs12, b12, rfl, -⟩ := hv12; obtain ⟨g0, g1, g2, g3⟩ := row_facts (Q9.out.ext hcur); obtain ⟨f0, f1, f2, -, -, -⟩ := row_facts3 (HRW.out.ext hcur)))
      all_goals
        have hr9 := Q9.out.ext hcur
        have hfin : (∃ (j' : Nat) (b : Bool) (P : Option Addr) (q c : Nat), j' ≤ k ∧ Value.int .i64 ((j : Int) + 1) = .int .i64 (j' : Int) ∧ Row ((w12.setCell ⟨w6.heap.size, 0, none⟩ (.bool b12)).setCell ⟨w6.heap.size, 1, none⟩ (.slice A12 k12 c12)) w6.heap.size 34 [.bool b, .slice P q c] ∧ RefV ((w12.setCell ⟨w6.heap.size, 0, none⟩ (.bool b12)).setCell ⟨w6.heap.size, 1, none⟩ (.slice A12 k12 c12)) (.agg #[.bool b, .slice P q c]) (D * m ^ j') ∧ Row ((w12.setCell ⟨w6.heap.size, 0, none⟩ (.bool b12)).setCell ⟨w6.heap.size, 1, none⟩ (.slice A12 k12 c12)) (w6.heap.size + 1) 34 [.bool b6, .slice A6 k6 c6] ∧ Ext w6 ((w12.setCell ⟨w6.heap.size, 0, none⟩ (.bool b12)).setCell ⟨w6.heap.size, 1, none⟩ (.slice A12 k12 c12))) := by
          refine ⟨j + 1, b12, A12, k12, c12, by omega, by simp, (hr9.set 0 _).set 1 _, ?_, ?_, ?_⟩
          · rw [Int.pow_succ, ← Int.mul_assoc]; exact HV12.out.box hr9
          · exact ((Q10.out.ext hcur).far (by show w6.heap.size + 1 ≠ w6.heap.size; omega) _).far (by show w6.heap.size + 1 ≠ w6.heap.size; omega) _
          · exact ((EX.out.step hcur).set' (by show w6.heap.size ≤ w6.heap.size; omega) _).set' (by show w6.heap.size ≤ w6.heap.size; omega) _
        have HFIN := hid hfin
        clear hfin hr9 hcur
        go_wp2
        go_roundw
        case rel => exact HFIN.out
        case measure => first | (simp [intOf]; done) | (simp [intOf]; omega)
    · obtain rfl : k = j := by omega
      obtain ⟨g0, g1, g2, g3⟩ := row_facts Q9.out
      obtain ⟨d0, d1, d2, d3⟩ := row_facts Q10.out
      have HOB := hid (alike_big (k := k) HXF.out HDF.out (show m.natAbs ≤ 1000 by have := HM12.out; omega) (by omega))
      go_wp2_with fail
      refine (radd_any _ _ X (D * m ^ k) wr (HV6.out.ext EX.out) VJ.out HXB.out HPB.out).mono ?_
      rintro e w7 ⟨v7, rfl, hv7, hx7⟩
      have hv7b := hv7
      obtain ⟨A7, k7, c7, xs7, b7, rfl, -⟩ := hv7
      obtain ⟨e7, wv7, r7⟩ := box2 (t := 34) hv7b
      obtain ⟨WB, hWB⟩ : ∃ WB, (w7.alloc (.cells #[.bool b7, .slice A7 k7 c7] 34)) = WB := ⟨_, rfl⟩
      rw [hWB] at e7 wv7 r7
      have HWB := hid hWB
      have HV7 := hid wv7
      have HR7 := hid r7
      have HEB := hid ((EX.out.step hx7).step e7)
      have HYB := hid (HY6.out.step HEB.out)
      have HRB := hid (HR.out.ext HYB.out)
      have HVB := hid (HV1.out.ext HYB.out)
      clear e7 wv7 r7 hWB hv7b hx7 g0 g1 g2 g3 d0 d1 d2 d3 Q9 Q10 VJ
      obtain ⟨g0, g1, -, -⟩ := row_facts HR7.out
      go_upto_region 9 with fail
      rw [HWB.out]
      by_cases hfo : K.fits (X + D * m ^ k)
      · have HFO := hid hfo
        clear hfo
        go_wp2_with fail
        refine (rfits_any _ (X + D * m ^ k) WB HV7.out HOB.out true (hid ⟨fun _ => HFO.out, fun _ => rfl⟩)).mono ?_
        rintro e wf ⟨rfl, hxf⟩
        have HXf := hid hxf
        clear g0 g1 hxf
        have HTY : Hid (K.validL (K.txt (X + D * m ^ k)) = true) := hid (K.valid_txt _ HFO.out)
        have HYf := hid (HYB.out.step HXf.out)
        obtain ⟨f0, f1, f2, -, -, -⟩ := row_facts3 (HRB.out.ext HXf.out)
        by_cases hn1 : none ∈ seqO m us ad k X
        · go_wp2_with fail
          refine (orbit_no _ m us ad s k wf (HV1.out.ext HYf.out) hM hs hk (HTT.out.ext HYf.out) (hid (by rw [HX0.out]; exact hn1))).mono ?_
          rintro e w11 ⟨rfl, hx⟩
          have HX11 := hid hx
          clear f0 f1 f2 hx hn1
          have HRG := hid (HRB.out.ext (HXf.out.step HX11.out))
          have HBX := hid (HR7.out.ext (HXf.out.step HX11.out))
          have HVY := hid (HV7.out.ext (HXf.out.step HX11.out))
          have HS : Hid (∀ W', Ext w11 W' → W'.cell? ⟨w.heap.size, 0, none⟩ = some (.int .i64 m) ∧ W'.cell? ⟨w.heap.size, 1, none⟩ = some (.slice (some ⟨ba, oa, none⟩) n cc) ∧ W'.cell? ⟨w.heap.size, 2, none⟩ = some (.slice B n2 d) ∧ W'.cell? ⟨w7.heap.size, 0, none⟩ = some (.bool b7) ∧ W'.cell? ⟨w7.heap.size, 1, none⟩ = some (.slice A7 k7 c7)) := hid (by
            intro W' e
            obtain ⟨p0, p1, p2, -, -, -⟩ := row_facts3 (HRG.out.ext e)
            obtain ⟨q0, q1, -, -⟩ := row_facts (HBX.out.ext e)
            exact ⟨p0, p1, p2, q0, q1⟩)
          have hcur : Ext w11 w11 := Ext.rfl' _
          have HYT := hid (HYB.out.step (HXf.out.step HX11.out))
          go_upto_region 12 with fail
          go_region_held3 (fun W' => W'.cell? ⟨w.heap.size, 0, none⟩ = some (.int .i64 m) ∧ W'.cell? ⟨w.heap.size, 1, none⟩ = some (.slice (some ⟨ba, oa, none⟩) n cc) ∧ W'.cell? ⟨w.heap.size, 2, none⟩ = some (.slice B n2 d) ∧ W'.cell? ⟨w7.heap.size, 0, none⟩ = some (.bool b7) ∧ W'.cell? ⟨w7.heap.size, 1, none⟩ = some (.slice A7 k7 c7))
            (first | exact HS.out _ hcur | exact HS.out _ hcur.drew' | exact HS.out _ (hcur.alloc' _) | exact HS.out _ (hcur.drew'.alloc' _) | exact HS.out _ ((hcur.set' HB2.out.1 _).set' HB2.out.1 _) | go_keep)
            (first
              | (go_at_call 24; refine (rtext_any _ (X + D * m ^ k) _ (HVY.out.ext ?_) HOB.out).mono ?_; (first | exact hcur | exact hcur.drew' | exact hcur.alloc' _ | exact hcur.drew'.alloc' _ | exact (hcur.alloc' _).drew'); rintro e w12 ⟨rfl, hx⟩; have hcur := Ext.step hcur (by first | exact hx | exact Ext.undrew hx | exact Ext.step ((Ext.rfl' _).alloc' _) hx | exact Ext.step ((Ext.rfl' _).drew'.alloc' _) hx))
              | (go_at_call 25; refine (orbit_code _ m us ad (K.txt (X + D * m ^ k)) k _ (HV1.out.ext ?_) hM HTY hk (HTT.out.ext ?_)).mono ?_; (exact HYT.out.step (by first | exact hcur | exact hcur.drew')); (exact HYT.out.step (by first | exact hcur | exact hcur.drew')); rintro e w13 ⟨P2, q2, c2, fc, rfl, hfc, hx⟩; have hcur := Ext.step hcur (by first | exact hx | exact Ext.undrew hx | exact Ext.step ((Ext.rfl' _).alloc' _) hx | exact Ext.step ((Ext.rfl' _).drew'.alloc' _) hx); have HFC := hid hfc))
          all_goals
            have HYE := hid (HYT.out.step hcur)
            have HCU := hid hcur
            clear hcur
            rcases HFC.out with rfl | rfl
            · go_wp2_with fail
              refine (awake2_any _ (HTT.out.ext HYE.out)).mono ?_
              rintro e wL ⟨rfl, hxL⟩
              have HL := hid (HX.out.step (HYE.out.step hxL))
              go_wp2
              go_ret
              exact ⟨rfl, HL.out⟩
            · go_wp2_with fail
              refine (awake2_any _ (HTT.out.ext HYE.out)).mono ?_
              rintro e wL ⟨rfl, hxL⟩
              have HL := hid (HX.out.step (HYE.out.step hxL))
              go_wp2
              go_ret
              exact ⟨rfl, HL.out⟩
        · have HN1 := hid hn1
          by_cases hn2 : none ∈ seqO m us ad k (X + D * m ^ k)
          · have HN2 : Hid (none ∈ seqO m us ad k (K.numL (K.txt (X + D * m ^ k)))) := hid (by rw [K.numL_txt]; exact hn2)
            go_wp2_with fail
            refine (orbit_at _ m us ad s k wf (HV1.out.ext HYf.out) hM hs hk (HTT.out.ext HYf.out) (hid (by rw [HX0.out]; exact HN1.out))).mono ?_
            rintro e w11 ⟨bl, ol, cl, rfl, hcl, HRL, hx⟩
            have HX11 := hid hx
            clear f0 f1 f2 hx hn1 hn2
            have HRG := hid (HRB.out.ext (HXf.out.step HX11.out))
            have HBX := hid (HR7.out.ext (HXf.out.step HX11.out))
            have HVY := hid (HV7.out.ext (HXf.out.step HX11.out))
            have HS : Hid (∀ W', Ext w11 W' → W'.cell? ⟨w.heap.size, 0, none⟩ = some (.int .i64 m) ∧ W'.cell? ⟨w.heap.size, 1, none⟩ = some (.slice (some ⟨ba, oa, none⟩) n cc) ∧ W'.cell? ⟨w.heap.size, 2, none⟩ = some (.slice B n2 d) ∧ W'.cell? ⟨w7.heap.size, 0, none⟩ = some (.bool b7) ∧ W'.cell? ⟨w7.heap.size, 1, none⟩ = some (.slice A7 k7 c7)) := hid (by
              intro W' e
              obtain ⟨p0, p1, p2, -, -, -⟩ := row_facts3 (HRG.out.ext e)
              obtain ⟨q0, q1, -, -⟩ := row_facts (HBX.out.ext e)
              exact ⟨p0, p1, p2, q0, q1⟩)
            have hcur : Ext w11 w11 := Ext.rfl' _
            have HYT := hid (HYB.out.step (HXf.out.step HX11.out))
            go_upto_region 12 with fail
            go_region_held3 (fun W' => W'.cell? ⟨w.heap.size, 0, none⟩ = some (.int .i64 m) ∧ W'.cell? ⟨w.heap.size, 1, none⟩ = some (.slice (some ⟨ba, oa, none⟩) n cc) ∧ W'.cell? ⟨w.heap.size, 2, none⟩ = some (.slice B n2 d) ∧ W'.cell? ⟨w7.heap.size, 0, none⟩ = some (.bool b7) ∧ W'.cell? ⟨w7.heap.size, 1, none⟩ = some (.slice A7 k7 c7))
              (first | exact HS.out _ hcur | exact HS.out _ hcur.drew' | exact HS.out _ (hcur.alloc' _) | exact HS.out _ (hcur.drew'.alloc' _) | exact HS.out _ ((hcur.set' HB2.out.1 _).set' HB2.out.1 _) | go_keep)
              (first
                | (go_at_call 24; refine (rtext_any _ (X + D * m ^ k) _ (HVY.out.ext ?_) HOB.out).mono ?_; (first | exact hcur | exact hcur.drew' | exact hcur.alloc' _ | exact hcur.drew'.alloc' _ | exact (hcur.alloc' _).drew'); rintro e w12 ⟨rfl, hx⟩; have hcur := Ext.step hcur (by first | exact hx | exact Ext.undrew hx | exact Ext.step ((Ext.rfl' _).alloc' _) hx | exact Ext.step ((Ext.rfl' _).drew'.alloc' _) hx))
                | (go_at_call 25; refine (orbit_no _ m us ad (K.txt (X + D * m ^ k)) k _ (HV1.out.ext ?_) hM HTY hk (HTT.out.ext ?_) HN2).mono ?_; (exact HYT.out.step (by first | exact hcur | exact hcur.drew')); (exact HYT.out.step (by first | exact hcur | exact hcur.drew')); rintro e w13 ⟨rfl, hx⟩; have hcur := Ext.step hcur (by first | exact hx | exact Ext.undrew hx | exact Ext.step ((Ext.rfl' _).alloc' _) hx | exact Ext.step ((Ext.rfl' _).drew'.alloc' _) hx)))
            all_goals
              have HYE := hid (HYT.out.step hcur)
              have HCU := hid hcur
              clear hcur
              go_wp2_with fail
              refine (awake2_any _ (HTT.out.ext HYE.out)).mono ?_
              rintro e wL ⟨rfl, hxL⟩
              have HL := hid (HX.out.step (HYE.out.step hxL))
              go_wp2
              go_ret
              exact ⟨rfl, HL.out⟩
          · have HN2 : Hid (none ∉ seqO m us ad k (K.numL (K.txt (X + D * m ^ k)))) := hid (by rw [K.numL_txt]; exact hn2)
            have HN2Y := hid hn2
            go_wp2_with fail
            refine (orbit_at _ m us ad s k wf (HV1.out.ext HYf.out) hM hs hk (HTT.out.ext HYf.out) (hid (by rw [HX0.out]; exact HN1.out))).mono ?_
            rintro e w11 ⟨bl, ol, cl, rfl, hcl, HRL, hx⟩
            rw [HX0.out] at HRL
            have HX11 := hid hx
            clear f0 f1 f2 hx hn1 hn2
            have HRG := hid (HRB.out.ext (HXf.out.step HX11.out))
            have HBX := hid (HR7.out.ext (HXf.out.step HX11.out))
            have HVY := hid (HV7.out.ext (HXf.out.step HX11.out))
            have HS : Hid (∀ W', Ext w11 W' → W'.cell? ⟨w.heap.size, 0, none⟩ = some (.int .i64 m) ∧ W'.cell? ⟨w.heap.size, 1, none⟩ = some (.slice (some ⟨ba, oa, none⟩) n cc) ∧ W'.cell? ⟨w.heap.size, 2, none⟩ = some (.slice B n2 d) ∧ W'.cell? ⟨w7.heap.size, 0, none⟩ = some (.bool b7) ∧ W'.cell? ⟨w7.heap.size, 1, none⟩ = some (.slice A7 k7 c7)) := hid (by
              intro W' e
              obtain ⟨p0, p1, p2, -, -, -⟩ := row_facts3 (HRG.out.ext e)
              obtain ⟨q0, q1, -, -⟩ := row_facts (HBX.out.ext e)
              exact ⟨p0, p1, p2, q0, q1⟩)
            have hcur : Ext w11 w11 := Ext.rfl' _
            have HYT := hid (HYB.out.step (HXf.out.step HX11.out))
            go_upto_region 12 with fail
            go_region_held3 (fun W' => W'.cell? ⟨w.heap.size, 0, none⟩ = some (.int .i64 m) ∧ W'.cell? ⟨w.heap.size, 1, none⟩ = some (.slice (some ⟨ba, oa, none⟩) n cc) ∧ W'.cell? ⟨w.heap.size, 2, none⟩ = some (.slice B n2 d) ∧ W'.cell? ⟨w7.heap.size, 0, none⟩ = some (.bool b7) ∧ W'.cell? ⟨w7.heap.size, 1, none⟩ = some (.slice A7 k7 c7))
              (first | exact HS.out _ hcur | exact HS.out _ hcur.drew' | exact HS.out _ (hcur.alloc' _) | exact HS.out _ (hcur.drew'.alloc' _) | exact HS.out _ ((hcur.set' HB2.out.1 _).set' HB2.out.1 _) | go_keep)
              (first
                | (go_at_call 24; refine (rtext_any _ (X + D * m ^ k) _ (HVY.out.ext ?_) HOB.out).mono ?_; (first | exact hcur | exact hcur.drew' | exact hcur.alloc' _ | exact hcur.drew'.alloc' _ | exact (hcur.alloc' _).drew'); rintro e w12 ⟨rfl, hx⟩; have hcur := Ext.step hcur (by first | exact hx | exact Ext.undrew hx | exact Ext.step ((Ext.rfl' _).alloc' _) hx | exact Ext.step ((Ext.rfl' _).drew'.alloc' _) hx))
                | (go_at_call 25; refine (orbit_at _ m us ad (K.txt (X + D * m ^ k)) k _ (HV1.out.ext ?_) hM HTY hk (HTT.out.ext ?_) HN2).mono ?_; (exact HYT.out.step (by first | exact hcur | exact hcur.drew')); (exact HYT.out.step (by first | exact hcur | exact hcur.drew')); rintro e w13 ⟨bo, oo, co, rfl, hco, HRO, hx⟩; have HRL := hid (HRL.out.ext (Ext.step hcur (by first | exact hx | exact Ext.undrew hx))); have hcur := Ext.step hcur (by first | exact hx | exact Ext.undrew hx | exact Ext.step ((Ext.rfl' _).alloc' _) hx | exact Ext.step ((Ext.rfl' _).drew'.alloc' _) hx)))
            all_goals
              have HYE := hid (HYT.out.step hcur)
              have HCU := hid hcur
              clear hcur
              have HRO15 := hid (show Rd w13 (some ⟨bo, oo, none⟩) (Txs (some (X + D * m ^ k) :: seqO m us ad k (X + D * m ^ k))) from by have := HRO.out; rwa [K.numL_txt] at this)
              have HRL15 := HRL
              have HXE := hid (HX.out.step HYE.out)
              go_wp2_with fail
              refine (parse_any sd _ hd.out).mono ?_
              rintro e w16 ⟨v16, rfl, hv16, hx⟩
              rw [HD0.out] at hv16
              have HX16 := hid (by first | exact hx | exact Ext.undrew hx)
              have hv16b := hv16
              obtain ⟨A16, k16, c16, xs16, b16, rfl, -⟩ := hv16
              obtain ⟨e17, v17, r17⟩ := box2 (t := 34) hv16b
              obtain ⟨W17, hW17⟩ : ∃ W17, (w16.alloc (.cells #[.bool b16, .slice A16 k16 c16] 34)) = W17 := ⟨_, rfl⟩
              rw [hW17] at e17 v17 r17
              have HW17 := hid hW17
              have HV17 := hid v17
              have HR17 := hid r17
              have HE17 := hid e17
              have HRL16 := hid (HRL15.out.ext HX16.out)
              have HRO16 := hid (HRO15.out.ext HX16.out)
              have HY16 := hid (HYE.out.step HX16.out)
              clear e17 v17 r17 hW17 hv16b hx
              go_upto_region 18 with fail
              rw [HW17.out]
              go_wp2_with fail
              go_loopw [18] (fun iz wr => ∃ j : Nat, j ≤ k + 1 ∧ iz = .int .i64 (j : Int) ∧ Ext W17 wr) (fun iz _ => k + 1 - (intOf iz).toNat)
              case atStart => exact ⟨0, by omega, rfl, Ext.rfl' _⟩
              case round =>
                obtain ⟨j, hj, rfl, hex⟩ := hrel
                have EX3 := hid (HE17.out.step hex)
                have EW := hid hex
                have HRL17 := HRL16
                have HRO17 := HRO16
                clear hex
                by_cases hlt1 : j < k + 1
                · have hjk : (j : Int) ≤ (k : Int) := by omega
                  have hjk2 : (j : Int) < (k : Int) + 1 := by omega
                  obtain ⟨t1, hst1, hvt1, hnt1, hzb1, hit1⟩ := item_orb HN1.out HXF.out j hlt1
                  obtain ⟨t2, hst2, hvt2, hnt2, hzb2, hit2⟩ := item_orb HN2Y.out HFO.out j hlt1
                  have HVT1 := hid hvt1
                  have HVT2 := hid hvt2
                  have HNT1 := hid hnt1
                  have HNT2 := hid hnt2
                  have HZB1 := hid hzb1
                  have HZB2 := hid hzb2
                  have hc1 : wr.cell? ⟨bl, ol + j, none⟩ = some (.string (Str t1)) := cell_item (HRL17.out.ext EX3.out) hit1 hst1
                  have hc2 : wr.cell? ⟨bo, oo + j, none⟩ = some (.string (Str t2)) := cell_item (HRO17.out.ext EX3.out) hit2 hst2
                  have HC2 : Hid (∀ W', Ext wr W' → W'.cell? ⟨bo, oo + j, none⟩ = some (.string (Str t2))) := hid (fun W' e => cell_item (HRO17.out.ext (EX3.out.step e)) hit2 hst2)
                  clear hst1 hst2 hit1 hit2 hvt1 hvt2 hnt1 hnt2 hzb1 hzb2
                  go_wp2_with fail
                  refine (rvalid_x t1 _ HVT1).mono ?_
                  rintro e w21 ⟨rfl, hx21⟩
                  have HX21 := hid hx21
                  clear hc1 hc2 hx21
                  have hc2 := HC2.out _ HX21.out
                  go_wp2_with fail
                  refine (rvalid_x t2 _ HVT2).mono ?_
                  rintro e w22 ⟨rfl, hx22⟩
                  have HX22 := hid (EW.out.step (HX21.out.step hx22))
                  clear hc2 hx22
                  go_wp2
                  go_roundw
                  case rel => exact ⟨j + 1, by omega, by simp, HX22.out⟩
                  case measure => first | (simp [intOf]; done) | (simp [intOf]; omega)
                · obtain rfl : j = k + 1 := by omega
                  have hjk : ¬ ((k + 1 : Nat) : Int) ≤ (k : Int) := by omega
                  have HST : Hid (RefV wr (.agg #[.bool b16, .slice A16 k16 c16]) (D * growN m us ad 0 X)) := hid (by rw [growN, Int.mul_one]; exact HV17.out.ext EW.out)
                  have HSR := hid (HR17.out.ext EW.out)
                  have HSE := EX3
                  clear EX3
                  go_wp2_with fail
                  go_loopg [19] k (fun g iz wr => ∃ (j : Nat) (b : Bool) (P : Option Addr) (q c : Nat), j ≤ k ∧ g = k - j ∧ iz = .int .i64 (j : Int) ∧ Row wr w16.heap.size 34 [.bool b, .slice P q c] ∧ RefV wr (.agg #[.bool b, .slice P q c]) (D * growN m us ad j X) ∧ Ext w16 wr)
                  case atStart => exact ⟨0, b16, A16, k16, c16, by omega, by omega, rfl, HSR.out, HST.out, HSE.out⟩
                  case round =>
                    obtain ⟨j, b, P, q, c, hj, rfl, rfl, hrow, hvv, hex⟩ := hrel
                    have RW := hid hrow
                    have VG := hid hvv
                    have EX3 := hid hex
                    have HPG := hid (grow_top hM.out HDF.out X j (by omega))
                    clear hrow hvv hex
                    by_cases hlt : j < k
                    · have hlt1 : j < k + 1 := by omega
                      have hjk : (j : Int) < (k : Int) := by omega
                      have hjk2 : (j : Int) < (k : Int) + 1 := by omega
                      obtain ⟨t1, hst1, hvt1, hnt1, hzb1, hit1⟩ := item_orb HN1.out HXF.out j hlt1
                      obtain ⟨t2, hst2, hvt2, hnt2, hzb2, hit2⟩ := item_orb HN2Y.out HFO.out j hlt1
                      have HVT1 := hid hvt1
                      have HVT2 := hid hvt2
                      have HNT1 := hid hnt1
                      have HNT2 := hid hnt2
                      have HZB1 := hid hzb1
                      have HZB2 := hid hzb2
                      have hc1 : wr.cell? ⟨bl, ol + j, none⟩ = some (.string (Str t1)) := cell_item (HRL17.out.ext EX3.out) hit1 hst1
                      have hc2 : wr.cell? ⟨bo, oo + j, none⟩ = some (.string (Str t2)) := cell_item (HRO17.out.ext EX3.out) hit2 hst2
                      have HCt1 : Hid (∀ W', Ext wr W' → W'.cell? ⟨bl, ol + j, none⟩ = some (.string (Str t1))) := hid (fun W' e => cell_item (HRL17.out.ext (EX3.out.step e)) hit1 hst1)
                      have HCt2 : Hid (∀ W', Ext wr W' → W'.cell? ⟨bo, oo + j, none⟩ = some (.string (Str t2))) := hid (fun W' e => cell_item (HRO17.out.ext (EX3.out.step e)) hit2 hst2)
                      have HRW := hid (HR.out.ext (HY16.out.step EX3.out))
                      obtain ⟨rn, hrn⟩ : ∃ rn, rOf m (orbN m us ad j X) = rn := ⟨_, rfl⟩
                      have hro := rOf_lt (x := orbN m us ad j X) hm0
                      rw [hrn] at hro
                      have HRN1 : Hid (orbN m us ad j X % m = (rn : Int)) := hid hro.2.symm
                      have HRN2 : Hid (orbN m us ad j (X + D * m ^ k) % m = (rn : Int)) := hid (by rw [alike_rest hm0 k X D j hlt]; exact hro.2.symm)
                      have hrule := rule_at hM.out (orbN m us ad j X)
                      rw [hrn] at hrule
                      obtain ⟨u, hu⟩ : ∃ u, us.getD rn 0 = u := ⟨_, rfl⟩
                      rw [hu] at hrule
                      have HGU : Hid (growN m us ad (j + 1) X = growN m us ad j X * u) := hid (by rw [growN, mulAt, hrn, hu])
                      have HUB := hid (small_big (show u.natAbs < 1000000000 by have h1 := hrule.1; have h2 := hrule.2.1; omega))
                      have HBU := hid (show u.natAbs < 1000000000000000000 by have h1 := hrule.1; have h2 := hrule.2.1; omega)
                      have HMC : Hid (∀ W', Ext wr W' → W'.cell? ⟨ba, oa + rn, none⟩ = some (.int .i64 u)) := hid (fun W' e => by
                        obtain ⟨b2, o2, e2, -, hc⟩ := (HMU.out.ext (HY16.out.step (EX3.out.step e))).atI (k := rn) (by rw [HML.out]; have h1 := hro.1; have h2 := HMN.out; omega)
                        cases e2
                        rw [hu] at hc
                        exact hc)
                      have i0 : (0 : Int) ≤ (rn : Int) := by omega
                      have i1 : (rn : Int) < (n : Int) := by have h1 := hro.1; have h2 := HMN.out; omega
                      clear hst1 hst2 hit1 hit2 hvt1 hvt2 hnt1 hnt2 hzb1 hzb2 hc1 hc2 hro hrn hrule hu
                      have hcur : Ext wr wr := Ext.rfl' _
                      have HS26 : Hid (∀ W', Ext wr W' → W'.cell? ⟨bl, ol + j, none⟩ = some (.string (Str t1)) ∧ W'.cell? ⟨w.heap.size, 0, none⟩ = some (.int .i64 m)) := hid (by
                        intro W' e
                        obtain ⟨p0, p1, p2, -, -, -⟩ := row_facts3 (HRW.out.ext ((Ext.rfl' _).step e))
                        exact ⟨(HCt1.out _ ((Ext.rfl' _).step e)), p0⟩)
                      go_upto_region 26 with fail
                      go_cut [20, 21] (fun sa sb wx => sb = .int .i64 (rn : Int) ∧ Ext wr wx)
                      case first =>
                        go_region_held3 (fun W' => W'.cell? ⟨bl, ol + j, none⟩ = some (.string (Str t1)) ∧ W'.cell? ⟨w.heap.size, 0, none⟩ = some (.int .i64 m))
                          (first | exact HS26.out _ hcur | exact HS26.out _ hcur.drew' | exact HS26.out _ (hcur.alloc' _) | exact HS26.out _ (hcur.drew'.alloc' _) | exact HS26.out _ ((hcur.set' HB2.out.1 _).set' HB2.out.1 _) | go_keep)
                          (first
                            | (go_at_call 20; refine (parse_any t1 _ HVT1.out).mono ?_; rintro e w41 ⟨v41, rfl, hv41, hx⟩; rw [HNT1.out] at hv41; (first | have HB2 := hid (HB2.out.ext hx) | have HB2 := hid ((NB.new hcur.size).ext hx) | have HB2 := hid ((NB.newD hcur.size).ext hx) | skip); have hcur := Ext.step hcur (by first | exact hx | exact Ext.undrew hx | exact Ext.step ((Ext.rfl' _).alloc' _) hx | exact Ext.step ((Ext.rfl' _).drew'.alloc' _) hx); have HV41 := hid hv41; obtain ⟨A41, k41, c41, xs41, b41, rfl, -⟩ := hv41; (first | (have hyy := row_facts HB2.out.2; obtain ⟨y0, y1, y2, y3⟩ := hyy) | skip))
                            | (go_at_call 34; refine (rpart_m _ (orbN m us ad j X) m _ (HV41.out.ext ?_) HZB1.out (by have := HM12.out; omega) (by have := HM12.out; omega)).mono ?_; (first | exact Ext.rfl' _ | exact (Ext.rfl' _).drew' | exact (Ext.rfl' _).alloc' _ | exact (Ext.rfl' _).drew'.alloc' _); rintro e w42 ⟨v42, rfl, hv42, hx⟩; (first | have HB2 := hid (HB2.out.ext hx) | have HB2 := hid ((NB.new hcur.size).ext hx) | have HB2 := hid ((NB.newD hcur.size).ext hx) | skip); have hcur := Ext.step hcur (by first | exact hx | exact Ext.undrew hx | exact Ext.step ((Ext.rfl' _).alloc' _) hx | exact Ext.step ((Ext.rfl' _).drew'.alloc' _) hx); have HV42 := hid hv42; obtain ⟨A42, k42, c42, xs42, b42, rfl, -⟩ := hv42; (first | (have hyy := row_facts HB2.out.2; obtain ⟨y0, y1, y2, y3⟩ := hyy) | skip)))
                        all_goals
                          go_wp2_with fail
                          go_meet
                          first
                            | exact ⟨by rw [HRN1.out], (hcur.set' HB2.out.1 _).set' HB2.out.1 _⟩
                            | exact ⟨by rw [HRN1.out], hcur.alloc' _⟩
                      case rest =>
                        obtain ⟨rfl, hex1⟩ := hcut
                        have HE1 := hid hex1
                        clear hex1
                        have hcur : Ext wc wc := Ext.rfl' _
                        have HS27 : Hid (∀ W', Ext wc W' → W'.cell? ⟨bo, oo + j, none⟩ = some (.string (Str t2)) ∧ W'.cell? ⟨w.heap.size, 0, none⟩ = some (.int .i64 m)) := hid (by
                          intro W' e
                          obtain ⟨p0, p1, p2, -, -, -⟩ := row_facts3 (HRW.out.ext (HE1.out.step e))
                          exact ⟨(HCt2.out _ (HE1.out.step e)), p0⟩)
                        go_upto_region 27 with fail
                        go_cut [22, 23] (fun sa sb wx => sb = .int .i64 (rn : Int) ∧ Ext wc wx)
                        case first =>
                          go_region_held3 (fun W' => W'.cell? ⟨bo, oo + j, none⟩ = some (.string (Str t2)) ∧ W'.cell? ⟨w.heap.size, 0, none⟩ = some (.int .i64 m))
                            (first | exact HS27.out _ hcur | exact HS27.out _ hcur.drew' | exact HS27.out _ (hcur.alloc' _) | exact HS27.out _ (hcur.drew'.alloc' _) | exact HS27.out _ ((hcur.set' HB2.out.1 _).set' HB2.out.1 _) | go_keep)
                            (first
                              | (go_at_call 20; refine (parse_any t2 _ HVT2.out).mono ?_; rintro e w41 ⟨v41, rfl, hv41, hx⟩; rw [HNT2.out] at hv41; (first | have HB2 := hid (HB2.out.ext hx) | have HB2 := hid ((NB.new hcur.size).ext hx) | have HB2 := hid ((NB.newD hcur.size).ext hx) | skip); have hcur := Ext.step hcur (by first | exact hx | exact Ext.undrew hx | exact Ext.step ((Ext.rfl' _).alloc' _) hx | exact Ext.step ((Ext.rfl' _).drew'.alloc' _) hx); have HV41 := hid hv41; obtain ⟨A41, k41, c41, xs41, b41, rfl, -⟩ := hv41; (first | (have hyy := row_facts HB2.out.2; obtain ⟨y0, y1, y2, y3⟩ := hyy) | skip))
                              | (go_at_call 34; refine (rpart_m _ (orbN m us ad j (X + D * m ^ k)) m _ (HV41.out.ext ?_) HZB2.out (by have := HM12.out; omega) (by have := HM12.out; omega)).mono ?_; (first | exact Ext.rfl' _ | exact (Ext.rfl' _).drew' | exact (Ext.rfl' _).alloc' _ | exact (Ext.rfl' _).drew'.alloc' _); rintro e w42 ⟨v42, rfl, hv42, hx⟩; (first | have HB2 := hid (HB2.out.ext hx) | have HB2 := hid ((NB.new hcur.size).ext hx) | have HB2 := hid ((NB.newD hcur.size).ext hx) | skip); have hcur := Ext.step hcur (by first | exact hx | exact Ext.undrew hx | exact Ext.step ((Ext.rfl' _).alloc' _) hx | exact Ext.step ((Ext.rfl' _).drew'.alloc' _) hx); have HV42 := hid hv42; obtain ⟨A42, k42, c42, xs42, b42, rfl, -⟩ := hv42; (first | (have hyy := row_facts HB2.out.2; obtain ⟨y0, y1, y2, y3⟩ := hyy) | skip)))
                          all_goals
                            go_wp2_with fail
                            go_meet
                            first
                              | exact ⟨by rw [HRN2.out], (hcur.set' HB2.out.1 _).set' HB2.out.1 _⟩
                              | exact ⟨by rw [HRN2.out], hcur.alloc' _⟩
                        case rest =>
                          obtain ⟨rfl, hex2⟩ := hcut
                          have HE2 := hid (HE1.out.step hex2)
                          clear hex2
                          have hcur : Ext wr wc := HE2.out
                          obtain ⟨f0, f1, f2, -, -, -⟩ := row_facts3 (HRW.out.ext hcur)
                          obtain ⟨g0, g1, g2, g3⟩ := row_facts (RW.out.ext hcur)
                          have hmc := HMC.out _ hcur
                          go_wp2_with fail
                          go_region_with (first
                            | (go_at_call 32; refine (of_any u _ HBU.out).mono ?_; rintro e w51 ⟨v51, rfl, hv51, hx⟩; have hcur := Ext.step hcur (by first | exact hx | exact Ext.undrew hx | exact Ext.step ((Ext.rfl' _).alloc' _) hx | exact Ext.step ((Ext.rfl' _).drew'.alloc' _) hx); have HV51 := hid hv51; obtain ⟨A51, k51, c51, xs51, b51, rfl, -⟩ := hv51; obtain ⟨g0, g1, g2, g3⟩ := row_facts (RW.out.ext hcur); obtain ⟨f0, f1, f2, -, -, -⟩ := row_facts3 (HRW.out.ext hcur); have hmc := HMC.out _ hcur)
                            | (go_at_call 31; refine (rmul_any _ _ (D * growN m us ad j X) u _ (VG.out.ext ?_) (HV51.out.ext ?_) HPG.out HUB.out).mono ?_; (first | exact hcur | exact hcur.drew' | exact hcur.alloc' _ | exact hcur.drew'.alloc' _ | exact (hcur.alloc' _).drew'); (first | exact Ext.rfl' _ | exact (Ext.rfl' _).drew' | exact (Ext.rfl' _).alloc' _ | exact (Ext.rfl' _).drew'.alloc' _); rintro e w52 ⟨v52, rfl, hv52, hx⟩; have hcur := Ext.step hcur (by first | exact hx | exact Ext.undrew hx | exact Ext.step ((Ext.rfl' _).alloc' _) hx | exact Ext.step ((Ext.rfl' _).drew'.alloc' _) hx); have HV52 := hid hv52; obtain ⟨A52, k52, c52, xs52, b52, rfl, -⟩ := hv52; obtain ⟨g0, g1, g2, g3⟩ := row_facts (RW.out.ext hcur); obtain ⟨f0, f1, f2, -, -, -⟩ := row_facts3 (HRW.out.ext hcur); have hmc := HMC.out _ hcur))
                          all_goals
                            have hrw := RW.out.ext hcur
                            have HFIN : Hid (∃ (j' : Nat) (b : Bool) (P : Option Addr) (q c : Nat), j' ≤ k ∧ k - (j + 1) = k - j' ∧ Value.int .i64 ((j : Int) + 1) = .int .i64 (j' : Int) ∧ Row ((w52.setCell ⟨w16.heap.size, 0, none⟩ (.bool b52)).setCell ⟨w16.heap.size, 1, none⟩ (.slice A52 k52 c52)) w16.heap.size 34 [.bool b, .slice P q c] ∧ RefV ((w52.setCell ⟨w16.heap.size, 0, none⟩ (.bool b52)).setCell ⟨w16.heap.size, 1, none⟩ (.slice A52 k52 c52)) (.agg #[.bool b, .slice P q c]) (D * growN m us ad j' X) ∧ Ext w16 ((w52.setCell ⟨w16.heap.size, 0, none⟩ (.bool b52)).setCell ⟨w16.heap.size, 1, none⟩ (.slice A52 k52 c52))) := hid (by
                              refine ⟨j + 1, b52, A52, k52, c52, by omega, rfl, by simp, (hrw.set 0 _).set 1 _, ?_, ((EX3.out.step hcur).set' (by show w16.heap.size ≤ w16.heap.size; omega) _).set' (by show w16.heap.size ≤ w16.heap.size; omega) _⟩
                              rw [HGU.out, ← Int.mul_assoc]
                              exact HV52.out.box hrw)
                            clear hrw hcur
                            go_wp2
                            go_roundg (k - (j + 1))
                            case measure => omega
                            case rel => exact HFIN.out
                    · obtain rfl : k = j := by omega
                      have hjk2 : (k : Int) < (k : Int) + 1 := by omega
                      have hlt1 : k < k + 1 := by omega
                      obtain ⟨t1, hst1, hvt1, hnt1, hzb1, hit1⟩ := item_orb HN1.out HXF.out k hlt1
                      obtain ⟨t2, hst2, hvt2, hnt2, hzb2, hit2⟩ := item_orb HN2Y.out HFO.out k hlt1
                      have HVT1 := hid hvt1
                      have HVT2 := hid hvt2
                      have HNT1 := hid hnt1
                      have HNT2 := hid hnt2
                      have HZB1 := hid hzb1
                      have HZB2 := hid hzb2
                      have HS : Hid (∀ W', Ext wr W' → W'.cell? ⟨bl, ol + k, none⟩ = some (.string (Str t1)) ∧ W'.cell? ⟨bo, oo + k, none⟩ = some (.string (Str t2)) ∧ W'.cell? ⟨w16.heap.size, 0, none⟩ = some (.bool b) ∧ W'.cell? ⟨w16.heap.size, 1, none⟩ = some (.slice P q c)) := hid (by
                        intro W' e
                        obtain ⟨p0, p1, -, -⟩ := row_facts (RW.out.ext e)
                        exact ⟨cell_item (HRL17.out.ext (EX3.out.step e)) hit1 hst1, cell_item (HRO17.out.ext (EX3.out.step e)) hit2 hst2, p0, p1⟩)
                      have HSG : Hid (sgnI (orbN m us ad k (X + D * m ^ k) - orbN m us ad k X) (D * growN m us ad k X) = 0) := hid (by rw [alike_end hm0 k X D]; unfold sgnI; rw [if_neg (Int.lt_irrefl _), if_neg (Int.lt_irrefl _)])
                      have HDB : Hid ((orbN m us ad k (X + D * m ^ k) - orbN m us ad k X).natAbs ≤ BIG) := hid (by rw [alike_end hm0 k X D]; exact HPG.out)
                      have HTW := hid (HTT.out.ext (HY16.out.step EX3.out))
                      have HXW := hid (HX.out.step (HY16.out.step EX3.out))
                      have hcur : Ext wr wr := Ext.rfl' _
                      clear hst1 hst2 hit1 hit2 hvt1 hvt2 hnt1 hnt2 hzb1 hzb2
                      go_wp2_with fail
                      go_region_held3 (fun W' => W'.cell? ⟨bl, ol + k, none⟩ = some (.string (Str t1)) ∧ W'.cell? ⟨bo, oo + k, none⟩ = some (.string (Str t2)) ∧ W'.cell? ⟨w16.heap.size, 0, none⟩ = some (.bool b) ∧ W'.cell? ⟨w16.heap.size, 1, none⟩ = some (.slice P q c))
                        (first | exact HS.out _ hcur | exact HS.out _ hcur.drew' | exact HS.out _ (hcur.alloc' _) | exact HS.out _ (hcur.drew'.alloc' _) | exact HS.out _ ((hcur.set' HB2.out.1 _).set' HB2.out.1 _) | go_keep)
                        (first
                          | (go_at_call_of 20 (Value.string (Str t2)); refine (parse_any t2 _ HVT2.out).mono ?_; rintro e w61 ⟨v61, rfl, hv61, hx⟩; rw [HNT2.out] at hv61; have hcur := Ext.step hcur (by first | exact hx | exact Ext.undrew hx | exact Ext.step ((Ext.rfl' _).alloc' _) hx | exact Ext.step ((Ext.rfl' _).drew'.alloc' _) hx); have HV61 := hid hv61; obtain ⟨A61, k61, c61, xs61, b61, rfl, -⟩ := hv61)
                          | (go_at_call_of 20 (Value.string (Str t1)); refine (parse_any t1 _ HVT1.out).mono ?_; rintro e w62 ⟨v62, rfl, hv62, hx⟩; rw [HNT1.out] at hv62; have HV61 := hid (by first | exact HV61.out.ext hx | exact HV61.out.ext (Ext.undrew hx) | exact HV61.out.ext (Ext.step ((Ext.rfl' _).alloc' _) hx)); have hcur := Ext.step hcur (by first | exact hx | exact Ext.undrew hx | exact Ext.step ((Ext.rfl' _).alloc' _) hx | exact Ext.step ((Ext.rfl' _).drew'.alloc' _) hx); have HV62 := hid hv62; obtain ⟨A62, k62, c62, xs62, b62, rfl, -⟩ := hv62)
                          | (go_at_call 36; refine (rsub_any _ _ (orbN m us ad k (X + D * m ^ k)) (orbN m us ad k X) _ (HV61.out.ext ?_) (HV62.out.ext ?_) HZB2.out HZB1.out).mono ?_; (first | exact Ext.rfl' _ | exact (Ext.rfl' _).drew' | exact (Ext.rfl' _).alloc' _ | exact (Ext.rfl' _).drew'.alloc' _); (first | exact Ext.rfl' _ | exact (Ext.rfl' _).drew' | exact (Ext.rfl' _).alloc' _ | exact (Ext.rfl' _).drew'.alloc' _); rintro e w63 ⟨v63, rfl, hv63, hx⟩; have hcur := Ext.step hcur (by first | exact hx | exact Ext.undrew hx | exact Ext.step ((Ext.rfl' _).alloc' _) hx | exact Ext.step ((Ext.rfl' _).drew'.alloc' _) hx); have HV63 := hid hv63; obtain ⟨A63, k63, c63, xs63, b63, rfl, -⟩ := hv63)
                          | (go_at_call 35; refine (rcmp_any _ _ (orbN m us ad k (X + D * m ^ k) - orbN m us ad k X) (D * growN m us ad k X) _ (HV63.out.ext ?_) (VG.out.ext ?_) HDB.out HPG.out).mono ?_; (first | exact Ext.rfl' _ | exact (Ext.rfl' _).drew' | exact (Ext.rfl' _).alloc' _ | exact (Ext.rfl' _).drew'.alloc' _); (first | exact hcur | exact hcur.drew' | exact hcur.alloc' _ | exact hcur.drew'.alloc' _ | exact (hcur.alloc' _).drew'); rintro e w64 ⟨rfl, hx⟩; rw [HSG.out]; have hcur := Ext.step hcur (by first | exact hx | exact Ext.undrew hx | exact Ext.step ((Ext.rfl' _).alloc' _) hx | exact Ext.step ((Ext.rfl' _).drew'.alloc' _) hx))
                          | (go_at_call 19; refine (awake2_any _ (HTW.out.ext ?_)).mono ?_; (first | exact hcur | exact hcur.drew' | exact hcur.alloc' _ | exact hcur.drew'.alloc' _ | exact (hcur.alloc' _).drew'); rintro e w65 ⟨rfl, hx⟩; have hcur := Ext.step hcur (by first | exact hx | exact Ext.undrew hx | exact Ext.step ((Ext.rfl' _).alloc' _) hx | exact Ext.step ((Ext.rfl' _).drew'.alloc' _) hx)))
                      all_goals
                        have HZ := hid (HXW.out.step hcur)
                        clear hcur
                        go_wp2
                        go_ret
                        exact ⟨rfl, by first | exact HZ.out | exact HZ.out.drew'⟩
      · have HFO := hid hfo
        clear hfo
        go_wp2_with fail
        refine (rfits_any _ (X + D * m ^ k) WB HV7.out HOB.out false (hid ⟨fun h => Bool.noConfusion h, fun h => absurd h HFO.out⟩)).mono ?_
        rintro e wf ⟨rfl, hxf⟩
        have HYF := hid (HYB.out.step hxf)
        clear g0 g1 hxf
        go_wp2_with fail
        refine (awake2_any wf (HTT.out.ext HYF.out)).mono ?_
        rintro e w3 ⟨rfl, hx3⟩
        have HZ := hid (HX.out.step (HYF.out.step hx3))
        go_wp2
        go_ret
        exact ⟨rfl, HZ.out⟩
theorem law_StepAlike (v : Value) (m : Int) (us ad : List Int) (s sd : List UInt8) (k : Int) (w : World) (hv : MapV w v m us ad) (hlen : s.length ≤ 140737488351232) (hlen2 : sd.length ≤ 140737488351232) (ht : Tab w) :
    Calls Tryz.prog 6 #[v, .string (Str s), .string (Str sd), .int .i64 k] w (TruePost w) := by
  cases hf : (mapB m us ad && K.validL s) with
  | false => exact alike_form v m us ad s sd k w hv ht hlen hlen2 (hid hf.symm)
  | true =>
    cases hd : K.validL sd with
    | false => exact alike_dno v m us ad s sd k w hv ht hlen hlen2 (hid hf.symm) (hid hd)
    | true =>
      rcases Int.lt_or_le k 0 with h1 | h1
      · exact alike_low v m us ad s sd k w hv ht hlen hlen2 (hid hf.symm) (hid hd) h1
      · rcases Int.lt_or_le 1000 k with h3 | h3
        · exact alike_high v m us ad s sd k w hv ht hlen hlen2 (hid hf.symm) (hid hd) h1 h3
        · obtain ⟨n, rfl⟩ : ∃ n : Nat, k = n := ⟨k.toNat, by omega⟩
          have h2 := hf
          rw [Bool.and_eq_true] at h2
          exact alike_main v m us ad s sd n w hv ht hlen hlen2 (hid hf.symm) (hid hd) (hid ((mapB_iff m us ad).1 h2.1)) (hid h2.2) (by omega) (K.numL s) (K.numL sd) (hid rfl) (hid rfl) (hid (K.txt_numL s h2.2).2) (hid (K.txt_numL sd hd).2)
end Go.Proofs.YtflgkijmbpcnfaaGreatDoor
