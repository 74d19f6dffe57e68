/- the law NumPowers -/
import Derived.Test.YtoilkfohhhidpaaDoorJCNumPowers14
import Derived.Test.YtoilkfohhhidpaaDoorJCNumPowers15
namespace Go.Proofs.YtoilkfohhhidpaaDoor
open Go.RowKit
theorem natAbs_pow_pos {m : Int} (h : m ≠ 0) (i : Nat) : 0 < (m ^ i).natAbs := by
  rw [Int.natAbs_pow]; exact Nat.pow_pos (by omega)
theorem fits_pow_le {m : Int} {n : Nat} (h : 1 < m.natAbs) : ∀ i, i ≤ n → K.fits (m ^ n) → K.fits (m ^ i) := by
  intro i hi hf
  unfold K.fits at *
  rw [Int.natAbs_pow] at *
  exact Nat.lt_of_le_of_lt (Nat.pow_le_pow_right (by omega) hi) hf
theorem one_pow_odd {m : Int} {n : Nat} (h : m.natAbs = 1) (ho : n % 2 = 1) : m ^ n = m := by
  obtain ⟨k, rfl⟩ : ∃ k, n = 2 * k + 1 := ⟨n / 2, by omega⟩
  have h2 : m * m = 1 := by
    rcases Int.natAbs_eq m with e | e <;> rw [h] at e <;> rw [e] <;> rfl
  rw [Int.pow_succ, Int.pow_mul, Int.pow_succ, Int.pow_succ, Int.pow_zero, Int.one_mul, h2, Int.one_pow, Int.one_mul]
theorem one_pow_even {m : Int} {n : Nat} (h : m.natAbs = 1) (ho : n % 2 = 0) : m ^ n = 1 := by
  obtain ⟨k, rfl⟩ : ∃ k, n = 2 * k := ⟨n / 2, by omega⟩
  have h2 : m * m = 1 := by
    rcases Int.natAbs_eq m with e | e <;> rw [h] at e <;> rw [e] <;> rfl
  rw [Int.pow_mul, Int.pow_succ, Int.pow_succ, Int.pow_zero, Int.one_mul, h2, Int.one_pow]
theorem rpower_any (va : Value) (m : Int) (n : Nat) (w : World) (ha : RefV w va m) (hf : K.fits m) (hn : n ≤ 10000) :
    Calls Tryd.prog 29 #[va, .int .i64 (n : Int)] w (RPow m n w) := by
  by_cases h0 : m = 0
  · subst h0
    have e1 : sgn ((0 : Int).natAbs) 1 = -1 := rfl
    by_cases hp : 0 < n
    · exact rpower_zero va 0 n 0 (-1) w ha hf hn (hid rfl) (hid e1) rfl hp (hid (Int.zero_pow (by omega)))
    · exact rpower_naught0 va 0 n 0 (-1) w ha hf hn (hid rfl) (hid e1) (by omega) rfl rfl (hid (by rw [show n = 0 by omega, Int.pow_zero]))
  · have hs0 : (sgn0 m == 0) = false := by
      rw [beq_eq_false_iff_ne]; unfold sgn0; rw [if_neg h0]; split <;> omega
    by_cases h1 : m.natAbs = 1
    · have e1 : sgn m.natAbs 1 = 0 := by rw [h1]; rfl
      by_cases ho : n % 2 = 1
      · exact rpower_odd va m n _ 0 w ha hf hn (hid rfl) (hid e1) hs0 rfl (by rw [beq_iff_eq]; omega) (hid (one_pow_odd h1 ho))
      · exact rpower_even va m n _ 0 w ha hf hn (hid rfl) (hid e1) hs0 rfl (by rw [beq_eq_false_iff_ne]; omega) (hid (one_pow_even h1 (by omega)))
    · have e1 : sgn m.natAbs 1 = 1 := by unfold sgn; rw [if_neg (by omega), if_pos (by omega)]
      by_cases hp : n = 0
      · exact rpower_naught1 va m n _ 1 w ha hf hn (hid rfl) (hid e1) hp hs0 rfl (hid (by rw [hp, Int.pow_zero]))
      · exact rpower_loop va m n _ 1 w ha hf hn (hid rfl) (hid e1) (by rw [beq_eq_false_iff_ne]; omega) hs0 rfl (fits_pow_le (by omega))
set_option maxRecDepth 100000 in
set_option maxHeartbeats 1600000 in
theorem form_NumPowers (a : List UInt8) (n d : Int) (w : World) (ha : a.length ≤ 140737488351232) (ht : Tab w) (va : Hid (K.validL a = false)) :
    Calls Tryd.prog 5 #[.string (Str a), .int .i64 n, .int .i64 d] w (TruePost w) := by
  have HT := hid ht
  go_enter Tryd.func5, Tryd.ntmps5
  go_wp2_with fail
  refine (power_form a n w ha va.out).mono ?_
  rintro e w1 ⟨rfl, hx1⟩
  have hy1 : Ext w w1 := hx1
  clear hx1
  go_wp2_with fail
  refine (rest_form a d w1 ha va.out).mono ?_
  rintro e w2 ⟨rfl, hx2⟩
  have hy2 : Ext w w2 := hy1.step hx2
  clear hx2 hy1
  go_wp2_with fail
  refine (rvalid_at a w2 va ha).mono ?_
  rintro e wz ⟨rfl, rfl⟩
  go_wp2_with fail
  refine (awake_any w2 (HT.out.ext hy2)).mono ?_
  rintro e w3 ⟨rfl, hx3⟩
  have hfin : Hid (Ext w w3) := hid (hy2.step hx3)
  go_wp2
  go_ret
  exact ⟨rfl, hfin.out⟩
set_option maxRecDepth 100000 in
set_option maxHeartbeats 1600000 in
theorem dok_fit_NumPowers (a : List UInt8) (n : Nat) (d : Nat) (w : World) (ha : a.length ≤ 140737488351232) (ht : Tab w) (va : Hid (K.validL a = true)) (hd : 1 ≤ d) (hd2 : d ≤ 2147483647) (hn : n ≤ 10000) (hf : Hid (K.fits (K.numL a ^ n))) :
    Calls Tryd.prog 5 #[.string (Str a), .int .i64 (n : Int), .int .i64 (d : Int)] w (TruePost w) := by
  have HT := hid ht
  have f1 := hid (K.txt_numL a va.out).2
  have g1 := hid (fits_big f1.out)
  obtain ⟨r, hr⟩ : ∃ r, K.numL a % (d : Int) = r := ⟨_, rfl⟩
  have HR := hid hr
  have hrr : (r == r) = true := by simp
  clear hr
  go_enter Tryd.func5, Tryd.ntmps5
  go_wp2_with fail
  refine (power_ok a n w ha va.out hn HT.out).mono ?_
  intro e w1 h1
  obtain ⟨s1, c1, rfl, t1, hx1⟩ := told2_of h1
  have T1 := hid t1
  clear t1
  have hy1 : Ext w w1 := hx1
  clear h1 hx1
  go_wp2_with fail
  refine (rest_ok a d w1 ha va.out hd hd2).mono ?_
  rintro e w2 ⟨rfl, hx2⟩
  rw [HR.out]
  have hy2 : Ext w w2 := hy1.step hx2
  clear hx2 hy1
  go_wp2_with fail
  refine (rvalid_at a w2 va ha).mono ?_
  rintro e wz ⟨rfl, rfl⟩
  go_wp2_with fail
  refine (parse_any a w2 va.out).mono ?_
  rintro e w3 ⟨v1, rfl, hv1, hx3⟩
  have HV0 := hid hv1
  obtain ⟨A, ka, ca, xs, na, rfl, -⟩ := hv1
  have hrow : Row (w3.alloc (.cells #[.bool na, .slice A ka ca] 31)) w3.heap.size 31 [.bool na, .slice A ka ca] := Row.new w3 _ _
  have HV1 := hid (HV0.out.ext ((Ext.rfl' w3).alloc' (.cells #[.bool na, .slice A ka ca] 31)))
  have hcur : Ext w (w3.alloc (.cells #[.bool na, .slice A ka ca] 31)) := (hy2.step hx3).alloc' _
  obtain ⟨W4, hW4⟩ : ∃ W4, w3.alloc (.cells #[.bool na, .slice A ka ca] 31) = W4 := ⟨_, rfl⟩
  rw [hW4] at hcur hrow HV1
  have HW4 := hid hW4
  have HROW := hid hrow
  clear hW4 hrow hx3 hy2 HV0
  go_upto_region 6 with fail
  rw [HW4.out]
  obtain ⟨b0, b1, -, -⟩ := row_facts HROW.out
  go_wp2_with fail
  refine (rpart_any _ _ d W4 HV1.out g1.out hd hd2).mono ?_
  rintro e w5 ⟨v5, rfl, -, hx5⟩
  rw [HR.out]
  have hcur' := hcur.step hx5
  have HROW5 := hid (HROW.out.ext hx5)
  have HV5 := hid (HV1.out.ext hx5)
  clear hx5 hcur HROW HV1 b0 b1
  have HROW := HROW5
  have HV1 := HV5
  have hcur := hcur'
  clear HROW5 HV5 hcur'
  obtain ⟨b0, b1, -, -⟩ := row_facts HROW.out
  go_wp2_with fail
  refine (rpower_any _ _ n w5 HV1.out f1.out hn).mono ?_
  rintro e w6 ⟨hor, hx6⟩
  obtain ⟨v6, rfl, hv6⟩ : ∃ v, e = .returned (.tuple #[v, .bool true]) ∧ RefV w6 v (K.numL a ^ n) := by
    rcases hor with ⟨v, h1, h2, -⟩ | h
    · exact ⟨v, h1, h2⟩
    · exact absurd hf.out h.2
  have HV6 := hid hv6
  obtain ⟨A6, k6, c6, xs6, n6, rfl, -⟩ := hv6
  have hcur6 := hcur.step hx6
  clear hor hcur hx6 b0 b1
  have hrow : Row (w6.alloc (.cells #[.bool n6, .slice A6 k6 c6] 31)) w6.heap.size 31 [.bool n6, .slice A6 k6 c6] := Row.new w6 _ _
  have HV7 := hid (HV6.out.ext ((Ext.rfl' w6).alloc' (.cells #[.bool n6, .slice A6 k6 c6] 31)))
  have hcur7 : Ext w (w6.alloc (.cells #[.bool n6, .slice A6 k6 c6] 31)) := hcur6.alloc' _
  obtain ⟨W7, hW7⟩ : ∃ W7, w6.alloc (.cells #[.bool n6, .slice A6 k6 c6] 31) = W7 := ⟨_, rfl⟩
  rw [hW7] at hcur7 hrow HV7
  have HW7 := hid hW7
  have HROW7 := hid hrow
  clear hW7 hrow hcur6 HV6
  go_upto_region 15 with fail
  rw [HW7.out]
  obtain ⟨b0, b1, -, -⟩ := row_facts HROW7.out
  go_wp2_with fail
  refine (lawtold_any s1 c1 _ _ W7 HV7.out (fits_big hf.out) T1).mono ?_
  rintro e w8 ⟨rfl, hx8⟩
  have hcur8 := hcur7.step hx8
  clear hx8 hcur7 b0 b1
  go_wp2_with fail
  refine (awake_any w8 (HT.out.ext hcur8)).mono ?_
  rintro e w9 ⟨rfl, hx9⟩
  have hfin : Hid (Ext w w9) := hid (hcur8.step hx9)
  go_wp2
  go_ret
  exact ⟨rfl, hfin.out⟩
set_option maxRecDepth 100000 in
set_option maxHeartbeats 1600000 in
theorem dok_nofit_NumPowers (a : List UInt8) (n : Nat) (d : Nat) (w : World) (ha : a.length ≤ 140737488351232) (ht : Tab w) (va : Hid (K.validL a = true)) (hd : 1 ≤ d) (hd2 : d ≤ 2147483647) (hn : n ≤ 10000) (hf : Hid (¬ K.fits (K.numL a ^ n))) :
    Calls Tryd.prog 5 #[.string (Str a), .int .i64 (n : Int), .int .i64 (d : Int)] w (TruePost w) := by
  have HT := hid ht
  have f1 := hid (K.txt_numL a va.out).2
  have g1 := hid (fits_big f1.out)
  obtain ⟨r, hr⟩ : ∃ r, K.numL a % (d : Int) = r := ⟨_, rfl⟩
  have HR := hid hr
  have hrr : (r == r) = true := by simp
  clear hr
  go_enter Tryd.func5, Tryd.ntmps5
  go_wp2_with fail
  refine (power_ok a n w ha va.out hn HT.out).mono ?_
  intro e w1 h1
  obtain ⟨s1, c1, rfl, t1, hx1⟩ := told2_of h1
  obtain ⟨rfl, rfl⟩ := t1.2 hf.out
  clear t1
  have hy1 : Ext w w1 := hx1
  clear h1 hx1
  go_wp2_with fail
  refine (rest_ok a d w1 ha va.out hd hd2).mono ?_
  rintro e w2 ⟨rfl, hx2⟩
  rw [HR.out]
  have hy2 : Ext w w2 := hy1.step hx2
  clear hx2 hy1
  go_wp2_with fail
  refine (rvalid_at a w2 va ha).mono ?_
  rintro e wz ⟨rfl, rfl⟩
  go_wp2_with fail
  refine (parse_any a w2 va.out).mono ?_
  rintro e w3 ⟨v1, rfl, hv1, hx3⟩
  have HV0 := hid hv1
  obtain ⟨A, ka, ca, xs, na, rfl, -⟩ := hv1
  have hrow : Row (w3.alloc (.cells #[.bool na, .slice A ka ca] 31)) w3.heap.size 31 [.bool na, .slice A ka ca] := Row.new w3 _ _
  have HV1 := hid (HV0.out.ext ((Ext.rfl' w3).alloc' (.cells #[.bool na, .slice A ka ca] 31)))
  have hcur : Ext w (w3.alloc (.cells #[.bool na, .slice A ka ca] 31)) := (hy2.step hx3).alloc' _
  obtain ⟨W4, hW4⟩ : ∃ W4, w3.alloc (.cells #[.bool na, .slice A ka ca] 31) = W4 := ⟨_, rfl⟩
  rw [hW4] at hcur hrow HV1
  have HW4 := hid hW4
  have HROW := hid hrow
  clear hW4 hrow hx3 hy2 HV0
  go_upto_region 6 with fail
  rw [HW4.out]
  obtain ⟨b0, b1, -, -⟩ := row_facts HROW.out
  go_wp2_with fail
  refine (rpart_any _ _ d W4 HV1.out g1.out hd hd2).mono ?_
  rintro e w5 ⟨v5, rfl, -, hx5⟩
  rw [HR.out]
  have hcur' := hcur.step hx5
  have HROW5 := hid (HROW.out.ext hx5)
  have HV5 := hid (HV1.out.ext hx5)
  clear hx5 hcur HROW HV1 b0 b1
  have HROW := HROW5
  have HV1 := HV5
  have hcur := hcur'
  clear HROW5 HV5 hcur'
  obtain ⟨b0, b1, -, -⟩ := row_facts HROW.out
  go_wp2_with fail
  refine (rpower_any _ _ n w5 HV1.out f1.out hn).mono ?_
  rintro e w6 ⟨hor, hx6⟩
  obtain rfl : e = .returned (.tuple #[.agg #[.bool false, .slice none 0 0], .bool false]) := by
    rcases hor with ⟨v, -, -, h⟩ | h
    · exact absurd h hf.out
    · exact h.1
  have hcur6 := hcur.step hx6
  clear hor hcur hx6 b0 b1
  go_upto_region 15 with fail
  have hcur7 : Ext w (w6.alloc (.cells #[.bool false, .slice none 0 0] 31)) := hcur6.alloc' _
  go_wp2_with fail
  refine (awake_any _ (HT.out.ext hcur7)).mono ?_
  rintro e w8 ⟨rfl, hx8⟩
  have hfin : Hid (Ext w w8) := hid (hcur7.step hx8)
  go_wp2
  go_ret
  exact ⟨rfl, hfin.out⟩
set_option maxRecDepth 100000 in
set_option maxHeartbeats 1600000 in
theorem dok_nlow_NumPowers (a : List UInt8) (n : Int) (d : Nat) (w : World) (ha : a.length ≤ 140737488351232) (ht : Tab w) (va : Hid (K.validL a = true)) (hd : 1 ≤ d) (hd2 : d ≤ 2147483647) (hn : n < 0) :
    Calls Tryd.prog 5 #[.string (Str a), .int .i64 n, .int .i64 (d : Int)] w (TruePost w) := by
  have HT := hid ht
  have f1 := hid (K.txt_numL a va.out).2
  have g1 := hid (fits_big f1.out)
  obtain ⟨r, hr⟩ : ∃ r, K.numL a % (d : Int) = r := ⟨_, rfl⟩
  have HR := hid hr
  have hrr : (r == r) = true := by simp
  clear hr
  go_enter Tryd.func5, Tryd.ntmps5
  go_wp2_with fail
  refine (power_arg a n w ha va.out (by omega)).mono ?_
  rintro e w1 ⟨rfl, hx1⟩
  have hy1 : Ext w w1 := hx1
  clear hx1
  go_wp2_with fail
  refine (rest_ok a d w1 ha va.out hd hd2).mono ?_
  rintro e w2 ⟨rfl, hx2⟩
  rw [HR.out]
  have hy2 : Ext w w2 := hy1.step hx2
  clear hx2 hy1
  go_wp2_with fail
  refine (rvalid_at a w2 va ha).mono ?_
  rintro e wz ⟨rfl, rfl⟩
  go_wp2_with fail
  refine (parse_any a w2 va.out).mono ?_
  rintro e w3 ⟨v1, rfl, hv1, hx3⟩
  have HV0 := hid hv1
  obtain ⟨A, ka, ca, xs, na, rfl, -⟩ := hv1
  have hrow : Row (w3.alloc (.cells #[.bool na, .slice A ka ca] 31)) w3.heap.size 31 [.bool na, .slice A ka ca] := Row.new w3 _ _
  have HV1 := hid (HV0.out.ext ((Ext.rfl' w3).alloc' (.cells #[.bool na, .slice A ka ca] 31)))
  have hcur : Ext w (w3.alloc (.cells #[.bool na, .slice A ka ca] 31)) := (hy2.step hx3).alloc' _
  obtain ⟨W4, hW4⟩ : ∃ W4, w3.alloc (.cells #[.bool na, .slice A ka ca] 31) = W4 := ⟨_, rfl⟩
  rw [hW4] at hcur hrow HV1
  have HW4 := hid hW4
  have HROW := hid hrow
  clear hW4 hrow hx3 hy2 HV0
  go_upto_region 6 with fail
  rw [HW4.out]
  obtain ⟨b0, b1, -, -⟩ := row_facts HROW.out
  go_wp2_with fail
  refine (rpart_any _ _ d W4 HV1.out g1.out hd hd2).mono ?_
  rintro e w5 ⟨v5, rfl, -, hx5⟩
  rw [HR.out]
  have hcur' := hcur.step hx5
  have HROW5 := hid (HROW.out.ext hx5)
  have HV5 := hid (HV1.out.ext hx5)
  clear hx5 hcur HROW HV1 b0 b1
  have HROW := HROW5
  have HV1 := HV5
  have hcur := hcur'
  clear HROW5 HV5 hcur'
  go_wp2_with fail
  refine (awake_any w5 (HT.out.ext hcur)).mono ?_
  rintro e w8 ⟨rfl, hx8⟩
  have hfin : Hid (Ext w w8) := hid (hcur.step hx8)
  go_wp2
  go_ret
  exact ⟨rfl, hfin.out⟩
set_option maxRecDepth 100000 in
set_option maxHeartbeats 1600000 in
theorem dok_nhigh_NumPowers (a : List UInt8) (n : Int) (d : Nat) (w : World) (ha : a.length ≤ 140737488351232) (ht : Tab w) (va : Hid (K.validL a = true)) (hd : 1 ≤ d) (hd2 : d ≤ 2147483647) (hn : 10000 < n) :
    Calls Tryd.prog 5 #[.string (Str a), .int .i64 n, .int .i64 (d : Int)] w (TruePost w) := by
  have HT := hid ht
  have f1 := hid (K.txt_numL a va.out).2
  have g1 := hid (fits_big f1.out)
  obtain ⟨r, hr⟩ : ∃ r, K.numL a % (d : Int) = r := ⟨_, rfl⟩
  have HR := hid hr
  have hrr : (r == r) = true := by simp
  clear hr
  go_enter Tryd.func5, Tryd.ntmps5
  go_wp2_with fail
  refine (power_arg a n w ha va.out (by omega)).mono ?_
  rintro e w1 ⟨rfl, hx1⟩
  have hy1 : Ext w w1 := hx1
  clear hx1
  go_wp2_with fail
  refine (rest_ok a d w1 ha va.out hd hd2).mono ?_
  rintro e w2 ⟨rfl, hx2⟩
  rw [HR.out]
  have hy2 : Ext w w2 := hy1.step hx2
  clear hx2 hy1
  go_wp2_with fail
  refine (rvalid_at a w2 va ha).mono ?_
  rintro e wz ⟨rfl, rfl⟩
  go_wp2_with fail
  refine (parse_any a w2 va.out).mono ?_
  rintro e w3 ⟨v1, rfl, hv1, hx3⟩
  have HV0 := hid hv1
  obtain ⟨A, ka, ca, xs, na, rfl, -⟩ := hv1
  have hrow : Row (w3.alloc (.cells #[.bool na, .slice A ka ca] 31)) w3.heap.size 31 [.bool na, .slice A ka ca] := Row.new w3 _ _
  have HV1 := hid (HV0.out.ext ((Ext.rfl' w3).alloc' (.cells #[.bool na, .slice A ka ca] 31)))
  have hcur : Ext w (w3.alloc (.cells #[.bool na, .slice A ka ca] 31)) := (hy2.step hx3).alloc' _
  obtain ⟨W4, hW4⟩ : ∃ W4, w3.alloc (.cells #[.bool na, .slice A ka ca] 31) = W4 := ⟨_, rfl⟩
  rw [hW4] at hcur hrow HV1
  have HW4 := hid hW4
  have HROW := hid hrow
  clear hW4 hrow hx3 hy2 HV0
  go_upto_region 6 with fail
  rw [HW4.out]
  obtain ⟨b0, b1, -, -⟩ := row_facts HROW.out
  go_wp2_with fail
  refine (rpart_any _ _ d W4 HV1.out g1.out hd hd2).mono ?_
  rintro e w5 ⟨v5, rfl, -, hx5⟩
  rw [HR.out]
  have hcur' := hcur.step hx5
  have HROW5 := hid (HROW.out.ext hx5)
  have HV5 := hid (HV1.out.ext hx5)
  clear hx5 hcur HROW HV1 b0 b1
  have HROW := HROW5
  have HV1 := HV5
  have hcur := hcur'
  clear HROW5 HV5 hcur'
  go_wp2_with fail
  refine (awake_any w5 (HT.out.ext hcur)).mono ?_
  rintro e w8 ⟨rfl, hx8⟩
  have hfin : Hid (Ext w w8) := hid (hcur.step hx8)
  go_wp2
  go_ret
  exact ⟨rfl, hfin.out⟩
set_option maxRecDepth 100000 in
set_option maxHeartbeats 1600000 in
theorem dlow_fit_NumPowers (a : List UInt8) (n : Nat) (d : Int) (w : World) (ha : a.length ≤ 140737488351232) (ht : Tab w) (va : Hid (K.validL a = true)) (hd : d < 1) (hn : n ≤ 10000) (hf : Hid (K.fits (K.numL a ^ n))) :
    Calls Tryd.prog 5 #[.string (Str a), .int .i64 (n : Int), .int .i64 d] w (TruePost w) := by
  have HT := hid ht
  have f1 := hid (K.txt_numL a va.out).2
  have g1 := hid (fits_big f1.out)
  go_enter Tryd.func5, Tryd.ntmps5
  go_wp2_with fail
  refine (power_ok a n w ha va.out hn HT.out).mono ?_
  intro e w1 h1
  obtain ⟨s1, c1, rfl, t1, hx1⟩ := told2_of h1
  have T1 := hid t1
  clear t1
  have hy1 : Ext w w1 := hx1
  clear h1 hx1
  go_wp2_with fail
  refine (rest_arg a d w1 ha va.out (by omega)).mono ?_
  rintro e w2 ⟨rfl, hx2⟩
  have hy2 : Ext w w2 := hy1.step hx2
  clear hx2 hy1
  go_wp2_with fail
  refine (rvalid_at a w2 va ha).mono ?_
  rintro e wz ⟨rfl, rfl⟩
  go_wp2_with fail
  refine (parse_any a w2 va.out).mono ?_
  rintro e w3 ⟨v1, rfl, hv1, hx3⟩
  have HV0 := hid hv1
  obtain ⟨A, ka, ca, xs, na, rfl, -⟩ := hv1
  have hrow : Row (w3.alloc (.cells #[.bool na, .slice A ka ca] 31)) w3.heap.size 31 [.bool na, .slice A ka ca] := Row.new w3 _ _
  have HV1 := hid (HV0.out.ext ((Ext.rfl' w3).alloc' (.cells #[.bool na, .slice A ka ca] 31)))
  have hcur : Ext w (w3.alloc (.cells #[.bool na, .slice A ka ca] 31)) := (hy2.step hx3).alloc' _
  obtain ⟨W4, hW4⟩ : ∃ W4, w3.alloc (.cells #[.bool na, .slice A ka ca] 31) = W4 := ⟨_, rfl⟩
  rw [hW4] at hcur hrow HV1
  have HW4 := hid hW4
  have HROW := hid hrow
  clear hW4 hrow hx3 hy2 HV0
  go_upto_region 6 with fail
  rw [HW4.out]
  obtain ⟨b0, b1, -, -⟩ := row_facts HROW.out
  go_wp2_with fail
  refine (rpower_any _ _ n W4 HV1.out f1.out hn).mono ?_
  rintro e w6 ⟨hor, hx6⟩
  obtain ⟨v6, rfl, hv6⟩ : ∃ v, e = .returned (.tuple #[v, .bool true]) ∧ RefV w6 v (K.numL a ^ n) := by
    rcases hor with ⟨v, h1, h2, -⟩ | h
    · exact ⟨v, h1, h2⟩
    · exact absurd hf.out h.2
  have HV6 := hid hv6
  obtain ⟨A6, k6, c6, xs6, n6, rfl, -⟩ := hv6
  have hcur6 := hcur.step hx6
  clear hor hcur hx6 b0 b1
  have hrow : Row (w6.alloc (.cells #[.bool n6, .slice A6 k6 c6] 31)) w6.heap.size 31 [.bool n6, .slice A6 k6 c6] := Row.new w6 _ _
  have HV7 := hid (HV6.out.ext ((Ext.rfl' w6).alloc' (.cells #[.bool n6, .slice A6 k6 c6] 31)))
  have hcur7 : Ext w (w6.alloc (.cells #[.bool n6, .slice A6 k6 c6] 31)) := hcur6.alloc' _
  obtain ⟨W7, hW7⟩ : ∃ W7, w6.alloc (.cells #[.bool n6, .slice A6 k6 c6] 31) = W7 := ⟨_, rfl⟩
  rw [hW7] at hcur7 hrow HV7
  have HW7 := hid hW7
  have HROW7 := hid hrow
  clear hW7 hrow hcur6 HV6
  go_upto_region 15 with fail
  rw [HW7.out]
  obtain ⟨b0, b1, -, -⟩ := row_facts HROW7.out
  go_wp2_with fail
  refine (lawtold_any s1 c1 _ _ W7 HV7.out (fits_big hf.out) T1).mono ?_
  rintro e w8 ⟨rfl, hx8⟩
  have hcur8 := hcur7.step hx8
  clear hx8 hcur7 b0 b1
  go_wp2_with fail
  refine (awake_any w8 (HT.out.ext hcur8)).mono ?_
  rintro e w9 ⟨rfl, hx9⟩
  have hfin : Hid (Ext w w9) := hid (hcur8.step hx9)
  go_wp2
  go_ret
  exact ⟨rfl, hfin.out⟩
set_option maxRecDepth 100000 in
set_option maxHeartbeats 1600000 in
theorem dlow_nofit_NumPowers (a : List UInt8) (n : Nat) (d : Int) (w : World) (ha : a.length ≤ 140737488351232) (ht : Tab w) (va : Hid (K.validL a = true)) (hd : d < 1) (hn : n ≤ 10000) (hf : Hid (¬ K.fits (K.numL a ^ n))) :
    Calls Tryd.prog 5 #[.string (Str a), .int .i64 (n : Int), .int .i64 d] w (TruePost w) := by
  have HT := hid ht
  have f1 := hid (K.txt_numL a va.out).2
  have g1 := hid (fits_big f1.out)
  go_enter Tryd.func5, Tryd.ntmps5
  go_wp2_with fail
  refine (power_ok a n w ha va.out hn HT.out).mono ?_
  intro e w1 h1
  obtain ⟨s1, c1, rfl, t1, hx1⟩ := told2_of h1
  obtain ⟨rfl, rfl⟩ := t1.2 hf.out
  clear t1
  have hy1 : Ext w w1 := hx1
  clear h1 hx1
  go_wp2_with fail
  refine (rest_arg a d w1 ha va.out (by omega)).mono ?_
  rintro e w2 ⟨rfl, hx2⟩
  have hy2 : Ext w w2 := hy1.step hx2
  clear hx2 hy1
  go_wp2_with fail
  refine (rvalid_at a w2 va ha).mono ?_
  rintro e wz ⟨rfl, rfl⟩
  go_wp2_with fail
  refine (parse_any a w2 va.out).mono ?_
  rintro e w3 ⟨v1, rfl, hv1, hx3⟩
  have HV0 := hid hv1
  obtain ⟨A, ka, ca, xs, na, rfl, -⟩ := hv1
  have hrow : Row (w3.alloc (.cells #[.bool na, .slice A ka ca] 31)) w3.heap.size 31 [.bool na, .slice A ka ca] := Row.new w3 _ _
  have HV1 := hid (HV0.out.ext ((Ext.rfl' w3).alloc' (.cells #[.bool na, .slice A ka ca] 31)))
  have hcur : Ext w (w3.alloc (.cells #[.bool na, .slice A ka ca] 31)) := (hy2.step hx3).alloc' _
  obtain ⟨W4, hW4⟩ : ∃ W4, w3.alloc (.cells #[.bool na, .slice A ka ca] 31) = W4 := ⟨_, rfl⟩
  rw [hW4] at hcur hrow HV1
  have HW4 := hid hW4
  have HROW := hid hrow
  clear hW4 hrow hx3 hy2 HV0
  go_upto_region 6 with fail
  rw [HW4.out]
  obtain ⟨b0, b1, -, -⟩ := row_facts HROW.out
  go_wp2_with fail
  refine (rpower_any _ _ n W4 HV1.out f1.out hn).mono ?_
  rintro e w6 ⟨hor, hx6⟩
  obtain rfl : e = .returned (.tuple #[.agg #[.bool false, .slice none 0 0], .bool false]) := by
    rcases hor with ⟨v, -, -, h⟩ | h
    · exact absurd h hf.out
    · exact h.1
  have hcur6 := hcur.step hx6
  clear hor hcur hx6 b0 b1
  go_upto_region 15 with fail
  have hcur7 : Ext w (w6.alloc (.cells #[.bool false, .slice none 0 0] 31)) := hcur6.alloc' _
  go_wp2_with fail
  refine (awake_any _ (HT.out.ext hcur7)).mono ?_
  rintro e w8 ⟨rfl, hx8⟩
  have hfin : Hid (Ext w w8) := hid (hcur7.step hx8)
  go_wp2
  go_ret
  exact ⟨rfl, hfin.out⟩
set_option maxRecDepth 100000 in
set_option maxHeartbeats 1600000 in
theorem dlow_nlow_NumPowers (a : List UInt8) (n : Int) (d : Int) (w : World) (ha : a.length ≤ 140737488351232) (ht : Tab w) (va : Hid (K.validL a = true)) (hd : d < 1) (hn : n < 0) :
    Calls Tryd.prog 5 #[.string (Str a), .int .i64 n, .int .i64 d] w (TruePost w) := by
  have HT := hid ht
  have f1 := hid (K.txt_numL a va.out).2
  have g1 := hid (fits_big f1.out)
  go_enter Tryd.func5, Tryd.ntmps5
  go_wp2_with fail
  refine (power_arg a n w ha va.out (by omega)).mono ?_
  rintro e w1 ⟨rfl, hx1⟩
  have hy1 : Ext w w1 := hx1
  clear hx1
  go_wp2_with fail
  refine (rest_arg a d w1 ha va.out (by omega)).mono ?_
  rintro e w2 ⟨rfl, hx2⟩
  have hy2 : Ext w w2 := hy1.step hx2
  clear hx2 hy1
  go_wp2_with fail
  refine (rvalid_at a w2 va ha).mono ?_
  rintro e wz ⟨rfl, rfl⟩
  go_wp2_with fail
  refine (parse_any a w2 va.out).mono ?_
  rintro e w3 ⟨v1, rfl, hv1, hx3⟩
  have HV0 := hid hv1
  obtain ⟨A, ka, ca, xs, na, rfl, -⟩ := hv1
  have hrow : Row (w3.alloc (.cells #[.bool na, .slice A ka ca] 31)) w3.heap.size 31 [.bool na, .slice A ka ca] := Row.new w3 _ _
  have HV1 := hid (HV0.out.ext ((Ext.rfl' w3).alloc' (.cells #[.bool na, .slice A ka ca] 31)))
  have hcur : Ext w (w3.alloc (.cells #[.bool na, .slice A ka ca] 31)) := (hy2.step hx3).alloc' _
  obtain ⟨W4, hW4⟩ : ∃ W4, w3.alloc (.cells #[.bool na, .slice A ka ca] 31) = W4 := ⟨_, rfl⟩
  rw [hW4] at hcur hrow HV1
  have HW4 := hid hW4
  have HROW := hid hrow
  clear hW4 hrow hx3 hy2 HV0
  go_upto_region 6 with fail
  rw [HW4.out]
  go_wp2_with fail
  refine (awake_any W4 (HT.out.ext hcur)).mono ?_
  rintro e w8 ⟨rfl, hx8⟩
  have hfin : Hid (Ext w w8) := hid (hcur.step hx8)
  go_wp2
  go_ret
  exact ⟨rfl, hfin.out⟩
set_option maxRecDepth 100000 in
set_option maxHeartbeats 1600000 in
theorem dlow_nhigh_NumPowers (a : List UInt8) (n : Int) (d : Int) (w : World) (ha : a.length ≤ 140737488351232) (ht : Tab w) (va : Hid (K.validL a = true)) (hd : d < 1) (hn : 10000 < n) :
    Calls Tryd.prog 5 #[.string (Str a), .int .i64 n, .int .i64 d] w (TruePost w) := by
  have HT := hid ht
  have f1 := hid (K.txt_numL a va.out).2
  have g1 := hid (fits_big f1.out)
  go_enter Tryd.func5, Tryd.ntmps5
  go_wp2_with fail
  refine (power_arg a n w ha va.out (by omega)).mono ?_
  rintro e w1 ⟨rfl, hx1⟩
  have hy1 : Ext w w1 := hx1
  clear hx1
  go_wp2_with fail
  refine (rest_arg a d w1 ha va.out (by omega)).mono ?_
  rintro e w2 ⟨rfl, hx2⟩
  have hy2 : Ext w w2 := hy1.step hx2
  clear hx2 hy1
  go_wp2_with fail
  refine (rvalid_at a w2 va ha).mono ?_
  rintro e wz ⟨rfl, rfl⟩
  go_wp2_with fail
  refine (parse_any a w2 va.out).mono ?_
  rintro e w3 ⟨v1, rfl, hv1, hx3⟩
  have HV0 := hid hv1
  obtain ⟨A, ka, ca, xs, na, rfl, -⟩ := hv1
  have hrow : Row (w3.alloc (.cells #[.bool na, .slice A ka ca] 31)) w3.heap.size 31 [.bool na, .slice A ka ca] := Row.new w3 _ _
  have HV1 := hid (HV0.out.ext ((Ext.rfl' w3).alloc' (.cells #[.bool na, .slice A ka ca] 31)))
  have hcur : Ext w (w3.alloc (.cells #[.bool na, .slice A ka ca] 31)) := (hy2.step hx3).alloc' _
  obtain ⟨W4, hW4⟩ : ∃ W4, w3.alloc (.cells #[.bool na, .slice A ka ca] 31) = W4 := ⟨_, rfl⟩
  rw [hW4] at hcur hrow HV1
  have HW4 := hid hW4
  have HROW := hid hrow
  clear hW4 hrow hx3 hy2 HV0
  go_upto_region 6 with fail
  rw [HW4.out]
  go_wp2_with fail
  refine (awake_any W4 (HT.out.ext hcur)).mono ?_
  rintro e w8 ⟨rfl, hx8⟩
  have hfin : Hid (Ext w w8) := hid (hcur.step hx8)
  go_wp2
  go_ret
  exact ⟨rfl, hfin.out⟩
set_option maxRecDepth 100000 in
set_option maxHeartbeats 1600000 in
theorem dhigh_fit_NumPowers (a : List UInt8) (n : Nat) (d : Int) (w : World) (ha : a.length ≤ 140737488351232) (ht : Tab w) (va : Hid (K.validL a = true)) (hd : 2147483647 < d) (hn : n ≤ 10000) (hf : Hid (K.fits (K.numL a ^ n))) :
    Calls Tryd.prog 5 #[.string (Str a), .int .i64 (n : Int), .int .i64 d] w (TruePost w) := by
  have HT := hid ht
  have f1 := hid (K.txt_numL a va.out).2
  have g1 := hid (fits_big f1.out)
  go_enter Tryd.func5, Tryd.ntmps5
  go_wp2_with fail
  refine (power_ok a n w ha va.out hn HT.out).mono ?_
  intro e w1 h1
  obtain ⟨s1, c1, rfl, t1, hx1⟩ := told2_of h1
  have T1 := hid t1
  clear t1
  have hy1 : Ext w w1 := hx1
  clear h1 hx1
  go_wp2_with fail
  refine (rest_arg a d w1 ha va.out (by omega)).mono ?_
  rintro e w2 ⟨rfl, hx2⟩
  have hy2 : Ext w w2 := hy1.step hx2
  clear hx2 hy1
  go_wp2_with fail
  refine (rvalid_at a w2 va ha).mono ?_
  rintro e wz ⟨rfl, rfl⟩
  go_wp2_with fail
  refine (parse_any a w2 va.out).mono ?_
  rintro e w3 ⟨v1, rfl, hv1, hx3⟩
  have HV0 := hid hv1
  obtain ⟨A, ka, ca, xs, na, rfl, -⟩ := hv1
  have hrow : Row (w3.alloc (.cells #[.bool na, .slice A ka ca] 31)) w3.heap.size 31 [.bool na, .slice A ka ca] := Row.new w3 _ _
  have HV1 := hid (HV0.out.ext ((Ext.rfl' w3).alloc' (.cells #[.bool na, .slice A ka ca] 31)))
  have hcur : Ext w (w3.alloc (.cells #[.bool na, .slice A ka ca] 31)) := (hy2.step hx3).alloc' _
  obtain ⟨W4, hW4⟩ : ∃ W4, w3.alloc (.cells #[.bool na, .slice A ka ca] 31) = W4 := ⟨_, rfl⟩
  rw [hW4] at hcur hrow HV1
  have HW4 := hid hW4
  have HROW := hid hrow
  clear hW4 hrow hx3 hy2 HV0
  go_upto_region 6 with fail
  rw [HW4.out]
  obtain ⟨b0, b1, -, -⟩ := row_facts HROW.out
  go_wp2_with fail
  refine (rpower_any _ _ n W4 HV1.out f1.out hn).mono ?_
  rintro e w6 ⟨hor, hx6⟩
  obtain ⟨v6, rfl, hv6⟩ : ∃ v, e = .returned (.tuple #[v, .bool true]) ∧ RefV w6 v (K.numL a ^ n) := by
    rcases hor with ⟨v, h1, h2, -⟩ | h
    · exact ⟨v, h1, h2⟩
    · exact absurd hf.out h.2
  have HV6 := hid hv6
  obtain ⟨A6, k6, c6, xs6, n6, rfl, -⟩ := hv6
  have hcur6 := hcur.step hx6
  clear hor hcur hx6 b0 b1
  have hrow : Row (w6.alloc (.cells #[.bool n6, .slice A6 k6 c6] 31)) w6.heap.size 31 [.bool n6, .slice A6 k6 c6] := Row.new w6 _ _
  have HV7 := hid (HV6.out.ext ((Ext.rfl' w6).alloc' (.cells #[.bool n6, .slice A6 k6 c6] 31)))
  have hcur7 : Ext w (w6.alloc (.cells #[.bool n6, .slice A6 k6 c6] 31)) := hcur6.alloc' _
  obtain ⟨W7, hW7⟩ : ∃ W7, w6.alloc (.cells #[.bool n6, .slice A6 k6 c6] 31) = W7 := ⟨_, rfl⟩
  rw [hW7] at hcur7 hrow HV7
  have HW7 := hid hW7
  have HROW7 := hid hrow
  clear hW7 hrow hcur6 HV6
  go_upto_region 15 with fail
  rw [HW7.out]
  obtain ⟨b0, b1, -, -⟩ := row_facts HROW7.out
  go_wp2_with fail
  refine (lawtold_any s1 c1 _ _ W7 HV7.out (fits_big hf.out) T1).mono ?_
  rintro e w8 ⟨rfl, hx8⟩
  have hcur8 := hcur7.step hx8
  clear hx8 hcur7 b0 b1
  go_wp2_with fail
  refine (awake_any w8 (HT.out.ext hcur8)).mono ?_
  rintro e w9 ⟨rfl, hx9⟩
  have hfin : Hid (Ext w w9) := hid (hcur8.step hx9)
  go_wp2
  go_ret
  exact ⟨rfl, hfin.out⟩
set_option maxRecDepth 100000 in
set_option maxHeartbeats 1600000 in
theorem dhigh_nofit_NumPowers (a : List UInt8) (n : Nat) (d : Int) (w : World) (ha : a.length ≤ 140737488351232) (ht : Tab w) (va : Hid (K.validL a = true)) (hd : 2147483647 < d) (hn : n ≤ 10000) (hf : Hid (¬ K.fits (K.numL a ^ n))) :
    Calls Tryd.prog 5 #[.string (Str a), .int .i64 (n : Int), .int .i64 d] w (TruePost w) := by
  have HT := hid ht
  have f1 := hid (K.txt_numL a va.out).2
  have g1 := hid (fits_big f1.out)
  go_enter Tryd.func5, Tryd.ntmps5
  go_wp2_with fail
  refine (power_ok a n w ha va.out hn HT.out).mono ?_
  intro e w1 h1
  obtain ⟨s1, c1, rfl, t1, hx1⟩ := told2_of h1
  obtain ⟨rfl, rfl⟩ := t1.2 hf.out
  clear t1
  have hy1 : Ext w w1 := hx1
  clear h1 hx1
  go_wp2_with fail
  refine (rest_arg a d w1 ha va.out (by omega)).mono ?_
  rintro e w2 ⟨rfl, hx2⟩
  have hy2 : Ext w w2 := hy1.step hx2
  clear hx2 hy1
  go_wp2_with fail
  refine (rvalid_at a w2 va ha).mono ?_
  rintro e wz ⟨rfl, rfl⟩
  go_wp2_with fail
  refine (parse_any a w2 va.out).mono ?_
  rintro e w3 ⟨v1, rfl, hv1, hx3⟩
  have HV0 := hid hv1
  obtain ⟨A, ka, ca, xs, na, rfl, -⟩ := hv1
  have hrow : Row (w3.alloc (.cells #[.bool na, .slice A ka ca] 31)) w3.heap.size 31 [.bool na, .slice A ka ca] := Row.new w3 _ _
  have HV1 := hid (HV0.out.ext ((Ext.rfl' w3).alloc' (.cells #[.bool na, .slice A ka ca] 31)))
  have hcur : Ext w (w3.alloc (.cells #[.bool na, .slice A ka ca] 31)) := (hy2.step hx3).alloc' _
  obtain ⟨W4, hW4⟩ : ∃ W4, w3.alloc (.cells #[.bool na, .slice A ka ca] 31) = W4 := ⟨_, rfl⟩
  rw [hW4] at hcur hrow HV1
  have HW4 := hid hW4
  have HROW := hid hrow
  clear hW4 hrow hx3 hy2 HV0
  go_upto_region 6 with fail
  rw [HW4.out]
  obtain ⟨b0, b1, -, -⟩ := row_facts HROW.out
  go_wp2_with fail
  refine (rpower_any _ _ n W4 HV1.out f1.out hn).mono ?_
  rintro e w6 ⟨hor, hx6⟩
  obtain rfl : e = .returned (.tuple #[.agg #[.bool false, .slice none 0 0], .bool false]) := by
    rcases hor with ⟨v, -, -, h⟩ | h
    · exact absurd h hf.out
    · exact h.1
  have hcur6 := hcur.step hx6
  clear hor hcur hx6 b0 b1
  go_upto_region 15 with fail
  have hcur7 : Ext w (w6.alloc (.cells #[.bool false, .slice none 0 0] 31)) := hcur6.alloc' _
  go_wp2_with fail
  refine (awake_any _ (HT.out.ext hcur7)).mono ?_
  rintro e w8 ⟨rfl, hx8⟩
  have hfin : Hid (Ext w w8) := hid (hcur7.step hx8)
  go_wp2
  go_ret
  exact ⟨rfl, hfin.out⟩
set_option maxRecDepth 100000 in
set_option maxHeartbeats 1600000 in
theorem dhigh_nlow_NumPowers (a : List UInt8) (n : Int) (d : Int) (w : World) (ha : a.length ≤ 140737488351232) (ht : Tab w) (va : Hid (K.validL a = true)) (hd : 2147483647 < d) (hn : n < 0) :
    Calls Tryd.prog 5 #[.string (Str a), .int .i64 n, .int .i64 d] w (TruePost w) := by
  have HT := hid ht
  have f1 := hid (K.txt_numL a va.out).2
  have g1 := hid (fits_big f1.out)
  go_enter Tryd.func5, Tryd.ntmps5
  go_wp2_with fail
  refine (power_arg a n w ha va.out (by omega)).mono ?_
  rintro e w1 ⟨rfl, hx1⟩
  have hy1 : Ext w w1 := hx1
  clear hx1
  go_wp2_with fail
  refine (rest_arg a d w1 ha va.out (by omega)).mono ?_
  rintro e w2 ⟨rfl, hx2⟩
  have hy2 : Ext w w2 := hy1.step hx2
  clear hx2 hy1
  go_wp2_with fail
  refine (rvalid_at a w2 va ha).mono ?_
  rintro e wz ⟨rfl, rfl⟩
  go_wp2_with fail
  refine (parse_any a w2 va.out).mono ?_
  rintro e w3 ⟨v1, rfl, hv1, hx3⟩
  have HV0 := hid hv1
  obtain ⟨A, ka, ca, xs, na, rfl, -⟩ := hv1
  have hrow : Row (w3.alloc (.cells #[.bool na, .slice A ka ca] 31)) w3.heap.size 31 [.bool na, .slice A ka ca] := Row.new w3 _ _
  have HV1 := hid (HV0.out.ext ((Ext.rfl' w3).alloc' (.cells #[.bool na, .slice A ka ca] 31)))
  have hcur : Ext w (w3.alloc (.cells #[.bool na, .slice A ka ca] 31)) := (hy2.step hx3).alloc' _
  obtain ⟨W4, hW4⟩ : ∃ W4, w3.alloc (.cells #[.bool na, .slice A ka ca] 31) = W4 := ⟨_, rfl⟩
  rw [hW4] at hcur hrow HV1
  have HW4 := hid hW4
  have HROW := hid hrow
  clear hW4 hrow hx3 hy2 HV0
  go_upto_region 6 with fail
  rw [HW4.out]
  go_wp2_with fail
  refine (awake_any W4 (HT.out.ext hcur)).mono ?_
  rintro e w8 ⟨rfl, hx8⟩
  have hfin : Hid (Ext w w8) := hid (hcur.step hx8)
  go_wp2
  go_ret
  exact ⟨rfl, hfin.out⟩
set_option maxRecDepth 100000 in
set_option maxHeartbeats 1600000 in
theorem dhigh_nhigh_NumPowers (a : List UInt8) (n : Int) (d : Int) (w : World) (ha : a.length ≤ 140737488351232) (ht : Tab w) (va : Hid (K.validL a = true)) (hd : 2147483647 < d) (hn : 10000 < n) :
    Calls Tryd.prog 5 #[.string (Str a), .int .i64 n, .int .i64 d] w (TruePost w) := by
  have HT := hid ht
  have f1 := hid (K.txt_numL a va.out).2
  have g1 := hid (fits_big f1.out)
  go_enter Tryd.func5, Tryd.ntmps5
  go_wp2_with fail
  refine (power_arg a n w ha va.out (by omega)).mono ?_
  rintro e w1 ⟨rfl, hx1⟩
  have hy1 : Ext w w1 := hx1
  clear hx1
  go_wp2_with fail
  refine (rest_arg a d w1 ha va.out (by omega)).mono ?_
  rintro e w2 ⟨rfl, hx2⟩
  have hy2 : Ext w w2 := hy1.step hx2
  clear hx2 hy1
  go_wp2_with fail
  refine (rvalid_at a w2 va ha).mono ?_
  rintro e wz ⟨rfl, rfl⟩
  go_wp2_with fail
  refine (parse_any a w2 va.out).mono ?_
  rintro e w3 ⟨v1, rfl, hv1, hx3⟩
  have HV0 := hid hv1
  obtain ⟨A, ka, ca, xs, na, rfl, -⟩ := hv1
  have hrow : Row (w3.alloc (.cells #[.bool na, .slice A ka ca] 31)) w3.heap.size 31 [.bool na, .slice A ka ca] := Row.new w3 _ _
  have HV1 := hid (HV0.out.ext ((Ext.rfl' w3).alloc' (.cells #[.bool na, .slice A ka ca] 31)))
  have hcur : Ext w (w3.alloc (.cells #[.bool na, .slice A ka ca] 31)) := (hy2.step hx3).alloc' _
  obtain ⟨W4, hW4⟩ : ∃ W4, w3.alloc (.cells #[.bool na, .slice A ka ca] 31) = W4 := ⟨_, rfl⟩
  rw [hW4] at hcur hrow HV1
  have HW4 := hid hW4
  have HROW := hid hrow
  clear hW4 hrow hx3 hy2 HV0
  go_upto_region 6 with fail
  rw [HW4.out]
  go_wp2_with fail
  refine (awake_any W4 (HT.out.ext hcur)).mono ?_
  rintro e w8 ⟨rfl, hx8⟩
  have hfin : Hid (Ext w w8) := hid (hcur.step hx8)
  go_wp2
  go_ret
  exact ⟨rfl, hfin.out⟩
theorem law_NumPowers (a : List UInt8) (n d : Int) (w : World) (ha : a.length ≤ 140737488351232) (ht : Tab w) :
    Calls Tryd.prog 5 #[.string (Str a), .int .i64 n, .int .i64 d] w (TruePost w) := by
  cases va : K.validL a with
  | false => exact form_NumPowers a n d w ha ht (hid va)
  | true =>
    rcases Int.lt_or_le d 1 with hd | hd
    · rcases Int.lt_or_le n 0 with hn | hn
      · exact dlow_nlow_NumPowers a n d w ha ht (hid va) hd hn
      · rcases Int.lt_or_le 10000 n with hn2 | hn2
        · exact dlow_nhigh_NumPowers a n d w ha ht (hid va) hd hn2
        · obtain ⟨k, rfl⟩ := Int.eq_ofNat_of_zero_le hn
          by_cases hf : K.fits (K.numL a ^ k)
          · exact dlow_fit_NumPowers a k d w ha ht (hid va) hd (by omega) (hid hf)
          · exact dlow_nofit_NumPowers a k d w ha ht (hid va) hd (by omega) (hid hf)
    · rcases Int.lt_or_le 2147483647 d with hd2 | hd2
      · rcases Int.lt_or_le n 0 with hn | hn
        · exact dhigh_nlow_NumPowers a n d w ha ht (hid va) hd2 hn
        · rcases Int.lt_or_le 10000 n with hn2 | hn2
          · exact dhigh_nhigh_NumPowers a n d w ha ht (hid va) hd2 hn2
          · obtain ⟨k, rfl⟩ := Int.eq_ofNat_of_zero_le hn
            by_cases hf : K.fits (K.numL a ^ k)
            · exact dhigh_fit_NumPowers a k d w ha ht (hid va) hd2 (by omega) (hid hf)
            · exact dhigh_nofit_NumPowers a k d w ha ht (hid va) hd2 (by omega) (hid hf)
      · obtain ⟨dd, rfl⟩ := Int.eq_ofNat_of_zero_le (show 0 ≤ d by omega)
        rcases Int.lt_or_le n 0 with hn | hn
        · exact dok_nlow_NumPowers a n dd w ha ht (hid va) (by omega) (by omega) hn
        · rcases Int.lt_or_le 10000 n with hn2 | hn2
          · exact dok_nhigh_NumPowers a n dd w ha ht (hid va) (by omega) (by omega) hn2
          · obtain ⟨k, rfl⟩ := Int.eq_ofNat_of_zero_le hn
            by_cases hf : K.fits (K.numL a ^ k)
            · exact dok_fit_NumPowers a k dd w ha ht (hid va) (by omega) (by omega) (by omega) (hid hf)
            · exact dok_nofit_NumPowers a k dd w ha ht (hid va) (by omega) (by omega) (by omega) (hid hf)
end Go.Proofs.YtoilkfohhhidpaaDoor
