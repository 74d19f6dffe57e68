/- Joined texts: the reference's Digits, Fits, Told; the law NumSums. -/
import Derived.Test.YtoilkfohhhidpaaDoorJCNumSums13
import Derived.Test.YtoilkfohhhidpaaDoorJCNumSums14
import Derived.Test.YtoilkfohhhidpaaDoorJCNumSums10
/- the reference's Digits, Fits, Told -/
namespace Go.Proofs.YtoilkfohhhidpaaDoor
open Go.RowKit
def cnt (p : Nat) : Nat := if p = 0 then 0 else (K.dgs p).length
theorem cnt_pos {p : Nat} (h : 0 < p) : cnt p = cnt (p / 10) + 1 := by
  unfold cnt
  rw [if_neg (by omega)]
  by_cases h1 : p < 10
  · rw [K.dgs_small h1, if_pos (by omega)]; rfl
  · rw [K.dgs_big h1, if_neg (by omega)]; simp
theorem cnt_le (p : Nat) (h : p < 1000000000) : cnt p ≤ 9 := by
  unfold cnt
  split
  · omega
  · exact (K.dgs_len p 9 (by omega)).2 h
theorem dgs_top {xs : List Nat} {top : Nat} {j : Nat} (hL : K.Lim xs) (hl : xs.length = j + 1) (ht : xs[j]? = some top) : 0 < top ∧ (K.dgs (K.lv xs)).length = 9 * j + cnt top := by
  have e := lv_take_at ht
  rw [List.take_of_length_le (by omega)] at e
  have h0 : 0 < top := by
    rcases Nat.eq_zero_or_pos top with h | h
    · exfalso
      apply hL.2
      rw [List.getLast?_eq_getElem?, hl, Nat.add_sub_cancel, ht, h]
    · exact h
  have h1 : K.lv (xs.take j) < 1000000000 ^ j := by
    have := K.lv_lt (xs.take j) (fun z hz => hL.1 z (List.mem_of_mem_take hz))
    rwa [List.length_take, Nat.min_eq_left (by omega)] at this
  have hc : cnt top = (K.dgs top).length := if_neg (by omega)
  refine ⟨h0, ?_⟩
  have hp : (1000000000 : Nat) ^ j = 10 ^ (9 * j) := by rw [Nat.pow_mul]
  rw [hp] at e h1
  have hct : 1 ≤ cnt top := by rw [cnt_pos h0]; omega
  have up : (K.dgs (K.lv xs)).length ≤ 9 * j + cnt top := by
    refine (K.dgs_len _ _ (by omega)).2 ?_
    have ht2 : top < 10 ^ cnt top := (K.dgs_len top _ hct).1 (by omega)
    rw [e, Nat.pow_add]
    have : 10 ^ (9 * j) * (top + 1) ≤ 10 ^ (9 * j) * 10 ^ cnt top := Nat.mul_le_mul_left _ ht2
    rw [Nat.mul_add] at this
    omega
  have lo : ¬ (K.dgs (K.lv xs)).length ≤ 9 * j + cnt top - 1 := by
    intro h
    by_cases hz : 1 ≤ 9 * j + cnt top - 1
    · have h2 := (K.dgs_len _ _ hz).1 h
      by_cases h3 : cnt top = 1
      · have h4 : 10 ^ (9 * j) * 1 ≤ 10 ^ (9 * j) * top := Nat.mul_le_mul_left _ h0
        rw [h3, show 9 * j + 1 - 1 = 9 * j by omega] at h2
        omega
      · have h4 : ¬ top < 10 ^ (cnt top - 1) := by
          intro h5
          have := (K.dgs_len top (cnt top - 1) (by omega)).2 h5
          omega
        have h5 : 10 ^ (9 * j) * 10 ^ (cnt top - 1) ≤ 10 ^ (9 * j) * top := Nat.mul_le_mul_left _ (by omega)
        rw [← Nat.pow_add, show 9 * j + (cnt top - 1) = 9 * j + cnt top - 1 by omega] at h5
        omega
    · have := len_pos' (K.dgs_ne (K.lv xs))
      omega
  omega
where
  len_pos' {a : List UInt8} (h : a ≠ []) : 0 < a.length := List.length_pos_iff.2 h
set_option maxRecDepth 100000 in
set_option maxHeartbeats 800000 in
theorem rdigits_any (v : Value) (n : Int) (w : World) (h : RefV w v n) (hb : n.natAbs ≤ BIG) :
    Calls Tryd.prog 92 #[v] w (fun e w' => e = .returned (.int .i64 ((K.dgs n.natAbs).length : Int)) ∧ Ext w w') := by
  obtain ⟨A, k, c, xs, b, rfl, hbn, hl, hkc, hr, hL, hv⟩ := h
  have hlen := len_of_big hL (by omega)
  have bk : k ≤ 1000 := by omega
  by_cases hk0 : k = 0
  · subst hk0
    have hx0 : xs = [] := List.eq_nil_of_length_eq_zero hl
    have HF : Hid ((K.dgs n.natAbs).length = 1) := hid (by rw [← hv, hx0]; show (K.dgs 0).length = 1; rw [K.dgs_zero]; rfl)
    clear hr hL hv hbn hx0 hl hlen
    go_enter Tryd.func92, Tryd.ntmps92
    go_wp2
    go_ret
    exact ⟨by rw [HF.out]; rfl, (Ext.rfl' w).alloc' _⟩
  · obtain ⟨j, rfl⟩ : ∃ j, k = j + 1 := ⟨k - 1, by omega⟩
    obtain ⟨bb, oo, top, eA, ex, hbb, hx⟩ := (hr.ext ((Ext.rfl' w).alloc' (.cells #[.bool b, .slice A (j + 1 : Nat) c] 31))).at_ (k := j) (by omega)
    subst eA
    have hd := dgs_top hL hl ex
    have ht := hL.1 _ (mem_at ex)
    rw [hv] at hd
    have HD := hid hd.2
    have htop := hd.1
    have hcl := cnt_le top ht
    clear hr hL hv hbn hl hd ex hk0 hlen
    go_enter Tryd.func92, Tryd.ntmps92
    go_wp2_with fail
    go_loop [3, 4] (fun d p => ∃ dd pp : Nat, d = .int .i64 (dd : Int) ∧ p = .int .i64 (pp : Int) ∧ pp ≤ top ∧ dd ≤ 9 * j + cnt top ∧ Hid (dd + cnt pp = 9 * j + cnt top)) (fun _ p => (intOf p).toNat)
    case atStart => exact ⟨9 * j, top, by simp, rfl, Nat.le_refl _, by omega, hid rfl⟩
    case round =>
      obtain ⟨dd, pp, rfl, rfl, hpp, hdd, hcnt⟩ := hrel
      have hd2 : dd ≤ 9009 := by omega
      by_cases h0 : 0 < pp
      · have hc := cnt_pos h0
        have HC : Hid (dd + 1 + cnt (pp / 10) = 9 * j + cnt top) := hid (by have := hcnt.out; omega)
        have hdd1 : dd + 1 ≤ 9 * j + cnt top := by have := hcnt.out; omega
        clear hc hcnt
        go_wp2
        go_round
        case rel => exact ⟨dd + 1, pp / 10, by simp, by simp, by omega, hdd1, HC⟩
        case measure => simp [intOf]; omega
      · obtain rfl : pp = 0 := by omega
        have HC : Hid (dd = 9 * j + cnt top) := hid (by have := hcnt.out; simpa [cnt] using this)
        clear hcnt
        go_wp2
        go_ret
        exact ⟨by rw [HD.out, ← HC.out]; rfl, (Ext.rfl' w).alloc' _⟩
theorem fits_digits (n : Int) : (K.fits n ↔ ((K.dgs n.natAbs).length : Int) ≤ 2000) := by rw [K.fits_len]; omega
set_option maxRecDepth 100000 in
theorem rfits_any (v : Value) (n : Int) (w : World) (h : RefV w v n) (hb : n.natAbs ≤ BIG) (b : Bool) (HB : Hid (b = true ↔ K.fits n)) :
    Calls Tryd.prog 68 #[v] w (fun e w' => e = .returned (.bool b) ∧ Ext w w') := by
  obtain ⟨A, k, c, xs, nb, rfl, -⟩ := id h
  have h1 := rdigits_any _ n (w.alloc (.cells #[.bool nb, .slice A k c] 31)) (h.ext ((Ext.rfl' w).alloc' _)) hb
  have hx : Ext w (w.alloc (.cells #[.bool nb, .slice A k c] 31)) := (Ext.rfl' w).alloc' _
  have HX := hid hx
  have hf := fits_digits n
  generalize (K.dgs n.natAbs).length = d at *
  have H1 := hid h1
  clear h h1 hx hb
  cases b with
  | true =>
    have hd : (d : Int) ≤ 2000 := hf.1 (HB.out.1 rfl)
    clear hf
    go_enter Tryd.func68, Tryd.ntmps68
    go_wp2_with fail
    refine H1.out.mono ?_
    rintro e w1 ⟨rfl, hx1⟩
    go_wp2
    go_ret
    exact ⟨rfl, HX.out.step hx1⟩
  | false =>
    have hd0 : ¬ (d : Int) ≤ 2000 := fun e => by have := HB.out.2 (hf.2 e); cases this
    have hd : decide ((d : Int) ≤ 2000) = false := decide_eq_false hd0
    clear hd0
    clear hf
    go_enter Tryd.func68, Tryd.ntmps68
    go_wp2_with fail
    refine H1.out.mono ?_
    rintro e w1 ⟨rfl, hx1⟩
    go_wp2
    go_ret
    exact ⟨rfl, HX.out.step hx1⟩
set_option maxRecDepth 100000 in
theorem rtold_any (v : Value) (n : Int) (w : World) (h : RefV w v n) (hb : n.natAbs ≤ BIG) :
    Calls Tryd.prog 52 #[v] w (ToldPost n w) := by
  obtain ⟨A, k, c, xs, nb, rfl, -⟩ := id h
  have hx : Ext w (w.alloc (.cells #[.bool nb, .slice A k c] 31)) := (Ext.rfl' w).alloc' _
  have H := hid (h.ext hx)
  have HX := hid hx
  have HR : Hid (∀ w', Ext (w.alloc (.cells #[.bool nb, .slice A k c] 31)) w' → w'.cell? ⟨w.heap.size, 0, none⟩ = some (.bool nb) ∧ w'.cell? ⟨w.heap.size, 1, none⟩ = some (.slice A k c)) := hid fun w' e => by
    have := two_facts e rfl
    exact ⟨this.1, this.2.1⟩
  have HB := hid hb
  clear h hx hb
  by_cases hf : K.fits n
  · have HFIN : Hid (∀ w', Ext w w' → ToldPost n w (.returned (.tuple #[.string (Str (K.txt n)), .int .i64 0])) w') := hid fun w' e => ⟨fun _ => rfl, fun h => absurd hf h, e⟩
    have HF := hid hf
    clear hf
    go_enter Tryd.func52, Tryd.ntmps52
    go_wp2_with fail
    refine (rfits_any _ n _ H.out HB.out true (hid ⟨fun _ => HF.out, fun _ => rfl⟩)).mono ?_
    rintro e w1 ⟨rfl, hx1⟩
    obtain ⟨c0, c1⟩ := HR.out _ hx1
    go_wp2_with fail
    refine (rtext_any _ n _ (H.out.ext hx1) HB.out).mono ?_
    rintro e w2 ⟨rfl, hx2⟩
    go_wp2
    go_ret2
    exact HFIN.out _ ((HX.out.step hx1).step hx2)
  · have HFIN : Hid (∀ w', Ext w w' → ToldPost n w (.returned (.tuple #[.string ⟨#[]⟩, .int .i64 3])) w') := hid fun w' e => ⟨fun h => absurd h hf, fun _ => rfl, e⟩
    have HF := hid hf
    clear hf
    go_enter Tryd.func52, Tryd.ntmps52
    go_wp2_with fail
    refine (rfits_any _ n _ H.out HB.out false (hid ⟨fun h => (by cases h), fun h => absurd h HF.out⟩)).mono ?_
    rintro e w1 ⟨rfl, hx1⟩
    go_wp2
    go_ret2
    exact HFIN.out _ (HX.out.step hx1)
end Go.Proofs.YtoilkfohhhidpaaDoor
/- the law NumSums -/
namespace Go.Proofs.YtoilkfohhhidpaaDoor
open Go.RowKit
def Told2 (n : Int) (s : ByteArray) (c : Int) : Prop := (K.fits n → s = Str (K.txt n) ∧ c = 0) ∧ (¬ K.fits n → s = ⟨#[]⟩ ∧ c = 3)
theorem told2_of {n : Int} {w : World} {e : Ending} {w' : World} (h : ToldPost n w e w') : ∃ (s : ByteArray) (c : Int), e = .returned (.tuple #[.string s, .int .i64 c]) ∧ Told2 n s c ∧ Ext w w' := by
  by_cases hf : K.fits n
  · exact ⟨_, _, h.1 hf, ⟨fun _ => ⟨rfl, rfl⟩, fun k => absurd hf k⟩, h.2.2⟩
  · exact ⟨_, _, h.2.1 hf, ⟨fun k => absurd k hf, fun _ => ⟨rfl, rfl⟩⟩, h.2.2⟩
set_option maxRecDepth 100000 in
set_option maxHeartbeats 800000 in
theorem lawtold_any (s : ByteArray) (c : Int) (v : Value) (n : Int) (w : World) (h : RefV w v n) (hb : n.natAbs ≤ BIG) (ht : Hid (Told2 n s c)) :
    Calls Tryd.prog 16 #[.string s, .int .i64 c, v] w (TruePost w) := by
  obtain ⟨A, k, cc, xs, nb, rfl, -⟩ := id h
  have hx : Ext w (w.alloc (.cells #[.bool nb, .slice A k cc] 31)) := (Ext.rfl' w).alloc' _
  have H := hid (h.ext hx)
  have HX := hid hx
  have HB := hid hb
  clear h hx hb
  by_cases hf : K.fits n
  · obtain ⟨rfl, rfl⟩ := ht.out.1 hf
    have HF := hid hf
    have hne : (Str (K.txt n)).toList.isEmpty = false := by rw [Str_toList]; simpa using K.txt_ne n
    clear hf ht
    go_enter Tryd.func16, Tryd.ntmps16
    go_wp2_with fail
    refine (rtold_any _ n _ H.out HB.out).mono ?_
    intro e w1 h1
    obtain ⟨rfl, hx1⟩ : e = .returned (.tuple #[.string (Str (K.txt n)), .int .i64 0]) ∧ Ext _ w1 := ⟨h1.1 HF.out, h1.2.2⟩
    clear h1
    go_wp2
    go_ret
    exact ⟨rfl, HX.out.step hx1⟩
  · obtain ⟨rfl, rfl⟩ := ht.out.2 hf
    have HF := hid hf
    clear hf ht
    go_enter Tryd.func16, Tryd.ntmps16
    go_wp2_with fail
    refine (rtold_any _ n _ H.out HB.out).mono ?_
    intro e w1 h1
    obtain ⟨rfl, hx1⟩ : e = .returned (.tuple #[.string ⟨#[]⟩, .int .i64 3]) ∧ Ext _ w1 := ⟨h1.2.1 HF.out, h1.2.2⟩
    clear h1
    go_wp2
    go_ret
    exact ⟨rfl, HX.out.step hx1⟩
theorem valid_at (l : List UInt8) {v : Bool} (w : World) (hv : Hid (K.validL l = v)) (hl : l.length ≤ 140737488351232) :
    Calls Tryd.prog 12 #[.string (Str l)] w (fun e w' => e = .returned (.bool v) ∧ Ext w w') := by
  rw [← hv.out]; exact valid_any l w hl
theorem top_succ (k : Nat) : TOP (k + 1) = TOP k * 1000000000 := TOP_add k 1
theorem add_big {a b : Int} (ha : K.fits a) (hb : K.fits b) : (a + b).natAbs ≤ BIG := by
  have h1 := fits_top ha
  have h2 := fits_top hb
  have h3 := top_succ 223
  exact le_big (a := 223 + 1) (by omega) (by omega)
theorem sub_big {a b : Int} (ha : K.fits a) (hb : K.fits b) : (a - b).natAbs ≤ BIG := by
  have h1 := fits_top ha
  have h2 := fits_top hb
  have h3 := top_succ 223
  exact le_big (a := 223 + 1) (by omega) (by omega)
theorem mul_big {a b : Int} (ha : K.fits a) (hb : K.fits b) : (a * b).natAbs ≤ BIG := by
  rw [Int.natAbs_mul]
  exact le_big (mul_top (fits_top ha) (fits_top hb)) (by omega)
set_option maxRecDepth 100000 in
set_option maxHeartbeats 3200000 in
theorem ok_NumSums (a b : List UInt8) (w : World) (ha : a.length ≤ 140737488351232) (hb : b.length ≤ 140737488351232) (ht : Tab w) (va : Hid (K.validL a = true)) (vb : Hid (K.validL b = true)) :
    Calls Tryd.prog 3 #[.string (Str a), .string (Str b)] w (TruePost w) := by
  have HT := hid ht
  have g1 := hid (fits_big (K.txt_numL a va.out).2)
  have g2 := hid (fits_big (K.txt_numL b vb.out).2)
  have f1 := hid (K.txt_numL a va.out).2
  have f2 := hid (K.txt_numL b vb.out).2
  go_enter Tryd.func3, Tryd.ntmps3
  go_wp2_with fail
  refine (add_ok a b w ha hb va.out vb.out HT.out).mono ?_
  intro e w1 h1
  obtain ⟨s1, c1, rfl, t1, hx1⟩ := told2_of h1
  have T1 := hid t1
  have hy1 : Ext w w1 := hx1
  clear h1 t1 hx1
  go_wp2_with fail
  refine (sub_ok a b w1 ha hb va.out vb.out (HT.out.ext hy1)).mono ?_
  intro e w2 h2
  obtain ⟨s2, c2, rfl, t2, hx2⟩ := told2_of h2
  have T2 := hid t2
  have hy2 : Ext w w2 := hy1.step hx2
  clear h2 t2 hx2 hy1
  go_wp2_with fail
  refine (mul_ok a b w2 ha hb va.out vb.out (HT.out.ext hy2)).mono ?_
  intro e w3 h3
  obtain ⟨s3, c3, rfl, t3, hx3⟩ := told2_of h3
  have T3 := hid t3
  have hy3 : Ext w w3 := hy2.step hx3
  clear h3 t3 hx3 hy2
  go_wp2_with fail
  refine (compare_ok a b w3 ha hb va.out vb.out).mono ?_
  rintro e w4 ⟨rfl, hx4⟩
  have hy4 : Ext w w4 := hy3.step hx4
  clear hx4 hy3
  go_wp2_with fail
  refine (valid_at a w4 va ha).mono ?_
  rintro e w5 ⟨rfl, hx5⟩
  have hy5 : Ext w w5 := hy4.step hx5
  clear hx5 hy4
  go_wp2_with fail
  refine (rvalid_at a w5 va ha).mono ?_
  rintro e wz ⟨rfl, rfl⟩
  go_wp2_with fail
  refine (valid_at b w5 vb hb).mono ?_
  rintro e w6 ⟨rfl, hx6⟩
  have hy6 : Ext w w6 := hy5.step hx6
  clear hx6 hy5
  go_wp2_with fail
  refine (rvalid_at b w6 vb hb).mono ?_
  rintro e wz ⟨rfl, rfl⟩
  go_wp2_with fail
  refine (rvalid_at a w6 va ha).mono ?_
  rintro e wz ⟨rfl, rfl⟩
  go_wp2_with fail
  refine (rvalid_at b w6 vb hb).mono ?_
  rintro e wz ⟨rfl, rfl⟩
  go_wp2_with fail
  refine (parse_any a w6 va.out).mono ?_
  rintro e w7 ⟨v1, rfl, hv1, hx7⟩
  have hy7 : Ext w w7 := hy6.step hx7
  clear hx7 hy6
  have HV1 := hid hv1
  obtain ⟨A, ka, ca, xs, na, rfl, -⟩ := hv1
  go_wp2_with fail
  refine (parse_any b w7 vb.out).mono ?_
  rintro e w8 ⟨v2, rfl, hv2, hx8⟩
  have hy8 : Ext w w8 := hy7.step hx8
  have HV1' := hid (HV1.out.ext hx8)
  clear hx8 hy7 HV1
  have HV2 := hid hv2
  obtain ⟨B, kb, cb, ys, nb, rfl, -⟩ := hv2
  go_wp2_with fail
  have hW9 : Ext w8 ((w8.alloc (.cells #[.bool na, .slice A ka ca] 31)).alloc (.cells #[.bool nb, .slice B kb cb] 31)) := ((Ext.rfl' w8).alloc' _).alloc' _
  have hk : ∀ w', Ext ((w8.alloc (.cells #[.bool na, .slice A ka ca] 31)).alloc (.cells #[.bool nb, .slice B kb cb] 31)) w' →
      w'.cell? ⟨w8.heap.size, 0, none⟩ = some (.bool na) ∧ w'.cell? ⟨w8.heap.size, 1, none⟩ = some (.slice A ka ca) ∧ w'.cell? ⟨w8.heap.size + 1, 0, none⟩ = some (.bool nb) ∧ w'.cell? ⟨w8.heap.size + 1, 1, none⟩ = some (.slice B kb cb) := fun w' e => boxes e
  obtain ⟨W9, hW9e⟩ : ∃ W9, ((w8.alloc (.cells #[.bool na, .slice A ka ca] 31)).alloc (.cells #[.bool nb, .slice B kb cb] 31)) = W9 := ⟨_, rfl⟩
  rw [hW9e] at hW9
  rw [hW9e] at hk
  rw [hW9e]
  have HK := hid hk
  have HR1 := hid (HV1'.out.ext hW9)
  have HR2 := hid (HV2.out.ext hW9)
  have HY9 := hid (hy8.step hW9)
  clear hW9e hW9 hk HV1' HV2 hy8
  refine (radd_any _ _ _ _ _ HR1.out HR2.out g1.out g2.out).mono ?_
  rintro e w10 ⟨v3, rfl, hv3, hx10⟩
  have HV3 := hid hv3
  obtain ⟨A3, k3, c3', xs3, n3, rfl, -⟩ := hv3
  obtain ⟨q0, q1, q2, q3⟩ := HK.out _ hx10
  go_wp2_with fail
  refine (lawtold_any s1 c1 _ _ _ HV3.out (add_big f1.out f2.out) T1).mono ?_
  rintro e w11 ⟨rfl, hx11⟩
  have hy11 : Ext W9 w11 := hx10.step hx11
  clear q0 q1 q2 q3 hx10 hx11 HV3
  obtain ⟨q0, q1, q2, q3⟩ := HK.out _ hy11
  go_wp2_with fail
  refine (rsub_any _ _ _ _ _ (HR1.out.ext hy11) (HR2.out.ext hy11) g1.out g2.out).mono ?_
  rintro e w12 ⟨v4, rfl, hv4, hx12⟩
  have HV4 := hid hv4
  obtain ⟨A4, k4, c4', xs4, n4, rfl, -⟩ := hv4
  have hy12 : Ext W9 w12 := hy11.step hx12
  clear q0 q1 q2 q3 hx12 hy11
  obtain ⟨q0, q1, q2, q3⟩ := HK.out _ hy12
  go_wp2_with fail
  refine (lawtold_any s2 c2 _ _ _ HV4.out (sub_big f1.out f2.out) T2).mono ?_
  rintro e w13 ⟨rfl, hx13⟩
  have hy13 : Ext W9 w13 := hy12.step hx13
  clear q0 q1 q2 q3 hx13 hy12 HV4
  obtain ⟨q0, q1, q2, q3⟩ := HK.out _ hy13
  go_wp2_with fail
  refine (rmul_any _ _ _ _ _ (HR1.out.ext hy13) (HR2.out.ext hy13) g1.out g2.out).mono ?_
  rintro e w14 ⟨v5, rfl, hv5, hx14⟩
  have HV5 := hid hv5
  obtain ⟨A5, k5, c5', xs5, n5, rfl, -⟩ := hv5
  have hy14 : Ext W9 w14 := hy13.step hx14
  clear q0 q1 q2 q3 hx14 hy13
  obtain ⟨q0, q1, q2, q3⟩ := HK.out _ hy14
  go_wp2_with fail
  refine (lawtold_any s3 c3 _ _ _ HV5.out (mul_big f1.out f2.out) T3).mono ?_
  rintro e w15 ⟨rfl, hx15⟩
  have hy15 : Ext W9 w15 := hy14.step hx15
  clear q0 q1 q2 q3 hx15 hy14 HV5
  obtain ⟨q0, q1, q2, q3⟩ := HK.out _ hy15
  go_wp2_with fail
  refine (rcmp_any _ _ _ _ _ (HR1.out.ext hy15) (HR2.out.ext hy15) g1.out g2.out).mono ?_
  rintro e w16 ⟨rfl, hx16⟩
  have hy16 : Ext W9 w16 := hy15.step hx16
  clear q0 q1 q2 q3 hx16 hy15
  go_wp2_with fail
  refine (awake_any w16 ((HT.out.ext HY9.out).ext hy16)).mono ?_
  rintro e w17 ⟨rfl, hx17⟩
  have hfin : Hid (Ext w w17) := hid ((HY9.out.step hy16).step hx17)
  go_wp2
  go_ret
  exact ⟨rfl, hfin.out⟩
set_option maxRecDepth 100000 in
set_option maxHeartbeats 3200000 in
theorem bad_NumSums (a b : List UInt8) (x y : Bool) (w : World) (ha : a.length ≤ 140737488351232) (hb : b.length ≤ 140737488351232) (ht : Tab w) (va : Hid (K.validL a = x)) (vb : Hid (K.validL b = y)) (hxy : x = false ∨ y = false) :
    Calls Tryd.prog 3 #[.string (Str a), .string (Str b)] w (TruePost w) := by
  have HT := hid ht
  have HV : Hid (K.validL a = false ∨ K.validL b = false) := hid (by rw [va.out, vb.out]; exact hxy)
  have HXY := hid hxy
  have hcc : (({ data := #[] } : ByteArray) ++ ({ data := #[] } : ByteArray) ++ ({ data := #[] } : ByteArray)).toList = [] := by
    rw [show ({ data := #[] } : ByteArray) ++ ({ data := #[] } : ByteArray) ++ ({ data := #[] } : ByteArray) = Str [] from rfl, Str_toList]
  have hq1 : (x == x) = true := by simp
  have hq2 : (y == y) = true := by simp
  clear hxy
  go_enter Tryd.func3, Tryd.ntmps3
  go_wp2_with fail
  refine (add_bad a b w ha hb HV.out).mono ?_
  rintro e w1 ⟨rfl, hx1⟩
  have hy1 : Ext w w1 := hx1
  clear hx1
  go_wp2_with fail
  refine (sub_bad a b w1 ha hb HV.out).mono ?_
  rintro e w2 ⟨rfl, hx2⟩
  have hy2 : Ext w w2 := hy1.step hx2
  clear hx2 hy1
  go_wp2_with fail
  refine (mul_bad a b w2 ha hb HV.out).mono ?_
  rintro e w3 ⟨rfl, hx3⟩
  have hy3 : Ext w w3 := hy2.step hx3
  clear hx3 hy2
  go_wp2_with fail
  refine (compare_bad a b w3 ha hb HV.out).mono ?_
  rintro e w4 ⟨rfl, hx4⟩
  have hy4 : Ext w w4 := hy3.step hx4
  clear hx4 hy3
  go_wp2_with fail
  refine (valid_at a w4 va ha).mono ?_
  rintro e w5 ⟨rfl, hx5⟩
  have hy5 : Ext w w5 := hy4.step hx5
  clear hx5 hy4
  go_wp2_with fail
  refine (rvalid_at a w5 va ha).mono ?_
  rintro e wz ⟨rfl, rfl⟩
  go_wp2_with fail
  refine (valid_at b w5 vb hb).mono ?_
  rintro e w6 ⟨rfl, hx6⟩
  have hy6 : Ext w w6 := hy5.step hx6
  clear hx6 hy5
  go_wp2_with fail
  refine (rvalid_at b w6 vb hb).mono ?_
  rintro e wz ⟨rfl, rfl⟩
  go_wp2_with fail
  refine (rvalid_at a w6 va ha).mono ?_
  rintro e wz ⟨rfl, rfl⟩
  cases x with
  | false =>
    go_wp2_with fail
    refine (awake_any w6 (HT.out.ext hy6)).mono ?_
    rintro e w7 ⟨rfl, hx7⟩
    have hfin : Hid (Ext w w7) := hid (hy6.step hx7)
    go_wp2
    go_ret
    exact ⟨rfl, hfin.out⟩
  | true =>
    obtain rfl : y = false := by have := HXY.out; simpa using this
    go_wp2_with fail
    refine (rvalid_at b w6 vb hb).mono ?_
    rintro e wz ⟨rfl, rfl⟩
    go_wp2_with fail
    refine (awake_any w6 (HT.out.ext hy6)).mono ?_
    rintro e w7 ⟨rfl, hx7⟩
    have hfin : Hid (Ext w w7) := hid (hy6.step hx7)
    go_wp2
    go_ret
    exact ⟨rfl, hfin.out⟩
theorem law_NumSums (a b : List UInt8) (w : World) (ha : a.length ≤ 140737488351232) (hb : b.length ≤ 140737488351232) (ht : Tab w) :
    Calls Tryd.prog 3 #[.string (Str a), .string (Str b)] w (TruePost w) := by
  by_cases h : K.validL a = true ∧ K.validL b = true
  · exact ok_NumSums a b w ha hb ht (hid h.1) (hid h.2)
  · refine bad_NumSums a b _ _ w ha hb ht (hid rfl) (hid rfl) ?_
    cases h1 : K.validL a <;> cases h2 : K.validL b <;> simp_all
end Go.Proofs.YtoilkfohhhidpaaDoor
