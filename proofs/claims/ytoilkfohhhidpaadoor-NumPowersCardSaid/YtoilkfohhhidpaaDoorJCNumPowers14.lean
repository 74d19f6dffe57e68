/- the reference's Power -/
import Derived.Test.YtoilkfohhhidpaaDoorJCNumPowers13
namespace Go.Proofs.YtoilkfohhhidpaaDoor
open Go.RowKit
def RPow (m : Int) (n : Nat) (w : World) (e : Ending) (w' : World) : Prop :=
  ((∃ v, e = .returned (.tuple #[v, .bool true]) ∧ RefV w' v (m ^ n) ∧ K.fits (m ^ n)) ∨ (e = .returned (.tuple #[.agg #[.bool false, .slice none 0 0], .bool false]) ∧ ¬ K.fits (m ^ n))) ∧ Ext w w'
theorem RPow.stored {w w3 : World} {m : Int} {n : Nat} {b : Bool} {A : Option Addr} {k c H : Nat} {t : TypeId} (r1 : Row w3 H t [.bool false, .slice none 0 0]) (hw : Ext w w3) (hH : w.heap.size ≤ H) (hv : RefV w3 (.agg #[.bool b, .slice A k c]) (m ^ n)) (hf : K.fits (m ^ n)) :
    RPow m n w (.returned (.tuple #[.agg #[.bool b, .slice A k c], .bool true])) ((w3.setCell ⟨H, 0, none⟩ (.bool b)).setCell ⟨H, 1, none⟩ (.slice A k c)) := by
  obtain ⟨A', k', c', xs, b', e, h1, h2, h3, h4, h5, h6⟩ := hv
  cases e
  exact ⟨.inl ⟨_, rfl, ⟨_, _, _, xs, _, rfl, h1, h2, h3, RefV.two h4 r1, h5, h6⟩, hf⟩, (hw.set' (by show _ ≤ H; omega) _).set' (by show _ ≤ H; omega) _⟩
theorem rsign_at0 {v : Value} {n s : Int} (w : World) (h : RefV w v n) (hs : Hid (sgn0 n = s)) :
    Calls Tryd.prog 24 #[v] w (fun e w' => e = .returned (.int .i64 s) ∧ Ext w w') := by
  rw [← hs.out]; exact rsign_any v n w h
/-- size of a number's parts against those of 1 -/
theorem size_one {A : Option Addr} {n ca : Nat} {xs : List Nat} {w : World} {m s : Int} (hr : Rd w A (I64s xs)) (hl : xs.length = n) (hL : K.Lim xs) (hv : K.lv xs = m.natAbs) (hn : n ≤ 1000) (hs : Hid (sgn m.natAbs 1 = s)) :
    Calls Tryd.prog 54 #[.slice A n ca, .slice (some ⟨w.heap.size, 0, none⟩) 1 1] (w.alloc (.cells #[.int .i64 1] 3)) (fun e w' => e = .returned (.int .i64 s) ∧ Ext w w') := by
  have h1 : K.Lim [1] := ⟨by simp, by simp⟩
  have h2 := cmp_val hL h1
  rw [hl, hv] at h2
  have h3 : K.lv [1] = 1 := rfl
  rw [h3, hs.out] at h2
  have hx : Ext w (w.alloc (.cells #[.int .i64 1] 3)) := (Ext.rfl' w).alloc' _
  refine (size_any A _ ca 1 n 1 xs [1] _ (hr.ext hx) (Row.new w 3 [.int .i64 1]).rd0 hl rfl (by omega) (by omega)).mono ?_
  rintro e w' ⟨rfl, hd⟩
  exact ⟨by rw [← h2]; rfl, hx.step hd.ext⟩
theorem fits_one : K.fits 1 := by
  have h := (K.txt_numL [49] (by decide +kernel)).2
  rwa [show K.numL [49] = 1 from by decide +kernel] at h
set_option maxRecDepth 100000 in
set_option maxHeartbeats 3200000 in
theorem rpower_zero (va : Value) (m : Int) (n : Nat) (s0 s1 : Int) (w : World) (ha : RefV w va m) (hf : K.fits m) (hn : n ≤ 10000) (HS0 : Hid (sgn0 m = s0)) (HS1 : Hid (sgn m.natAbs 1 = s1)) (hs : s0 = 0) (hp : 0 < n) (HEQ : Hid (m ^ n = m)) :
    Calls Tryd.prog 29 #[va, .int .i64 (n : Int)] w (RPow m n w) := by
  have HA0 := hid ha
  have la := fits_big hf
  have HF := hid hf
  obtain ⟨A, k, ca, xs, na, rfl, HNA, hla, hca, hra, hLa, hva⟩ := ha
  have l1 := len_of_big hLa (by omega)
  have hk1 : k ≤ 1000 := by omega
  have HA := hid hra
  have LA := hid hla
  have HX := hid hLa
  have VA := hid hva
  have hW2 : Ext w ((w.alloc (.cells #[.bool na, .slice A k ca] 31)).alloc (.cells #[.bool false, .slice none 0 0] 31)) := ((Ext.rfl' w).alloc' _).alloc' _
  have hk : ∀ w', Ext ((w.alloc (.cells #[.bool na, .slice A k ca] 31)).alloc (.cells #[.bool false, .slice none 0 0] 31)) w' →
      (w'.cell? ⟨w.heap.size, 0, none⟩ = some (.bool na) ∧ w'.cell? ⟨w.heap.size, 1, none⟩ = some (.slice A k ca)) ∧ Row w' (w.heap.size + 1) 31 [.bool false, .slice none 0 0] := by
    intro w' e
    have h1 := two_facts (W := w) (H := w.heap.size) (t := 31) (a := .bool na) (b := .slice A k ca) (Ext.step ((Ext.rfl' _).alloc' _) e) rfl
    have h2 := two_facts (W := (w.alloc (.cells #[.bool na, .slice A k ca] 31))) (H := w.heap.size + 1) (t := 31) (a := .bool false) (b := .slice none 0 0) e (by simp)
    exact ⟨⟨h1.1, h1.2.1⟩, h2.2.2.2.2.2⟩
  obtain ⟨W2, hW2e⟩ : ∃ W2, ((w.alloc (.cells #[.bool na, .slice A k ca] 31)).alloc (.cells #[.bool false, .slice none 0 0] 31)) = W2 := ⟨_, rfl⟩
  have hsz : W2.heap.size = w.heap.size + 1 + 1 := by rw [← hW2e]; simp
  rw [hW2e] at hW2
  rw [hW2e] at hk
  have HK := hid hk
  have HSZ := hid hsz
  have HW2 := hid hW2
  have HE := hid hW2e
  clear hra hla hLa hva hW2 hk hsz hW2e la hf
  go_enter Tryd.func29, Tryd.ntmps29
  go_wp2_with fail
  rw [HE.out]
  refine (of_one _).mono ?_
  rintro e w3 ⟨v1, rfl, hv1, hx3⟩
  have HV1 := hid hv1
  obtain ⟨A1, k1, c1, xs1, n1, rfl, -⟩ := hv1
  have hx4 : Ext W2 (w3.alloc (.cells #[.bool n1, .slice A1 k1 c1] 31)) := hx3.alloc' _
  have hx34 : Ext w3 (w3.alloc (.cells #[.bool n1, .slice A1 k1 c1] 31)) := (Ext.rfl' w3).alloc' _
  have hrow : Row (w3.alloc (.cells #[.bool n1, .slice A1 k1 c1] 31)) w3.heap.size 31 [.bool n1, .slice A1 k1 c1] := Row.new w3 _ _
  have hlt : w.heap.size + 1 < w3.heap.size := ((HK.out _ hx3).2).lt
  obtain ⟨W4, hW4⟩ : ∃ W4, w3.alloc (.cells #[.bool n1, .slice A1 k1 c1] 31) = W4 := ⟨_, rfl⟩
  rw [hW4] at hx4 hx34
  rw [hW4] at hrow
  have HW4 := hid hW4
  have HX4 := hid hx4
  have HROW := hid hrow
  have HV14 := hid (HV1.out.ext hx34)
  have HX34 := hid hx34
  have HX3 := hid hx3
  clear hx4 hx34 hrow hW4 hx3 HV1
  go_upto_region 2 with fail
  rw [HW4.out]
  obtain ⟨⟨j0, j1⟩, -⟩ := HK.out _ HX4.out
  obtain ⟨b0, b1, -, -⟩ := row_facts HROW.out
  go_wp2_with fail
  refine (rsign_at0 W4 (HA0.out.ext (HW2.out.step HX4.out)) HS0).mono ?_
  rintro e w5 ⟨rfl, hx5⟩
  have hcur : Ext W4 w5 := hx5
  have hrr := (HK.out _ (HX4.out.step hcur)).2
  clear j0 j1 b0 b1 hx5
  obtain ⟨⟨j0, j1⟩, -⟩ := HK.out _ (HX4.out.step hcur)
  obtain ⟨b0, b1, -, -⟩ := row_facts (HROW.out.ext hcur)
  obtain ⟨g0, g1, g2, g3⟩ := row_facts hrr
  have hfin := RPow.stored (m := m) (n := n) hrr (HW2.out.step (HX4.out.step hcur)) (by omega) (by rw [HEQ.out]; exact HA0.out.ext (HW2.out.step (HX4.out.step hcur))) (by rw [HEQ.out]; exact HF.out)
  have HFIN := hid hfin
  clear hfin hrr
  go_wp2
  refine bodyPost_ret (v := .tuple #[.agg #[.bool na, .slice A k ca], .bool true]) (by simp [results, Tryd.results29, go_sem, g0, g1]) rfl HFIN.out
set_option maxRecDepth 100000 in
set_option maxHeartbeats 3200000 in
theorem rpower_odd (va : Value) (m : Int) (n : Nat) (s0 s1 : Int) (w : World) (ha : RefV w va m) (hf : K.fits m) (hn : n ≤ 10000) (HS0 : Hid (sgn0 m = s0)) (HS1 : Hid (sgn m.natAbs 1 = s1)) (hs : (s0 == 0) = false) (hs1 : s1 = 0) (ho : ((n : Int) % 2 == 1) = true) (HEQ : Hid (m ^ n = m)) :
    Calls Tryd.prog 29 #[va, .int .i64 (n : Int)] w (RPow m n w) := by
  have HA0 := hid ha
  have la := fits_big hf
  have HF := hid hf
  obtain ⟨A, k, ca, xs, na, rfl, HNA, hla, hca, hra, hLa, hva⟩ := ha
  have l1 := len_of_big hLa (by omega)
  have hk1 : k ≤ 1000 := by omega
  have HA := hid hra
  have LA := hid hla
  have HX := hid hLa
  have VA := hid hva
  have hW2 : Ext w ((w.alloc (.cells #[.bool na, .slice A k ca] 31)).alloc (.cells #[.bool false, .slice none 0 0] 31)) := ((Ext.rfl' w).alloc' _).alloc' _
  have hk : ∀ w', Ext ((w.alloc (.cells #[.bool na, .slice A k ca] 31)).alloc (.cells #[.bool false, .slice none 0 0] 31)) w' →
      (w'.cell? ⟨w.heap.size, 0, none⟩ = some (.bool na) ∧ w'.cell? ⟨w.heap.size, 1, none⟩ = some (.slice A k ca)) ∧ Row w' (w.heap.size + 1) 31 [.bool false, .slice none 0 0] := by
    intro w' e
    have h1 := two_facts (W := w) (H := w.heap.size) (t := 31) (a := .bool na) (b := .slice A k ca) (Ext.step ((Ext.rfl' _).alloc' _) e) rfl
    have h2 := two_facts (W := (w.alloc (.cells #[.bool na, .slice A k ca] 31))) (H := w.heap.size + 1) (t := 31) (a := .bool false) (b := .slice none 0 0) e (by simp)
    exact ⟨⟨h1.1, h1.2.1⟩, h2.2.2.2.2.2⟩
  obtain ⟨W2, hW2e⟩ : ∃ W2, ((w.alloc (.cells #[.bool na, .slice A k ca] 31)).alloc (.cells #[.bool false, .slice none 0 0] 31)) = W2 := ⟨_, rfl⟩
  have hsz : W2.heap.size = w.heap.size + 1 + 1 := by rw [← hW2e]; simp
  rw [hW2e] at hW2
  rw [hW2e] at hk
  have HK := hid hk
  have HSZ := hid hsz
  have HW2 := hid hW2
  have HE := hid hW2e
  clear hra hla hLa hva hW2 hk hsz hW2e la hf
  go_enter Tryd.func29, Tryd.ntmps29
  go_wp2_with fail
  rw [HE.out]
  refine (of_one _).mono ?_
  rintro e w3 ⟨v1, rfl, hv1, hx3⟩
  have HV1 := hid hv1
  obtain ⟨A1, k1, c1, xs1, n1, rfl, -⟩ := hv1
  have hx4 : Ext W2 (w3.alloc (.cells #[.bool n1, .slice A1 k1 c1] 31)) := hx3.alloc' _
  have hx34 : Ext w3 (w3.alloc (.cells #[.bool n1, .slice A1 k1 c1] 31)) := (Ext.rfl' w3).alloc' _
  have hrow : Row (w3.alloc (.cells #[.bool n1, .slice A1 k1 c1] 31)) w3.heap.size 31 [.bool n1, .slice A1 k1 c1] := Row.new w3 _ _
  have hlt : w.heap.size + 1 < w3.heap.size := ((HK.out _ hx3).2).lt
  obtain ⟨W4, hW4⟩ : ∃ W4, w3.alloc (.cells #[.bool n1, .slice A1 k1 c1] 31) = W4 := ⟨_, rfl⟩
  rw [hW4] at hx4 hx34
  rw [hW4] at hrow
  have HW4 := hid hW4
  have HX4 := hid hx4
  have HROW := hid hrow
  have HV14 := hid (HV1.out.ext hx34)
  have HX34 := hid hx34
  have HX3 := hid hx3
  clear hx4 hx34 hrow hW4 hx3 HV1
  go_upto_region 2 with fail
  rw [HW4.out]
  obtain ⟨⟨j0, j1⟩, -⟩ := HK.out _ HX4.out
  obtain ⟨b0, b1, -, -⟩ := row_facts HROW.out
  go_wp2_with fail
  refine (rsign_at0 W4 (HA0.out.ext (HW2.out.step HX4.out)) HS0).mono ?_
  rintro e w5 ⟨rfl, hx5⟩
  have hcur : Ext W4 w5 := hx5
  have hrr := (HK.out _ (HX4.out.step hcur)).2
  clear j0 j1 b0 b1 hx5
  obtain ⟨⟨j0, j1⟩, -⟩ := HK.out _ (HX4.out.step hcur)
  obtain ⟨b0, b1, -, -⟩ := row_facts (HROW.out.ext hcur)
  obtain ⟨g0, g1, g2, g3⟩ := row_facts hrr
  go_wp2_with fail
  refine (size_one (((HA.out.ext HW2.out).ext HX4.out).ext hcur) LA.out HX.out VA.out hk1 HS1).mono ?_
  rintro e w6 ⟨rfl, hx6⟩
  have hcur' : Ext W4 w6 := hcur.step hx6
  clear hcur hx6 j0 j1 b0 b1 g0 g1 g2 g3 hrr
  have hcur := hcur'
  clear hcur'
  have hrr := (HK.out _ (HX4.out.step hcur)).2
  obtain ⟨⟨j0, j1⟩, -⟩ := HK.out _ (HX4.out.step hcur)
  obtain ⟨b0, b1, -, -⟩ := row_facts (HROW.out.ext hcur)
  obtain ⟨g0, g1, g2, g3⟩ := row_facts hrr
  have hfin := RPow.stored (m := m) (n := n) hrr (HW2.out.step (HX4.out.step hcur)) (by omega) (by rw [HEQ.out]; exact HA0.out.ext (HW2.out.step (HX4.out.step hcur))) (by rw [HEQ.out]; exact HF.out)
  have HFIN := hid hfin
  clear hfin hrr
  go_wp2
  refine bodyPost_ret (v := .tuple #[.agg #[.bool na, .slice A k ca], .bool true]) (by simp [results, Tryd.results29, go_sem, g0, g1]) rfl HFIN.out
set_option maxRecDepth 100000 in
set_option maxHeartbeats 3200000 in
theorem rpower_even (va : Value) (m : Int) (n : Nat) (s0 s1 : Int) (w : World) (ha : RefV w va m) (hf : K.fits m) (hn : n ≤ 10000) (HS0 : Hid (sgn0 m = s0)) (HS1 : Hid (sgn m.natAbs 1 = s1)) (hs : (s0 == 0) = false) (hs1 : s1 = 0) (ho : ((n : Int) % 2 == 1) = false) (HEQ : Hid (m ^ n = 1)) :
    Calls Tryd.prog 29 #[va, .int .i64 (n : Int)] w (RPow m n w) := by
  have HA0 := hid ha
  have la := fits_big hf
  have HF := hid hf
  obtain ⟨A, k, ca, xs, na, rfl, HNA, hla, hca, hra, hLa, hva⟩ := ha
  have l1 := len_of_big hLa (by omega)
  have hk1 : k ≤ 1000 := by omega
  have HA := hid hra
  have LA := hid hla
  have HX := hid hLa
  have VA := hid hva
  have hW2 : Ext w ((w.alloc (.cells #[.bool na, .slice A k ca] 31)).alloc (.cells #[.bool false, .slice none 0 0] 31)) := ((Ext.rfl' w).alloc' _).alloc' _
  have hk : ∀ w', Ext ((w.alloc (.cells #[.bool na, .slice A k ca] 31)).alloc (.cells #[.bool false, .slice none 0 0] 31)) w' →
      (w'.cell? ⟨w.heap.size, 0, none⟩ = some (.bool na) ∧ w'.cell? ⟨w.heap.size, 1, none⟩ = some (.slice A k ca)) ∧ Row w' (w.heap.size + 1) 31 [.bool false, .slice none 0 0] := by
    intro w' e
    have h1 := two_facts (W := w) (H := w.heap.size) (t := 31) (a := .bool na) (b := .slice A k ca) (Ext.step ((Ext.rfl' _).alloc' _) e) rfl
    have h2 := two_facts (W := (w.alloc (.cells #[.bool na, .slice A k ca] 31))) (H := w.heap.size + 1) (t := 31) (a := .bool false) (b := .slice none 0 0) e (by simp)
    exact ⟨⟨h1.1, h1.2.1⟩, h2.2.2.2.2.2⟩
  obtain ⟨W2, hW2e⟩ : ∃ W2, ((w.alloc (.cells #[.bool na, .slice A k ca] 31)).alloc (.cells #[.bool false, .slice none 0 0] 31)) = W2 := ⟨_, rfl⟩
  have hsz : W2.heap.size = w.heap.size + 1 + 1 := by rw [← hW2e]; simp
  rw [hW2e] at hW2
  rw [hW2e] at hk
  have HK := hid hk
  have HSZ := hid hsz
  have HW2 := hid hW2
  have HE := hid hW2e
  clear hra hla hLa hva hW2 hk hsz hW2e la hf
  go_enter Tryd.func29, Tryd.ntmps29
  go_wp2_with fail
  rw [HE.out]
  refine (of_one _).mono ?_
  rintro e w3 ⟨v1, rfl, hv1, hx3⟩
  have HV1 := hid hv1
  obtain ⟨A1, k1, c1, xs1, n1, rfl, -⟩ := hv1
  have hx4 : Ext W2 (w3.alloc (.cells #[.bool n1, .slice A1 k1 c1] 31)) := hx3.alloc' _
  have hx34 : Ext w3 (w3.alloc (.cells #[.bool n1, .slice A1 k1 c1] 31)) := (Ext.rfl' w3).alloc' _
  have hrow : Row (w3.alloc (.cells #[.bool n1, .slice A1 k1 c1] 31)) w3.heap.size 31 [.bool n1, .slice A1 k1 c1] := Row.new w3 _ _
  have hlt : w.heap.size + 1 < w3.heap.size := ((HK.out _ hx3).2).lt
  obtain ⟨W4, hW4⟩ : ∃ W4, w3.alloc (.cells #[.bool n1, .slice A1 k1 c1] 31) = W4 := ⟨_, rfl⟩
  rw [hW4] at hx4 hx34
  rw [hW4] at hrow
  have HW4 := hid hW4
  have HX4 := hid hx4
  have HROW := hid hrow
  have HV14 := hid (HV1.out.ext hx34)
  have HX34 := hid hx34
  have HX3 := hid hx3
  clear hx4 hx34 hrow hW4 hx3 HV1
  go_upto_region 2 with fail
  rw [HW4.out]
  obtain ⟨⟨j0, j1⟩, -⟩ := HK.out _ HX4.out
  obtain ⟨b0, b1, -, -⟩ := row_facts HROW.out
  go_wp2_with fail
  refine (rsign_at0 W4 (HA0.out.ext (HW2.out.step HX4.out)) HS0).mono ?_
  rintro e w5 ⟨rfl, hx5⟩
  have hcur : Ext W4 w5 := hx5
  have hrr := (HK.out _ (HX4.out.step hcur)).2
  clear j0 j1 b0 b1 hx5
  obtain ⟨⟨j0, j1⟩, -⟩ := HK.out _ (HX4.out.step hcur)
  obtain ⟨b0, b1, -, -⟩ := row_facts (HROW.out.ext hcur)
  obtain ⟨g0, g1, g2, g3⟩ := row_facts hrr
  go_wp2_with fail
  refine (size_one (((HA.out.ext HW2.out).ext HX4.out).ext hcur) LA.out HX.out VA.out hk1 HS1).mono ?_
  rintro e w6 ⟨rfl, hx6⟩
  have hcur' : Ext W4 w6 := hcur.step hx6
  clear hcur hx6 j0 j1 b0 b1 g0 g1 g2 g3 hrr
  have hcur := hcur'
  clear hcur'
  have hrr := (HK.out _ (HX4.out.step hcur)).2
  obtain ⟨⟨j0, j1⟩, -⟩ := HK.out _ (HX4.out.step hcur)
  obtain ⟨b0, b1, -, -⟩ := row_facts (HROW.out.ext hcur)
  obtain ⟨g0, g1, g2, g3⟩ := row_facts hrr
  go_wp2_with fail
  refine (size_one (((HA.out.ext HW2.out).ext HX4.out).ext hcur) LA.out HX.out VA.out hk1 HS1).mono ?_
  rintro e w7 ⟨rfl, hx7⟩
  have hcur' : Ext W4 w7 := hcur.step hx7
  clear hcur hx7 j0 j1 b0 b1 g0 g1 g2 g3 hrr
  have hcur := hcur'
  clear hcur'
  have hrr := (HK.out _ (HX4.out.step hcur)).2
  obtain ⟨⟨j0, j1⟩, -⟩ := HK.out _ (HX4.out.step hcur)
  obtain ⟨b0, b1, -, -⟩ := row_facts (HROW.out.ext hcur)
  obtain ⟨g0, g1, g2, g3⟩ := row_facts hrr
  have hfin := RPow.stored (m := m) (n := n) hrr (HW2.out.step (HX4.out.step hcur)) (by omega) (by rw [HEQ.out]; exact HV14.out.ext hcur) (by rw [HEQ.out]; exact fits_one)
  have HFIN := hid hfin
  clear hfin hrr
  go_wp2
  refine bodyPost_ret (v := .tuple #[.agg #[.bool n1, .slice A1 k1 c1], .bool true]) (by simp [results, Tryd.results29, go_sem, g0, g1]) rfl HFIN.out
set_option maxRecDepth 100000 in
set_option maxHeartbeats 3200000 in
theorem rpower_naught0 (va : Value) (m : Int) (n : Nat) (s0 s1 : Int) (w : World) (ha : RefV w va m) (hf : K.fits m) (hn : n ≤ 10000) (HS0 : Hid (sgn0 m = s0)) (HS1 : Hid (sgn m.natAbs 1 = s1)) (hp : n = 0) (hs : s0 = 0) (hs1 : (s1 == 0) = false) (HEQ : Hid (m ^ n = 1)) :
    Calls Tryd.prog 29 #[va, .int .i64 (n : Int)] w (RPow m n w) := by
  have HA0 := hid ha
  have la := fits_big hf
  have HF := hid hf
  obtain ⟨A, k, ca, xs, na, rfl, HNA, hla, hca, hra, hLa, hva⟩ := ha
  have l1 := len_of_big hLa (by omega)
  have hk1 : k ≤ 1000 := by omega
  have HA := hid hra
  have LA := hid hla
  have HX := hid hLa
  have VA := hid hva
  have hW2 : Ext w ((w.alloc (.cells #[.bool na, .slice A k ca] 31)).alloc (.cells #[.bool false, .slice none 0 0] 31)) := ((Ext.rfl' w).alloc' _).alloc' _
  have hk : ∀ w', Ext ((w.alloc (.cells #[.bool na, .slice A k ca] 31)).alloc (.cells #[.bool false, .slice none 0 0] 31)) w' →
      (w'.cell? ⟨w.heap.size, 0, none⟩ = some (.bool na) ∧ w'.cell? ⟨w.heap.size, 1, none⟩ = some (.slice A k ca)) ∧ Row w' (w.heap.size + 1) 31 [.bool false, .slice none 0 0] := by
    intro w' e
    have h1 := two_facts (W := w) (H := w.heap.size) (t := 31) (a := .bool na) (b := .slice A k ca) (Ext.step ((Ext.rfl' _).alloc' _) e) rfl
    have h2 := two_facts (W := (w.alloc (.cells #[.bool na, .slice A k ca] 31))) (H := w.heap.size + 1) (t := 31) (a := .bool false) (b := .slice none 0 0) e (by simp)
    exact ⟨⟨h1.1, h1.2.1⟩, h2.2.2.2.2.2⟩
  obtain ⟨W2, hW2e⟩ : ∃ W2, ((w.alloc (.cells #[.bool na, .slice A k ca] 31)).alloc (.cells #[.bool false, .slice none 0 0] 31)) = W2 := ⟨_, rfl⟩
  have hsz : W2.heap.size = w.heap.size + 1 + 1 := by rw [← hW2e]; simp
  rw [hW2e] at hW2
  rw [hW2e] at hk
  have HK := hid hk
  have HSZ := hid hsz
  have HW2 := hid hW2
  have HE := hid hW2e
  clear hra hla hLa hva hW2 hk hsz hW2e la hf
  go_enter Tryd.func29, Tryd.ntmps29
  go_wp2_with fail
  rw [HE.out]
  refine (of_one _).mono ?_
  rintro e w3 ⟨v1, rfl, hv1, hx3⟩
  have HV1 := hid hv1
  obtain ⟨A1, k1, c1, xs1, n1, rfl, -⟩ := hv1
  have hx4 : Ext W2 (w3.alloc (.cells #[.bool n1, .slice A1 k1 c1] 31)) := hx3.alloc' _
  have hx34 : Ext w3 (w3.alloc (.cells #[.bool n1, .slice A1 k1 c1] 31)) := (Ext.rfl' w3).alloc' _
  have hrow : Row (w3.alloc (.cells #[.bool n1, .slice A1 k1 c1] 31)) w3.heap.size 31 [.bool n1, .slice A1 k1 c1] := Row.new w3 _ _
  have hlt : w.heap.size + 1 < w3.heap.size := ((HK.out _ hx3).2).lt
  obtain ⟨W4, hW4⟩ : ∃ W4, w3.alloc (.cells #[.bool n1, .slice A1 k1 c1] 31) = W4 := ⟨_, rfl⟩
  rw [hW4] at hx4 hx34
  rw [hW4] at hrow
  have HW4 := hid hW4
  have HX4 := hid hx4
  have HROW := hid hrow
  have HV14 := hid (HV1.out.ext hx34)
  have HX34 := hid hx34
  have HX3 := hid hx3
  clear hx4 hx34 hrow hW4 hx3 HV1
  go_upto_region 2 with fail
  rw [HW4.out]
  obtain ⟨⟨j0, j1⟩, -⟩ := HK.out _ HX4.out
  obtain ⟨b0, b1, -, -⟩ := row_facts HROW.out
  go_wp2_with fail
  refine (rsign_at0 W4 (HA0.out.ext (HW2.out.step HX4.out)) HS0).mono ?_
  rintro e w5 ⟨rfl, hx5⟩
  have hcur : Ext W4 w5 := hx5
  have hrr := (HK.out _ (HX4.out.step hcur)).2
  clear j0 j1 b0 b1 hx5
  obtain ⟨⟨j0, j1⟩, -⟩ := HK.out _ (HX4.out.step hcur)
  obtain ⟨b0, b1, -, -⟩ := row_facts (HROW.out.ext hcur)
  obtain ⟨g0, g1, g2, g3⟩ := row_facts hrr
  go_wp2_with fail
  refine (size_one (((HA.out.ext HW2.out).ext HX4.out).ext hcur) LA.out HX.out VA.out hk1 HS1).mono ?_
  rintro e w6 ⟨rfl, hx6⟩
  have hcur' : Ext W4 w6 := hcur.step hx6
  clear hcur hx6 j0 j1 b0 b1 g0 g1 g2 g3 hrr
  have hcur := hcur'
  clear hcur'
  have hrr := (HK.out _ (HX4.out.step hcur)).2
  obtain ⟨⟨j0, j1⟩, -⟩ := HK.out _ (HX4.out.step hcur)
  obtain ⟨b0, b1, -, -⟩ := row_facts (HROW.out.ext hcur)
  obtain ⟨g0, g1, g2, g3⟩ := row_facts hrr
  go_wp2_with fail
  refine (size_one (((HA.out.ext HW2.out).ext HX4.out).ext hcur) LA.out HX.out VA.out hk1 HS1).mono ?_
  rintro e w7 ⟨rfl, hx7⟩
  have hcur' : Ext W4 w7 := hcur.step hx7
  clear hcur hx7 j0 j1 b0 b1 g0 g1 g2 g3 hrr
  have hcur := hcur'
  clear hcur'
  have hrr := (HK.out _ (HX4.out.step hcur)).2
  obtain ⟨⟨j0, j1⟩, -⟩ := HK.out _ (HX4.out.step hcur)
  obtain ⟨b0, b1, -, -⟩ := row_facts (HROW.out.ext hcur)
  obtain ⟨g0, g1, g2, g3⟩ := row_facts hrr
  have hfin := RPow.stored (m := m) (n := n) hrr (HW2.out.step (HX4.out.step hcur)) (by omega) (by rw [HEQ.out]; exact HV14.out.ext hcur) (by rw [HEQ.out]; exact fits_one)
  have HFIN := hid hfin
  clear hfin hrr
  go_wp2
  refine bodyPost_ret (v := .tuple #[.agg #[.bool n1, .slice A1 k1 c1], .bool true]) (by simp [results, Tryd.results29, go_sem, g0, g1]) rfl HFIN.out
set_option maxRecDepth 100000 in
set_option maxHeartbeats 3200000 in
theorem rpower_naught1 (va : Value) (m : Int) (n : Nat) (s0 s1 : Int) (w : World) (ha : RefV w va m) (hf : K.fits m) (hn : n ≤ 10000) (HS0 : Hid (sgn0 m = s0)) (HS1 : Hid (sgn m.natAbs 1 = s1)) (hp : n = 0) (hs : (s0 == 0) = false) (hs1 : (s1 == 0) = false) (HEQ : Hid (m ^ n = 1)) :
    Calls Tryd.prog 29 #[va, .int .i64 (n : Int)] w (RPow m n w) := by
  have HA0 := hid ha
  have la := fits_big hf
  have HF := hid hf
  obtain ⟨A, k, ca, xs, na, rfl, HNA, hla, hca, hra, hLa, hva⟩ := ha
  have l1 := len_of_big hLa (by omega)
  have hk1 : k ≤ 1000 := by omega
  have HA := hid hra
  have LA := hid hla
  have HX := hid hLa
  have VA := hid hva
  have hW2 : Ext w ((w.alloc (.cells #[.bool na, .slice A k ca] 31)).alloc (.cells #[.bool false, .slice none 0 0] 31)) := ((Ext.rfl' w).alloc' _).alloc' _
  have hk : ∀ w', Ext ((w.alloc (.cells #[.bool na, .slice A k ca] 31)).alloc (.cells #[.bool false, .slice none 0 0] 31)) w' →
      (w'.cell? ⟨w.heap.size, 0, none⟩ = some (.bool na) ∧ w'.cell? ⟨w.heap.size, 1, none⟩ = some (.slice A k ca)) ∧ Row w' (w.heap.size + 1) 31 [.bool false, .slice none 0 0] := by
    intro w' e
    have h1 := two_facts (W := w) (H := w.heap.size) (t := 31) (a := .bool na) (b := .slice A k ca) (Ext.step ((Ext.rfl' _).alloc' _) e) rfl
    have h2 := two_facts (W := (w.alloc (.cells #[.bool na, .slice A k ca] 31))) (H := w.heap.size + 1) (t := 31) (a := .bool false) (b := .slice none 0 0) e (by simp)
    exact ⟨⟨h1.1, h1.2.1⟩, h2.2.2.2.2.2⟩
  obtain ⟨W2, hW2e⟩ : ∃ W2, ((w.alloc (.cells #[.bool na, .slice A k ca] 31)).alloc (.cells #[.bool false, .slice none 0 0] 31)) = W2 := ⟨_, rfl⟩
  have hsz : W2.heap.size = w.heap.size + 1 + 1 := by rw [← hW2e]; simp
  rw [hW2e] at hW2
  rw [hW2e] at hk
  have HK := hid hk
  have HSZ := hid hsz
  have HW2 := hid hW2
  have HE := hid hW2e
  clear hra hla hLa hva hW2 hk hsz hW2e la hf
  go_enter Tryd.func29, Tryd.ntmps29
  go_wp2_with fail
  rw [HE.out]
  refine (of_one _).mono ?_
  rintro e w3 ⟨v1, rfl, hv1, hx3⟩
  have HV1 := hid hv1
  obtain ⟨A1, k1, c1, xs1, n1, rfl, -⟩ := hv1
  have hx4 : Ext W2 (w3.alloc (.cells #[.bool n1, .slice A1 k1 c1] 31)) := hx3.alloc' _
  have hx34 : Ext w3 (w3.alloc (.cells #[.bool n1, .slice A1 k1 c1] 31)) := (Ext.rfl' w3).alloc' _
  have hrow : Row (w3.alloc (.cells #[.bool n1, .slice A1 k1 c1] 31)) w3.heap.size 31 [.bool n1, .slice A1 k1 c1] := Row.new w3 _ _
  have hlt : w.heap.size + 1 < w3.heap.size := ((HK.out _ hx3).2).lt
  obtain ⟨W4, hW4⟩ : ∃ W4, w3.alloc (.cells #[.bool n1, .slice A1 k1 c1] 31) = W4 := ⟨_, rfl⟩
  rw [hW4] at hx4 hx34
  rw [hW4] at hrow
  have HW4 := hid hW4
  have HX4 := hid hx4
  have HROW := hid hrow
  have HV14 := hid (HV1.out.ext hx34)
  have HX34 := hid hx34
  have HX3 := hid hx3
  clear hx4 hx34 hrow hW4 hx3 HV1
  go_upto_region 2 with fail
  rw [HW4.out]
  obtain ⟨⟨j0, j1⟩, -⟩ := HK.out _ HX4.out
  obtain ⟨b0, b1, -, -⟩ := row_facts HROW.out
  go_wp2_with fail
  refine (rsign_at0 W4 (HA0.out.ext (HW2.out.step HX4.out)) HS0).mono ?_
  rintro e w5 ⟨rfl, hx5⟩
  have hcur : Ext W4 w5 := hx5
  have hrr := (HK.out _ (HX4.out.step hcur)).2
  clear j0 j1 b0 b1 hx5
  obtain ⟨⟨j0, j1⟩, -⟩ := HK.out _ (HX4.out.step hcur)
  obtain ⟨b0, b1, -, -⟩ := row_facts (HROW.out.ext hcur)
  obtain ⟨g0, g1, g2, g3⟩ := row_facts hrr
  go_wp2_with fail
  refine (size_one (((HA.out.ext HW2.out).ext HX4.out).ext hcur) LA.out HX.out VA.out hk1 HS1).mono ?_
  rintro e w6 ⟨rfl, hx6⟩
  have hcur' : Ext W4 w6 := hcur.step hx6
  clear hcur hx6 j0 j1 b0 b1 g0 g1 g2 g3 hrr
  have hcur := hcur'
  clear hcur'
  have hrr := (HK.out _ (HX4.out.step hcur)).2
  obtain ⟨⟨j0, j1⟩, -⟩ := HK.out _ (HX4.out.step hcur)
  obtain ⟨b0, b1, -, -⟩ := row_facts (HROW.out.ext hcur)
  obtain ⟨g0, g1, g2, g3⟩ := row_facts hrr
  go_wp2_with fail
  refine (size_one (((HA.out.ext HW2.out).ext HX4.out).ext hcur) LA.out HX.out VA.out hk1 HS1).mono ?_
  rintro e w7 ⟨rfl, hx7⟩
  have hcur' : Ext W4 w7 := hcur.step hx7
  clear hcur hx7 j0 j1 b0 b1 g0 g1 g2 g3 hrr
  have hcur := hcur'
  clear hcur'
  have hrr := (HK.out _ (HX4.out.step hcur)).2
  obtain ⟨⟨j0, j1⟩, -⟩ := HK.out _ (HX4.out.step hcur)
  obtain ⟨b0, b1, -, -⟩ := row_facts (HROW.out.ext hcur)
  obtain ⟨g0, g1, g2, g3⟩ := row_facts hrr
  have hfin := RPow.stored (m := m) (n := n) hrr (HW2.out.step (HX4.out.step hcur)) (by omega) (by rw [HEQ.out]; exact HV14.out.ext hcur) (by rw [HEQ.out]; exact fits_one)
  have HFIN := hid hfin
  clear hfin hrr
  go_wp2
  refine bodyPost_ret (v := .tuple #[.agg #[.bool n1, .slice A1 k1 c1], .bool true]) (by simp [results, Tryd.results29, go_sem, g0, g1]) rfl HFIN.out
set_option maxRecDepth 100000 in
set_option maxHeartbeats 3200000 in
theorem rpower_loop (va : Value) (m : Int) (n : Nat) (s0 s1 : Int) (w : World) (ha : RefV w va m) (hf : K.fits m) (hn : n ≤ 10000) (HS0 : Hid (sgn0 m = s0)) (HS1 : Hid (sgn m.natAbs 1 = s1)) (hp : ((n : Int) == 0) = false) (hs : (s0 == 0) = false) (hs1 : (s1 == 0) = false) (hfits : ∀ i, i ≤ n → K.fits (m ^ n) → K.fits (m ^ i)) :
    Calls Tryd.prog 29 #[va, .int .i64 (n : Int)] w (RPow m n w) := by
  have HA0 := hid ha
  have la := fits_big hf
  have HF := hid hf
  obtain ⟨A, k, ca, xs, na, rfl, HNA, hla, hca, hra, hLa, hva⟩ := ha
  have l1 := len_of_big hLa (by omega)
  have hk1 : k ≤ 1000 := by omega
  have HA := hid hra
  have LA := hid hla
  have HX := hid hLa
  have VA := hid hva
  have hW2 : Ext w ((w.alloc (.cells #[.bool na, .slice A k ca] 31)).alloc (.cells #[.bool false, .slice none 0 0] 31)) := ((Ext.rfl' w).alloc' _).alloc' _
  have hk : ∀ w', Ext ((w.alloc (.cells #[.bool na, .slice A k ca] 31)).alloc (.cells #[.bool false, .slice none 0 0] 31)) w' →
      (w'.cell? ⟨w.heap.size, 0, none⟩ = some (.bool na) ∧ w'.cell? ⟨w.heap.size, 1, none⟩ = some (.slice A k ca)) ∧ Row w' (w.heap.size + 1) 31 [.bool false, .slice none 0 0] := by
    intro w' e
    have h1 := two_facts (W := w) (H := w.heap.size) (t := 31) (a := .bool na) (b := .slice A k ca) (Ext.step ((Ext.rfl' _).alloc' _) e) rfl
    have h2 := two_facts (W := (w.alloc (.cells #[.bool na, .slice A k ca] 31))) (H := w.heap.size + 1) (t := 31) (a := .bool false) (b := .slice none 0 0) e (by simp)
    exact ⟨⟨h1.1, h1.2.1⟩, h2.2.2.2.2.2⟩
  obtain ⟨W2, hW2e⟩ : ∃ W2, ((w.alloc (.cells #[.bool na, .slice A k ca] 31)).alloc (.cells #[.bool false, .slice none 0 0] 31)) = W2 := ⟨_, rfl⟩
  have hsz : W2.heap.size = w.heap.size + 1 + 1 := by rw [← hW2e]; simp
  rw [hW2e] at hW2
  rw [hW2e] at hk
  have HK := hid hk
  have HSZ := hid hsz
  have HW2 := hid hW2
  have HE := hid hW2e
  clear hra hla hLa hva hW2 hk hsz hW2e la hf
  go_enter Tryd.func29, Tryd.ntmps29
  go_wp2_with fail
  rw [HE.out]
  refine (of_one _).mono ?_
  rintro e w3 ⟨v1, rfl, hv1, hx3⟩
  have HV1 := hid hv1
  obtain ⟨A1, k1, c1, xs1, n1, rfl, -⟩ := hv1
  have hx4 : Ext W2 (w3.alloc (.cells #[.bool n1, .slice A1 k1 c1] 31)) := hx3.alloc' _
  have hx34 : Ext w3 (w3.alloc (.cells #[.bool n1, .slice A1 k1 c1] 31)) := (Ext.rfl' w3).alloc' _
  have hrow : Row (w3.alloc (.cells #[.bool n1, .slice A1 k1 c1] 31)) w3.heap.size 31 [.bool n1, .slice A1 k1 c1] := Row.new w3 _ _
  have hlt : w.heap.size + 1 < w3.heap.size := ((HK.out _ hx3).2).lt
  obtain ⟨W4, hW4⟩ : ∃ W4, w3.alloc (.cells #[.bool n1, .slice A1 k1 c1] 31) = W4 := ⟨_, rfl⟩
  rw [hW4] at hx4 hx34
  rw [hW4] at hrow
  have HW4 := hid hW4
  have HX4 := hid hx4
  have HROW := hid hrow
  have HV14 := hid (HV1.out.ext hx34)
  have HX34 := hid hx34
  have HX3 := hid hx3
  clear hx4 hx34 hrow hW4 hx3 HV1
  go_upto_region 2 with fail
  rw [HW4.out]
  obtain ⟨⟨j0, j1⟩, -⟩ := HK.out _ HX4.out
  obtain ⟨b0, b1, -, -⟩ := row_facts HROW.out
  go_wp2_with fail
  refine (rsign_at0 W4 (HA0.out.ext (HW2.out.step HX4.out)) HS0).mono ?_
  rintro e w5 ⟨rfl, hx5⟩
  have hcur : Ext W4 w5 := hx5
  have hrr := (HK.out _ (HX4.out.step hcur)).2
  clear j0 j1 b0 b1 hx5
  obtain ⟨⟨j0, j1⟩, -⟩ := HK.out _ (HX4.out.step hcur)
  obtain ⟨b0, b1, -, -⟩ := row_facts (HROW.out.ext hcur)
  obtain ⟨g0, g1, g2, g3⟩ := row_facts hrr
  go_wp2_with fail
  refine (size_one (((HA.out.ext HW2.out).ext HX4.out).ext hcur) LA.out HX.out VA.out hk1 HS1).mono ?_
  rintro e w6 ⟨rfl, hx6⟩
  have hcur' : Ext W4 w6 := hcur.step hx6
  clear hcur hx6 j0 j1 b0 b1 g0 g1 g2 g3 hrr
  have hcur := hcur'
  clear hcur'
  have hrr := (HK.out _ (HX4.out.step hcur)).2
  obtain ⟨⟨j0, j1⟩, -⟩ := HK.out _ (HX4.out.step hcur)
  obtain ⟨b0, b1, -, -⟩ := row_facts (HROW.out.ext hcur)
  obtain ⟨g0, g1, g2, g3⟩ := row_facts hrr
  go_wp2_with fail
  refine (size_one (((HA.out.ext HW2.out).ext HX4.out).ext hcur) LA.out HX.out VA.out hk1 HS1).mono ?_
  rintro e w7 ⟨rfl, hx7⟩
  have hcur' : Ext W4 w7 := hcur.step hx7
  clear hcur hx7 j0 j1 b0 b1 g0 g1 g2 g3 hrr
  have hcur := hcur'
  clear hcur'
  have hrr := (HK.out _ (HX4.out.step hcur)).2
  obtain ⟨⟨j0, j1⟩, -⟩ := HK.out _ (HX4.out.step hcur)
  obtain ⟨b0, b1, -, -⟩ := row_facts (HROW.out.ext hcur)
  obtain ⟨g0, g1, g2, g3⟩ := row_facts hrr
  have hrow7 := HROW.out.ext hcur
  have hv7 : RefV w7 (.agg #[.bool n1, .slice A1 k1 c1]) (m ^ 0) := by rw [Int.pow_zero]; exact HV14.out.ext hcur
  have hx37 := HX34.out.step hcur
  have HCUR7 := hid (HX3.out.step hx37)
  have FITS := hid hfits
  clear hrr j0 j1 b0 b1 g0 g1 g2 g3 HV14 HROW hcur hfits
  go_wp2_with fail
  go_loopw [7] (fun iz wr => ∃ (i : Nat) (b : Bool) (A2 : Option Addr) (k2 c2 : Nat), i ≤ n ∧ iz = .int .i64 (i : Int) ∧ Row wr w3.heap.size 31 [.bool b, .slice A2 k2 c2] ∧ RefV wr (.agg #[.bool b, .slice A2 k2 c2]) (m ^ i) ∧ Hid (K.fits (m ^ i)) ∧ Ext W2 wr) (fun iz _ => n - (intOf iz).toNat)
  case atStart => exact ⟨0, n1, A1, k1, c1, by omega, rfl, hrow7, hv7, hid (by rw [Int.pow_zero]; exact fits_one), HCUR7.out⟩
  case round =>
    obtain ⟨i, b, A2, k2, c2, hi, rfl, hrow, hvi, HFI, hex⟩ := hrel
    obtain ⟨⟨j0, j1⟩, hrr⟩ := HK.out _ hex
    obtain ⟨b0, b1, b2, b3⟩ := row_facts hrow
    obtain ⟨g0, g1, g2, g3⟩ := row_facts hrr
    have HROWI := hid hrow
    have HVI := hid hvi
    have HRR := hid hrr
    clear hrow hvi hrr hrow7 hv7 hx37
    by_cases hlt2 : i < n
    · go_wp2_with fail
      refine (rmul_any _ _ _ _ _ HVI.out ((HA0.out.ext HW2.out).ext hex) (fits_big HFI.out) (fits_big HF.out)).mono ?_
      rintro e w9 ⟨v9, rfl, hv9, hx9⟩
      rw [← Int.pow_succ] at hv9
      have HV9 := hid hv9
      obtain ⟨A9, k9, c9, xs9, n9, rfl, -⟩ := hv9
      have hr9 := HROWI.out.ext hx9
      have hput : Row ((w9.setCell ⟨w3.heap.size, 0, none⟩ (.bool n9)).setCell ⟨w3.heap.size, 1, none⟩ (.slice A9 k9 c9)) w3.heap.size 31 [.bool n9, .slice A9 k9 c9] := (hr9.set 0 _).set 1 _
      have hvp : RefV ((w9.setCell ⟨w3.heap.size, 0, none⟩ (.bool n9)).setCell ⟨w3.heap.size, 1, none⟩ (.slice A9 k9 c9)) (.agg #[.bool n9, .slice A9 k9 c9]) (m ^ (i + 1)) := by
        obtain ⟨A', k', c', xs, b', e, h1, h2, h3, h4, h5, h6⟩ := HV9.out
        cases e
        exact ⟨_, _, _, xs, _, rfl, h1, h2, h3, RefV.two h4 hr9, h5, h6⟩
      have hxp : Ext W2 ((w9.setCell ⟨w3.heap.size, 0, none⟩ (.bool n9)).setCell ⟨w3.heap.size, 1, none⟩ (.slice A9 k9 c9)) := ((hex.step hx9).set' (by show W2.heap.size ≤ w3.heap.size; rw [HSZ.out]; omega) _).set' (by show W2.heap.size ≤ w3.heap.size; rw [HSZ.out]; omega) _
      obtain ⟨d0, d1, d2, d3⟩ := row_facts hr9
      have HB9 := hid (mul_big HFI.out HF.out)
      rw [← Int.pow_succ] at HB9
      obtain ⟨WP, hWP⟩ : ∃ WP, ((w9.setCell ⟨w3.heap.size, 0, none⟩ (.bool n9)).setCell ⟨w3.heap.size, 1, none⟩ (.slice A9 k9 c9)) = WP := ⟨_, rfl⟩
      rw [hWP] at hput hvp hxp
      have HWP := hid hWP
      have HPUT := hid hput
      have HVP := hid hvp
      clear hWP hput hvp hr9 hx9 j0 j1 b0 b1 b2 b3 g0 g1 g2 g3 HRR HVI HROWI hex
      go_upto_region 10 with fail
      rw [HWP.out]
      clear d0 d1 d2 d3
      obtain ⟨b0, b1, -, -⟩ := row_facts HPUT.out
      by_cases hfi : K.fits (m ^ (i + 1))
      · have HFI2 := hid hfi
        clear hfi
        go_wp2_with fail
        refine (rfits_any _ _ _ HVP.out HB9.out true (hid ⟨fun _ => HFI2.out, fun _ => rfl⟩)).mono ?_
        rintro e w10 ⟨rfl, hx10⟩
        have hput10 := HPUT.out.ext hx10
        have hv10 := HVP.out.ext hx10
        have hxp10 := hxp.step hx10
        clear b0 b1 hxp hx10
        go_wp2
        go_roundw
        case rel => exact ⟨i + 1, n9, A9, k9, c9, by omega, by simp, hput10, hv10, HFI2, hxp10⟩
        case measure => simp [intOf]; omega
      · have HFI2 := hid hfi
        clear hfi
        go_wp2_with fail
        refine (rfits_any _ _ _ HVP.out HB9.out false (hid ⟨fun h => (by cases h), fun h => absurd h HFI2.out⟩)).mono ?_
        rintro e w10 ⟨rfl, hx10⟩
        have hxp10 := hxp.step hx10
        have hrr := (HK.out _ hxp10).2
        obtain ⟨g0, g1, g2, g3⟩ := row_facts hrr
        have hnf : ¬ K.fits (m ^ n) := fun h => HFI2.out (FITS.out _ (by omega) h)
        have hfin : Hid (∀ w', Ext w w' → RPow m n w (.returned (.tuple #[.agg #[.bool false, .slice none 0 0], .bool false])) w') := hid fun w' e => ⟨.inr ⟨rfl, hnf⟩, e⟩
        have HY := hid ((((HW2.out.step hxp10).set' (p := ⟨w.heap.size + 1, 0, none⟩) (by show w.heap.size ≤ w.heap.size + 1; omega) (.bool false)).set' (p := ⟨w.heap.size + 1, 1, none⟩) (by show w.heap.size ≤ w.heap.size + 1; omega) (.slice none 0 0)))
        clear b0 b1 hxp hx10 hrr hnf hxp10
        go_wp2
        refine bodyPost_ret (v := .tuple #[.agg #[.bool false, .slice none 0 0], .bool false]) (by simp [results, Tryd.results29, go_sem, g0, g1]) rfl (hfin.out _ HY.out)
    · obtain rfl : i = n := by omega
      have hfin := RPow.stored (m := m) (n := i) HRR.out (HW2.out.step hex) (by omega) HVI.out HFI.out
      have HFIN := hid hfin
      clear hfin
      go_wp2
      refine bodyPost_ret (v := .tuple #[.agg #[.bool b, .slice A2 k2 c2], .bool true]) (by simp [results, Tryd.results29, go_sem, g0, g1]) rfl HFIN.out
end Go.Proofs.YtoilkfohhhidpaaDoor
