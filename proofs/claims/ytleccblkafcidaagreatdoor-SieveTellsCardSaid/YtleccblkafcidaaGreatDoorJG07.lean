/- Joined texts: the reference's Add; the reference's Mul; the reference's Add, of any two numbers; the reference's Sub; the reference's Sign; Parse of a valid text; the reference's Cmp. -/
import Derived.Test.YtleccblkafcidaaGreatDoorJG06
import Derived.Test.YtleccblkafcidaaGreatDoorJG03
import Derived.Test.YtleccblkafcidaaGreatDoorJG02
import Derived.IntWalk
import Derived.Test.YtleccblkafcidaaGreatDoorJG05
import Derived.Test.YtleccblkafcidaaGreatDoorJG04
set_option linter.unusedSimpArgs false
set_option linter.unusedVariables false
/- the reference's Add -/
namespace Go.Proofs.YtleccblkafcidaaGreatDoor
open Go.RowKit
theorem RefV.two {w : World} {A1 : Option Addr} {H k1 c1 : Nat} {t : TypeId} {x : Bool} {a b : Value} {A : Option Addr} {xs : List Nat} (h : Rd w A (I64s xs)) (r : Row w H t [.bool x, .slice A1 k1 c1]) :
    Rd ((w.setCell ⟨H, 0, none⟩ a).setCell ⟨H, 1, none⟩ b) A (I64s xs) :=
  h.two (by intro u hu; obtain ⟨y, _, rfl⟩ := List.mem_map.1 hu; exact ⟨_, _, rfl⟩) r
set_option maxRecDepth 100000 in
set_option maxHeartbeats 1600000 in
theorem radd_same (A B : Option Addr) (ka ca kb cb : Nat) (na : Bool) (xs ys : List Nat) (m : Int) (w : World) (ha : Rd w A (I64s xs)) (hb : Rd w B (I64s ys)) (la : xs.length = ka) (lb : ys.length = kb)
    (hx : ∀ x ∈ xs, x < 1000000000) (hy : ∀ y ∈ ys, y < 1000000000) (b1 : ka ≤ 100000) (b2 : kb ≤ 100000) (hm : m.natAbs = K.lv xs + K.lv ys) (hs : na = decide (m < 0)) :
    Calls Tryz.prog 31 #[.agg #[.bool na, .slice A ka ca], .agg #[.bool na, .slice B kb cb]] w (RefPost m w) := by
  have HM := hid hm
  have HS := hid hs
  have HX := hid hx
  have HY := hid hy
  clear hm hs hx hy
  have hq : (na == na) = true := by simp
  have hW2 : Ext w ((w.alloc (.cells #[.bool na, .slice A ka ca] 47)).alloc (.cells #[.bool na, .slice B kb cb] 47)) := ((Ext.rfl' w).alloc' _).alloc' _
  have hW3 : Ext w (((w.alloc (.cells #[.bool na, .slice A ka ca] 47)).alloc (.cells #[.bool na, .slice B kb cb] 47)).alloc (.cells #[.bool false, .slice none 0 0] 47)) := hW2.alloc' _
  have hk : ∀ w', Ext (((w.alloc (.cells #[.bool na, .slice A ka ca] 47)).alloc (.cells #[.bool na, .slice B kb cb] 47)).alloc (.cells #[.bool false, .slice none 0 0] 47)) w' →
      w'.cell? ⟨w.heap.size, 0, none⟩ = some (.bool na) ∧ w'.cell? ⟨w.heap.size, 1, none⟩ = some (.slice A ka ca) ∧ w'.cell? ⟨w.heap.size + 1, 0, none⟩ = some (.bool na) ∧ w'.cell? ⟨w.heap.size + 1, 1, none⟩ = some (.slice B kb cb) := by
    intro w' e
    have h1 := two_facts (W := w) (H := w.heap.size) (t := 47) (a := .bool na) (b := .slice A ka ca) (Ext.step (((Ext.rfl' _).alloc' _).alloc' _) e) rfl
    have h2 := two_facts (W := (w.alloc (.cells #[.bool na, .slice A ka ca] 47))) (H := w.heap.size + 1) (t := 47) (a := .bool na) (b := .slice B kb cb) (Ext.step ((Ext.rfl' _).alloc' _) e) (by simp)
    exact ⟨h1.1, h1.2.1, h2.1, h2.2.1⟩
  have ht : ∀ w', Ext (((w.alloc (.cells #[.bool na, .slice A ka ca] 47)).alloc (.cells #[.bool na, .slice B kb cb] 47)).alloc (.cells #[.bool false, .slice none 0 0] 47)) w' → _ :=
    fun w' e => two_facts (H := w.heap.size + 1 + 1) e (by simp)
  have HT := hid ht
  have hne1 : ¬ (w.heap.size + 1 + 1 = w.heap.size) := by omega
  have hne2 : ¬ (w.heap.size = w.heap.size + 1 + 1) := by omega
  have HK := hid hk
  have HW3 := hid hW3
  have HW2 := hid hW2
  clear hk hW3 hW2 ht
  go_enter Tryz.func31, Tryz.ntmps31
  go_wp2_with fail
  go_region_held3 (fun w' => w'.cell? ⟨w.heap.size, 0, none⟩ = some (.bool na) ∧ w'.cell? ⟨w.heap.size, 1, none⟩ = some (.slice A ka ca) ∧ w'.cell? ⟨w.heap.size + 1, 0, none⟩ = some (.bool na) ∧ w'.cell? ⟨w.heap.size + 1, 1, none⟩ = some (.slice B kb cb))
    (first | go_keep | exact HK.out _ hx4' | exact HK.out _ hx3')
    (first
      | (go_at_call 83; refine (more_any A B ka ca kb cb xs ys _ (ha.ext ?_) (hb.ext ?_) la lb HX.out HY.out b1 b2).mono ?_; (first | exact HW3.out | exact HW3.out.drew'); (first | exact HW3.out | exact HW3.out.drew'); rintro e w3 ⟨A3, k3, c3', zs, rfl, z1, z2, z3, z4, z5, z6, hx3⟩; have hx3' := Ext.undrew hx3)
      | (go_at_call 80; refine (rtrim_any na A3 c3' k3 zs _ (z4.ext ?_) z1 (by omega) z2).mono ?_; (first | exact Ext.rfl' _ | exact (Ext.rfl' _).drew'); rintro e w4 ⟨k4, b4, hk4, rfl, hb4, hcut, hx4⟩; have hx4' := Ext.step hx3' (by first | exact hx4 | exact Ext.undrew hx4); obtain ⟨c0, c1, f0, f1, hl, _⟩ := HT.out _ hx4'))
  have hfin : RefPost m w (.returned (.agg #[.bool b4, .slice A3 k4 c3'])) ((w4.setCell ⟨w.heap.size + 1 + 1, 0, none⟩ (.bool b4)).setCell ⟨w.heap.size + 1 + 1, 1, none⟩ (.slice A3 k4 c3')) := by
    have r := (HT.out _ hx4').2.2.2.2.2
    have e4 : Ext w w4 := HW3.out.step hx4'
    refine ⟨_, rfl, ⟨A3, k4, c3', zs.take k4, b4, rfl, ?_, by rw [List.length_take]; omega, by omega, ?_, hcut.lim z5, by rw [hcut.lv, z6, HM.out]⟩, (e4.set' (by show _ ≤ w.heap.size + 1 + 1; omega) _).set' (by show _ ≤ w.heap.size + 1 + 1; omega) _⟩
    · refine hid ?_
      rw [hb4.out, HS.out]
      by_cases hm : m < 0
      · have hk4 : 0 < k4 := by
          rcases Nat.eq_zero_or_pos k4 with h | h
          · exfalso
            have := hcut.lv
            rw [h, z6, ← HM.out] at this
            simp [K.lv] at this
            omega
          · exact h
        simp [hm, hk4]
      · simp [hm]
    · rw [show I64s (zs.take k4) = (I64s zs).take k4 from List.map_take ..]
      refine Rd.two ((z4.ext (by first | exact hx4 | exact Ext.undrew hx4)).take k4) ?_ r
      intro u hu
      obtain ⟨y, _, rfl⟩ := List.mem_map.1 (List.mem_of_mem_take hu)
      exact ⟨_, _, rfl⟩
  have HF := hid hfin
  clear hfin
  go_wp2
  refine bodyPost_ret (v := .agg #[.bool b4, .slice A3 k4 c3']) (by simp [results, Tryz.results31, go_sem, c0, c1]) rfl HF.out
set_option maxRecDepth 100000 in
set_option maxHeartbeats 1600000 in
theorem radd_ge (A B : Option Addr) (ka ca kb cb : Nat) (na nb : Bool) (xs ys : List Nat) (m : Int) (w : World) (ha : Rd w A (I64s xs)) (hb : Rd w B (I64s ys)) (la : xs.length = ka) (lb : ys.length = kb)
    (hx : ∀ x ∈ xs, x < 1000000000) (hy : ∀ y ∈ ys, y < 1000000000) (b1 : ka ≤ 100000) (b2 : kb ≤ 100000) (hne : na ≠ nb) (hge : K.lv ys ≤ K.lv xs) (hkk : kb ≤ ka) (sv : Int) (hsv : Hid ((if ka = kb then cmpL xs ys else sgn ka kb) = sv)) (hs0 : 0 ≤ sv) (hm : m.natAbs = K.lv xs - K.lv ys) (hs : m ≠ 0 → na = decide (m < 0)) :
    Calls Tryz.prog 31 #[.agg #[.bool na, .slice A ka ca], .agg #[.bool nb, .slice B kb cb]] w (RefPost m w) := by
  have HM := hid hm
  have HS := hid hs
  have HX := hid hx
  have HY := hid hy
  have HGE := hid hge
  clear hm hs hx hy hge
  have hq : (na == nb) = false := by simpa using hne
  have hW2 : Ext w ((w.alloc (.cells #[.bool na, .slice A ka ca] 47)).alloc (.cells #[.bool nb, .slice B kb cb] 47)) := ((Ext.rfl' w).alloc' _).alloc' _
  have hW3 : Ext w (((w.alloc (.cells #[.bool na, .slice A ka ca] 47)).alloc (.cells #[.bool nb, .slice B kb cb] 47)).alloc (.cells #[.bool false, .slice none 0 0] 47)) := hW2.alloc' _
  have hk : ∀ w', Ext (((w.alloc (.cells #[.bool na, .slice A ka ca] 47)).alloc (.cells #[.bool nb, .slice B kb cb] 47)).alloc (.cells #[.bool false, .slice none 0 0] 47)) w' →
      w'.cell? ⟨w.heap.size, 0, none⟩ = some (.bool na) ∧ w'.cell? ⟨w.heap.size, 1, none⟩ = some (.slice A ka ca) ∧ w'.cell? ⟨w.heap.size + 1, 0, none⟩ = some (.bool nb) ∧ w'.cell? ⟨w.heap.size + 1, 1, none⟩ = some (.slice B kb cb) := by
    intro w' e
    have h1 := two_facts (W := w) (H := w.heap.size) (t := 47) (a := .bool na) (b := .slice A ka ca) (Ext.step (((Ext.rfl' _).alloc' _).alloc' _) e) rfl
    have h2 := two_facts (W := (w.alloc (.cells #[.bool na, .slice A ka ca] 47))) (H := w.heap.size + 1) (t := 47) (a := .bool nb) (b := .slice B kb cb) (Ext.step ((Ext.rfl' _).alloc' _) e) (by simp)
    exact ⟨h1.1, h1.2.1, h2.1, h2.2.1⟩
  have ht : ∀ w', Ext (((w.alloc (.cells #[.bool na, .slice A ka ca] 47)).alloc (.cells #[.bool nb, .slice B kb cb] 47)).alloc (.cells #[.bool false, .slice none 0 0] 47)) w' → _ :=
    fun w' e => two_facts (H := w.heap.size + 1 + 1) e (by simp)
  have HT := hid ht
  have hne1 : ¬ (w.heap.size + 1 + 1 = w.heap.size) := by omega
  have hne2 : ¬ (w.heap.size = w.heap.size + 1 + 1) := by omega
  have HK := hid hk
  have HW3 := hid hW3
  have HW2 := hid hW2
  clear hk hW3 hW2 ht
  go_enter Tryz.func31, Tryz.ntmps31
  go_wp2_with fail
  refine (size_any A B ca cb ka kb xs ys _ (ha.ext HW3.out) (hb.ext HW3.out) la lb (by omega) (by omega)).mono ?_
  rintro e w2 ⟨rfl, hdr⟩
  rw [hsv.out]
  have HE2 := hid hdr.ext
  obtain ⟨k0, k1, k2, k3⟩ := HK.out _ hdr.ext
  clear hdr
  go_wp2_with fail
  go_region_held3 (fun w' => w'.cell? ⟨w.heap.size, 0, none⟩ = some (.bool na) ∧ w'.cell? ⟨w.heap.size, 1, none⟩ = some (.slice A ka ca) ∧ w'.cell? ⟨w.heap.size + 1, 0, none⟩ = some (.bool nb) ∧ w'.cell? ⟨w.heap.size + 1, 1, none⟩ = some (.slice B kb cb))
    (first | go_keep | exact HK.out _ (Ext.step HE2.out hx4') | exact HK.out _ (Ext.step HE2.out hx3'))
    (first
      | (go_at_call 85; refine (less_any A B ka ca kb cb xs ys _ (ha.ext ?_) (hb.ext ?_) la lb HX.out HY.out b1 hkk HGE.out).mono ?_; (first | exact HW3.out.step HE2.out | exact (HW3.out.step HE2.out).drew'); (first | exact HW3.out.step HE2.out | exact (HW3.out.step HE2.out).drew'); rintro e w3 ⟨A3, k3, c3', zs, rfl, z1, z2, z3, z4, z5, z6, hx3⟩; have hx3' := Ext.undrew hx3)
      | (go_at_call 80; refine (rtrim_any na A3 c3' k3 zs _ (z4.ext ?_) z1 (by omega) z2).mono ?_; (first | exact Ext.rfl' _ | exact (Ext.rfl' _).drew'); rintro e w4 ⟨k4, b4, hk4, rfl, hb4, hcut, hx4⟩; have hx4' := Ext.step hx3' (by first | exact hx4 | exact Ext.undrew hx4); obtain ⟨c0, c1, f0, f1, hl, _⟩ := HT.out _ (Ext.step HE2.out hx4')))
  have hfin : RefPost m w (.returned (.agg #[.bool b4, .slice A3 k4 c3'])) ((w4.setCell ⟨w.heap.size + 1 + 1, 0, none⟩ (.bool b4)).setCell ⟨w.heap.size + 1 + 1, 1, none⟩ (.slice A3 k4 c3')) := by
    have r := (HT.out _ (Ext.step HE2.out hx4')).2.2.2.2.2
    have e4 : Ext w w4 := (HW3.out.step HE2.out).step hx4'
    refine ⟨_, rfl, ⟨A3, k4, c3', zs.take k4, b4, rfl, ?_, by rw [List.length_take]; omega, by omega, ?_, hcut.lim z5, by rw [hcut.lv, z6, HM.out]⟩, (e4.set' (by show _ ≤ w.heap.size + 1 + 1; omega) _).set' (by show _ ≤ w.heap.size + 1 + 1; omega) _⟩
    · refine hid ?_
      rw [hb4.out]
      by_cases hm : m < 0
      · have hk4 : 0 < k4 := by
          rcases Nat.eq_zero_or_pos k4 with h | h
          · exfalso
            have := hcut.lv
            rw [h, z6, ← HM.out] at this
            simp [K.lv] at this
            omega
          · exact h
        rw [HS.out (by omega)]; simp [hm, hk4]
      · by_cases h0 : m = 0
        · have hk4 : k4 = 0 := by
            have h1 := (hcut.lim z5).zero_iff.1 (by rw [hcut.lv, z6, ← HM.out, h0]; rfl)
            rcases List.take_eq_nil_iff.1 h1 with h | h
            · exact h
            · rw [h] at hk4; simpa using hk4
          subst hk4 h0; simp
        · rw [HS.out h0]; simp [hm]
    · rw [show I64s (zs.take k4) = (I64s zs).take k4 from List.map_take ..]
      refine Rd.two ((z4.ext (by first | exact hx4 | exact Ext.undrew hx4)).take k4) ?_ r
      intro u hu
      obtain ⟨y, _, rfl⟩ := List.mem_map.1 (List.mem_of_mem_take hu)
      exact ⟨_, _, rfl⟩
  have HF := hid hfin
  clear hfin
  go_wp2
  refine bodyPost_ret (v := .agg #[.bool b4, .slice A3 k4 c3']) (by simp [results, Tryz.results31, go_sem, c0, c1]) rfl HF.out
set_option maxRecDepth 100000 in
set_option maxHeartbeats 1600000 in
theorem radd_lt (A B : Option Addr) (ka ca kb cb : Nat) (na nb : Bool) (xs ys : List Nat) (m : Int) (w : World) (ha : Rd w A (I64s xs)) (hb : Rd w B (I64s ys)) (la : xs.length = ka) (lb : ys.length = kb)
    (hx : ∀ x ∈ xs, x < 1000000000) (hy : ∀ y ∈ ys, y < 1000000000) (b1 : ka ≤ 100000) (b2 : kb ≤ 100000) (hne : na ≠ nb) (hge : K.lv xs ≤ K.lv ys) (hkk : ka ≤ kb) (sv : Int) (hsv : Hid ((if ka = kb then cmpL xs ys else sgn ka kb) = sv)) (hs0 : ¬ 0 ≤ sv) (hm : m.natAbs = K.lv ys - K.lv xs) (hs : m ≠ 0 → nb = decide (m < 0)) :
    Calls Tryz.prog 31 #[.agg #[.bool na, .slice A ka ca], .agg #[.bool nb, .slice B kb cb]] w (RefPost m w) := by
  have HM := hid hm
  have HS := hid hs
  have HX := hid hx
  have HY := hid hy
  have HGE := hid hge
  clear hm hs hx hy hge
  have hq : (na == nb) = false := by simpa using hne
  have hW2 : Ext w ((w.alloc (.cells #[.bool na, .slice A ka ca] 47)).alloc (.cells #[.bool nb, .slice B kb cb] 47)) := ((Ext.rfl' w).alloc' _).alloc' _
  have hW3 : Ext w (((w.alloc (.cells #[.bool na, .slice A ka ca] 47)).alloc (.cells #[.bool nb, .slice B kb cb] 47)).alloc (.cells #[.bool false, .slice none 0 0] 47)) := hW2.alloc' _
  have hk : ∀ w', Ext (((w.alloc (.cells #[.bool na, .slice A ka ca] 47)).alloc (.cells #[.bool nb, .slice B kb cb] 47)).alloc (.cells #[.bool false, .slice none 0 0] 47)) w' →
      w'.cell? ⟨w.heap.size, 0, none⟩ = some (.bool na) ∧ w'.cell? ⟨w.heap.size, 1, none⟩ = some (.slice A ka ca) ∧ w'.cell? ⟨w.heap.size + 1, 0, none⟩ = some (.bool nb) ∧ w'.cell? ⟨w.heap.size + 1, 1, none⟩ = some (.slice B kb cb) := by
    intro w' e
    have h1 := two_facts (W := w) (H := w.heap.size) (t := 47) (a := .bool na) (b := .slice A ka ca) (Ext.step (((Ext.rfl' _).alloc' _).alloc' _) e) rfl
    have h2 := two_facts (W := (w.alloc (.cells #[.bool na, .slice A ka ca] 47))) (H := w.heap.size + 1) (t := 47) (a := .bool nb) (b := .slice B kb cb) (Ext.step ((Ext.rfl' _).alloc' _) e) (by simp)
    exact ⟨h1.1, h1.2.1, h2.1, h2.2.1⟩
  have ht : ∀ w', Ext (((w.alloc (.cells #[.bool na, .slice A ka ca] 47)).alloc (.cells #[.bool nb, .slice B kb cb] 47)).alloc (.cells #[.bool false, .slice none 0 0] 47)) w' → _ :=
    fun w' e => two_facts (H := w.heap.size + 1 + 1) e (by simp)
  have HT := hid ht
  have hne1 : ¬ (w.heap.size + 1 + 1 = w.heap.size) := by omega
  have hne2 : ¬ (w.heap.size = w.heap.size + 1 + 1) := by omega
  have HK := hid hk
  have HW3 := hid hW3
  have HW2 := hid hW2
  clear hk hW3 hW2 ht
  go_enter Tryz.func31, Tryz.ntmps31
  go_wp2_with fail
  refine (size_any A B ca cb ka kb xs ys _ (ha.ext HW3.out) (hb.ext HW3.out) la lb (by omega) (by omega)).mono ?_
  rintro e w2 ⟨rfl, hdr⟩
  rw [hsv.out]
  have HE2 := hid hdr.ext
  obtain ⟨k0, k1, k2, k3⟩ := HK.out _ hdr.ext
  clear hdr
  go_wp2_with fail
  go_region_held3 (fun w' => w'.cell? ⟨w.heap.size, 0, none⟩ = some (.bool na) ∧ w'.cell? ⟨w.heap.size, 1, none⟩ = some (.slice A ka ca) ∧ w'.cell? ⟨w.heap.size + 1, 0, none⟩ = some (.bool nb) ∧ w'.cell? ⟨w.heap.size + 1, 1, none⟩ = some (.slice B kb cb))
    (first | go_keep | exact HK.out _ (Ext.step HE2.out hx4') | exact HK.out _ (Ext.step HE2.out hx3'))
    (first
      | (go_at_call 85; refine (less_any B A kb cb ka ca ys xs _ (hb.ext ?_) (ha.ext ?_) lb la HY.out HX.out b2 hkk HGE.out).mono ?_; (first | exact HW3.out.step HE2.out | exact (HW3.out.step HE2.out).drew'); (first | exact HW3.out.step HE2.out | exact (HW3.out.step HE2.out).drew'); rintro e w3 ⟨A3, k3, c3', zs, rfl, z1, z2, z3, z4, z5, z6, hx3⟩; have hx3' := Ext.undrew hx3)
      | (go_at_call 80; refine (rtrim_any nb A3 c3' k3 zs _ (z4.ext ?_) z1 (by omega) z2).mono ?_; (first | exact Ext.rfl' _ | exact (Ext.rfl' _).drew'); rintro e w4 ⟨k4, b4, hk4, rfl, hb4, hcut, hx4⟩; have hx4' := Ext.step hx3' (by first | exact hx4 | exact Ext.undrew hx4); obtain ⟨c0, c1, f0, f1, hl, _⟩ := HT.out _ (Ext.step HE2.out hx4')))
  have hfin : RefPost m w (.returned (.agg #[.bool b4, .slice A3 k4 c3'])) ((w4.setCell ⟨w.heap.size + 1 + 1, 0, none⟩ (.bool b4)).setCell ⟨w.heap.size + 1 + 1, 1, none⟩ (.slice A3 k4 c3')) := by
    have r := (HT.out _ (Ext.step HE2.out hx4')).2.2.2.2.2
    have e4 : Ext w w4 := (HW3.out.step HE2.out).step hx4'
    refine ⟨_, rfl, ⟨A3, k4, c3', zs.take k4, b4, rfl, ?_, by rw [List.length_take]; omega, by omega, ?_, hcut.lim z5, by rw [hcut.lv, z6, HM.out]⟩, (e4.set' (by show _ ≤ w.heap.size + 1 + 1; omega) _).set' (by show _ ≤ w.heap.size + 1 + 1; omega) _⟩
    · refine hid ?_
      rw [hb4.out]
      by_cases hm : m < 0
      · have hk4 : 0 < k4 := by
          rcases Nat.eq_zero_or_pos k4 with h | h
          · exfalso
            have := hcut.lv
            rw [h, z6, ← HM.out] at this
            simp [K.lv] at this
            omega
          · exact h
        rw [HS.out (by omega)]; simp [hm, hk4]
      · by_cases h0 : m = 0
        · have hk4 : k4 = 0 := by
            have h1 := (hcut.lim z5).zero_iff.1 (by rw [hcut.lv, z6, ← HM.out, h0]; rfl)
            rcases List.take_eq_nil_iff.1 h1 with h | h
            · exact h
            · rw [h] at hk4; simpa using hk4
          subst hk4 h0; simp
        · rw [HS.out h0]; simp [hm]
    · rw [show I64s (zs.take k4) = (I64s zs).take k4 from List.map_take ..]
      refine Rd.two ((z4.ext (by first | exact hx4 | exact Ext.undrew hx4)).take k4) ?_ r
      intro u hu
      obtain ⟨y, _, rfl⟩ := List.mem_map.1 (List.mem_of_mem_take hu)
      exact ⟨_, _, rfl⟩
  have HF := hid hfin
  clear hfin
  go_wp2
  refine bodyPost_ret (v := .agg #[.bool b4, .slice A3 k4 c3']) (by simp [results, Tryz.results31, go_sem, c0, c1]) rfl HF.out
end Go.Proofs.YtleccblkafcidaaGreatDoor
/- the reference's Mul -/
namespace Go.Proofs.YtleccblkafcidaaGreatDoor
open Go.RowKit
theorem I64s_put {w : World} {g : Nat} {t : TypeId} {Os : List Nat} (h : Row w g t (I64s Os)) (j v : Nat) : Row (w.setCell ⟨g, j, none⟩ (.int .i64 (v : Int))) g t (I64s (Os.set j v)) := by
  have := h.set j (.int .i64 (v : Int))
  rwa [I64s_set] at this
theorem at_of_getD {Os : List Nat} {j : Nat} (h : j < Os.length) : Os[j]? = some (Os.getD j 0) := by
  rw [List.getD_eq_getElem?_getD, List.getElem?_eq_getElem h]; rfl
set_option maxRecDepth 100000 in
set_option maxHeartbeats 3200000 in
theorem rmul_any (va vb : Value) (a b : Int) (w : World) (ha : RefV w va a) (hb : RefV w vb b) (la : a.natAbs ≤ BIG) (lb : b.natAbs ≤ BIG) :
    Calls Tryz.prog 30 #[va, vb] w (RefPost (a * b) w) := by
  obtain ⟨A, n, ca, xs, na, rfl, HNA, hla, hca, hra, hLa, hva⟩ := ha
  obtain ⟨B, m, cb, ys, nb, rfl, HNB, hlb, hcb, hrb, hLb, hvb⟩ := hb
  have l1 := len_of_big hLa (by omega)
  have l2 := len_of_big hLb (by omega)
  have hn : n ≤ 1000 := by omega
  have hm : m ≤ 1000 := by omega
  have HA := hid hra
  have HB := hid hrb
  have LA := hid hla
  have LB := hid hlb
  have HX := hid hLa
  have HY := hid hLb
  have VA := hid hva
  have VB := hid hvb
  have hmk := fun w => mkInts (n + m + 1) ((n : Int) + m + 1) (by omega) (by omega) w
  have hW3 : Ext w (((w.alloc (.cells #[.bool na, .slice A n ca] 47)).alloc (.cells #[.bool nb, .slice B m cb] 47)).alloc (.cells #[.bool false, .slice none 0 0] 47)) := (((Ext.rfl' w).alloc' _).alloc' _).alloc' _
  have hk : ∀ w', Ext (((w.alloc (.cells #[.bool na, .slice A n ca] 47)).alloc (.cells #[.bool nb, .slice B m cb] 47)).alloc (.cells #[.bool false, .slice none 0 0] 47)) w' →
      w'.cell? ⟨w.heap.size, 0, none⟩ = some (.bool na) ∧ w'.cell? ⟨w.heap.size, 1, none⟩ = some (.slice A n ca) ∧ w'.cell? ⟨w.heap.size + 1, 0, none⟩ = some (.bool nb) ∧ w'.cell? ⟨w.heap.size + 1, 1, none⟩ = some (.slice B m cb) := by
    intro w' e
    have h1 := two_facts (W := w) (H := w.heap.size) (t := 47) (a := .bool na) (b := .slice A n ca) (Ext.step (((Ext.rfl' _).alloc' _).alloc' _) e) rfl
    have h2 := two_facts (W := (w.alloc (.cells #[.bool na, .slice A n ca] 47))) (H := w.heap.size + 1) (t := 47) (a := .bool nb) (b := .slice B m cb) (Ext.step ((Ext.rfl' _).alloc' _) e) (by simp)
    exact ⟨h1.1, h1.2.1, h2.1, h2.2.1⟩
  have ht : ∀ w', Ext (((w.alloc (.cells #[.bool na, .slice A n ca] 47)).alloc (.cells #[.bool nb, .slice B m cb] 47)).alloc (.cells #[.bool false, .slice none 0 0] 47)) w' → _ :=
    fun w' e => two_facts (H := w.heap.size + 1 + 1) e (by simp)
  have hmade := Row.made (((w.alloc (.cells #[.bool na, .slice A n ca] 47)).alloc (.cells #[.bool nb, .slice B m cb] 47)).alloc (.cells #[.bool false, .slice none 0 0] 47)) 3 (.int .i64 0) (n + m + 1)
  obtain ⟨W3, hW3e⟩ : ∃ W3, (((w.alloc (.cells #[.bool na, .slice A n ca] 47)).alloc (.cells #[.bool nb, .slice B m cb] 47)).alloc (.cells #[.bool false, .slice none 0 0] 47)) = W3 := ⟨_, rfl⟩
  have hsz : W3.heap.size = w.heap.size + 1 + 1 + 1 := by rw [← hW3e]; simp
  rw [hW3e] at hW3 hmade
  rw [hW3e] at hk ht
  rw [hsz, I64s_zeros] at hmade
  have HT := hid ht
  have HK := hid hk
  have HM := hid hmade
  have HSZ := hid hsz
  have HW3 := hid hW3
  have HE := hid hW3e
  clear hra hrb hla hlb hLa hLb hva hvb hW3 hk ht hmade hsz hW3e
  go_enter Tryz.func30, Tryz.ntmps30
  go_wp2
  rw [HE.out]
  go_loopw [6] (fun i wr => ∃ (k : Nat) (Os : List Nat), k ≤ n ∧ i = .int .i64 (k : Int) ∧ Row wr (w.heap.size + 1 + 1 + 1) 3 (I64s Os) ∧ Hid (Os.length = n + m + 1) ∧ Hid (∀ x ∈ Os, x < 1000000000) ∧
      Hid (K.lv Os = K.lv (xs.take k) * K.lv ys) ∧ Ext W3 wr) (fun i _ => n - (intOf i).toNat)
  case atStart => exact ⟨0, List.replicate (n + m + 1) 0, by omega, rfl, HM.out, hid (by simp), hid (by simp), hid (by rw [K.lv_zeros]; simp [K.lv]), (Ext.rfl' _).alloc' _⟩
  case round =>
    obtain ⟨i, Os, hi, rfl, hrow, HL, HB9, HV, hex⟩ := hrel
    by_cases hlt : i < n
    · obtain ⟨k0, k1, k2, k3⟩ := HK.out _ hex
      obtain ⟨ba, oa, x, eA, exx, hba, hx⟩ := ((HA.out.ext HW3.out).ext hex).at_ (k := i) (by rw [LA.out]; omega)
      subst eA
      have gx : x < 1000000000 := HX.out.1 x (mem_at exx)
      have EX := hid exx
      have HVI : Hid (K.lv Os + 1000000000 ^ (i + 0) * (0 + x * K.lv (ys.drop 0)) = K.lv (xs.take (i + 1)) * K.lv ys) := hid (by
        rw [lv_take_at exx, HV.out, Nat.add_mul, List.drop_zero, Nat.mul_assoc]; simp)
      clear exx hx hba
      obtain ⟨wo, rfl⟩ : ∃ wo : World, wo = wr := ⟨_, rfl⟩
      go_wp2
      go_loopw [7, 8, 9] (fun cz kz _ wr => ∃ (j cy : Nat) (Os : List Nat), j ≤ m + 1 ∧ cy < 1000000000 ∧ cz = .int .i64 (cy : Int) ∧ kz = .int .i64 (j : Int) ∧ Row wr (w.heap.size + 1 + 1 + 1) 3 (I64s Os) ∧ Hid (Os.length = n + m + 1) ∧ Hid (∀ x ∈ Os, x < 1000000000) ∧
          Hid (K.lv Os + 1000000000 ^ (i + j) * (cy + x * K.lv (ys.drop j)) = K.lv (xs.take (i + 1)) * K.lv ys) ∧ Ext W3 wr) (fun _ kz _ _ => m + 2 - (intOf kz).toNat)
      case atStart => exact ⟨0, 0, Os, by omega, by omega, rfl, rfl, hrow, HL, HB9, HVI, hex⟩
      case round =>
        obtain ⟨j, cy, Os2, hj, hcy, rfl, rfl, hrow2, HL2, HB2, HV2, hex2⟩ := hrel
        clear hrow hex k0 k1 k2 k3 HL HB9 HV HVI
        obtain ⟨k0, k1, k2, k3⟩ := HK.out _ hex2
        have hx : wr.cell? ⟨ba, oa + i, none⟩ = some (.int .i64 (x : Int)) := by
          obtain ⟨b', o', x', e', ex', hb', hx'⟩ := ((HA.out.ext HW3.out).ext hex2).at_ (k := i) (by rw [LA.out]; omega)
          cases e'
          rw [EX.out] at ex'
          cases ex'
          exact hx'
        have HRB := hid ((HB.out.ext HW3.out).ext hex2)
        by_cases hgo : j < m ∨ 0 < cy
        · have hp : i + j < n + m + 1 := by
            rcases hgo with h | h
            · omega
            · have := mul_place HV2.out h rfl (lv_lt' _ (fun z hz => HX.out.1 z (List.mem_of_mem_take hz))) (lv_lt' _ HY.out.1)
              rw [List.length_take, LB.out] at this
              omega
          have hj1 : j + 1 ≤ m + 1 := by
            rcases hgo with h | h
            · omega
            · have := mul_place HV2.out h rfl (lv_lt' _ (fun z hz => HX.out.1 z (List.mem_of_mem_take hz))) (lv_lt' _ HY.out.1)
              rw [List.length_take, LB.out] at this
              omega
          obtain ⟨o, ho⟩ : ∃ o, Os2.getD (i + j) 0 = o := ⟨_, rfl⟩
          obtain ⟨y, hy⟩ : ∃ y, ys.getD j 0 = y := ⟨_, rfl⟩
          have go_ : o < 1000000000 := by rw [← ho]; exact getD_lt HB2.out _
          have gy : y < 1000000000 := by rw [← hy]; exact getD_lt HY.out.1 _
          have hcell : wr.cell? ⟨w.heap.size + 1 + 1 + 1, i + j, none⟩ = some (.int .i64 (o : Int)) := by
            rw [hrow2.cell, ← ho]; exact I64s_at (at_of_getD (by rw [HL2.out]; exact hp))
          have hfree := hrow2.free (i + j)
          have HO := hid ho
          have HYJ := hid hy
          have hq : x * y ≤ 999999998000000001 := prod_lt gx gy
          obtain ⟨q, hq0⟩ : ∃ q, x * y = q := ⟨_, rfl⟩
          have hq1 : q ≤ 999999998000000001 := by omega
          have hqi : (x : Int) * (y : Int) = (q : Int) := by rw [← Int.natCast_mul, hq0]
          have HQ := hid hq0
          have HQI := hid hqi
          have hs : (o : Int) + (q : Int) + (cy : Int) = ((o + q + cy : Nat) : Int) := by omega
          have HNEW : Hid (K.lv (Os2.set (i + j) ((o + q + cy) % 1000000000)) + 1000000000 ^ (i + (j + 1)) * ((o + q + cy) / 1000000000 + x * K.lv (ys.drop (j + 1))) = K.lv (xs.take (i + 1)) * K.lv ys) := by
            refine hid ?_
            have e := HV2.out
            rw [lv_getD ys j, hy] at e
            exact mul_step (by rw [HL2.out]; exact hp) ho (by rw [hq0]) e
          have HNL : Hid ((Os2.set (i + j) ((o + q + cy) % 1000000000)).length = n + m + 1) := hid (by rw [List.length_set]; exact HL2.out)
          have HNB : Hid (∀ z ∈ Os2.set (i + j) ((o + q + cy) % 1000000000), z < 1000000000) := hid (set_lt HB2.out (Nat.mod_lt _ (by omega)))
          have hcy1 : (o + q + cy) / 1000000000 < 1000000000 := by omega
          have HS := hid hs
          clear ho hy hq hq0 hqi hs
          by_cases hjm : j < m
          · clear hgo
            go_wp2_with fail
            have q1 : IntKind.i64.wrap ((i : Int) + (j : Int)) = (i : Int) + (j : Int) := IntWalk.i64_in _ (by omega)
            have q2 : (0 : Int) ≤ (i : Int) + (j : Int) := by omega
            have q3 : ((i : Int) + (j : Int)).toNat = i + j := by omega
            have q4 : (i : Int) + (j : Int) < (n : Int) + (m : Int) + 1 := by omega
            have q5 : IntKind.i64.wrap ((x : Int) * (y : Int)) = (q : Int) := by rw [HQI.out]; exact IntWalk.i64_in _ (by omega)
            have q6 : IntKind.i64.wrap ((o : Int) + (q : Int)) = (o : Int) + (q : Int) := IntWalk.i64_in _ (by omega)
            have q7 : IntKind.i64.wrap ((o : Int) + (q : Int) + (cy : Int)) = ((o + q + cy : Nat) : Int) := by rw [HS.out]; exact IntWalk.i64_in _ (by omega)
            go_quiet ((go_at_call 82; exact Calls.quiet_of_same ((part_at B m cb ys j _ (HRB.out.drewN _) LB.out HYJ).mono fun _ _ h => ⟨h.1, h.2.symm⟩)))
            clear q1 q2 q3 q4 q5 q6 q7
            generalize hw1 : World.drewN wr _ = w1
            have hrow3 : Row w1 (w.heap.size + 1 + 1 + 1) 3 (I64s Os2) := by rw [← hw1]; exact hrow2.drewN _
            have hex3 : Ext W3 w1 := by rw [← hw1]; exact hex2.drewN _
            have hsp : i + j < Os2.length := by rw [HL2.out]; exact hp
            have hnew := I64s_put hrow3 (i + j) ((o + q + cy) % 1000000000)
            have hcell3 : w1.cell? ⟨w.heap.size + 1 + 1 + 1, i + j, none⟩ = some (.int .i64 (o : Int)) := by rw [← hw1]; exact hcell
            have hfree3 : w1.frozen? ⟨w.heap.size + 1 + 1 + 1, i + j, none⟩ = false := hrow3.free _
            have HNR := hid hnew
            obtain ⟨s, hs⟩ : ∃ s, o + q + cy = s := ⟨_, rfl⟩
            rw [hs] at HNR HNEW HNL HNB hcy1
            have hsb : s < 1000000000000000000 := by omega
            rw [show (o : Int) + (q : Int) + (cy : Int) = (s : Int) by omega]
            clear hw1 hcell hfree hrow2 hex2 hrow3 hnew hs HRB k0 k1 k2 k3 hx
            go_wp2
            go_roundw
            case rel => exact ⟨j + 1, s / 1000000000, Os2.set (i + j) (s % 1000000000), hj1, hcy1, by simp, by simp, by simpa using HNR.out, HNL, HNB, HNEW, hex3.set' (by rw [HSZ.out]; exact Nat.le_refl _) _⟩
            case measure => simp [intOf]; omega
          · have hcy0 : 0 < cy := by omega
            clear hgo
            go_wp2_with fail
            have q1 : IntKind.i64.wrap ((i : Int) + (j : Int)) = (i : Int) + (j : Int) := IntWalk.i64_in _ (by omega)
            have q2 : (0 : Int) ≤ (i : Int) + (j : Int) := by omega
            have q3 : ((i : Int) + (j : Int)).toNat = i + j := by omega
            have q4 : (i : Int) + (j : Int) < (n : Int) + (m : Int) + 1 := by omega
            have q5 : IntKind.i64.wrap ((x : Int) * (y : Int)) = (q : Int) := by rw [HQI.out]; exact IntWalk.i64_in _ (by omega)
            have q6 : IntKind.i64.wrap ((o : Int) + (q : Int)) = (o : Int) + (q : Int) := IntWalk.i64_in _ (by omega)
            have q7 : IntKind.i64.wrap ((o : Int) + (q : Int) + (cy : Int)) = ((o + q + cy : Nat) : Int) := by rw [HS.out]; exact IntWalk.i64_in _ (by omega)
            go_quiet ((go_at_call 82; exact Calls.quiet_of_same ((part_at B m cb ys j _ (HRB.out.drewN _) LB.out HYJ).mono fun _ _ h => ⟨h.1, h.2.symm⟩)))
            clear q1 q2 q3 q4 q5 q6 q7
            generalize hw1 : World.drewN wr _ = w1
            have hrow3 : Row w1 (w.heap.size + 1 + 1 + 1) 3 (I64s Os2) := by rw [← hw1]; exact hrow2.drewN _
            have hex3 : Ext W3 w1 := by rw [← hw1]; exact hex2.drewN _
            have hsp : i + j < Os2.length := by rw [HL2.out]; exact hp
            have hnew := I64s_put hrow3 (i + j) ((o + q + cy) % 1000000000)
            have hcell3 : w1.cell? ⟨w.heap.size + 1 + 1 + 1, i + j, none⟩ = some (.int .i64 (o : Int)) := by rw [← hw1]; exact hcell
            have hfree3 : w1.frozen? ⟨w.heap.size + 1 + 1 + 1, i + j, none⟩ = false := hrow3.free _
            have HNR := hid hnew
            obtain ⟨s, hs⟩ : ∃ s, o + q + cy = s := ⟨_, rfl⟩
            rw [hs] at HNR HNEW HNL HNB hcy1
            have hsb : s < 1000000000000000000 := by omega
            rw [show (o : Int) + (q : Int) + (cy : Int) = (s : Int) by omega]
            clear hw1 hcell hfree hrow2 hex2 hrow3 hnew hs HRB k0 k1 k2 k3 hx
            go_wp2
            go_roundw
            case rel => exact ⟨j + 1, s / 1000000000, Os2.set (i + j) (s % 1000000000), hj1, hcy1, by simp, by simp, by simpa using HNR.out, HNL, HNB, HNEW, hex3.set' (by rw [HSZ.out]; exact Nat.le_refl _) _⟩
            case measure => simp [intOf]; omega
        · have hjm : ¬ j < m := by omega
          obtain rfl : cy = 0 := by omega
          have HNV : Hid (K.lv Os2 = K.lv (xs.take (i + 1)) * K.lv ys) := hid (by
            have e := HV2.out
            rw [List.drop_of_length_le (by rw [LB.out]; omega)] at e
            simpa [K.lv] using e)
          clear hgo hx HRB HV2
          go_wp2
          go_roundw
          case rel => exact ⟨i + 1, Os2, by omega, by simp, hrow2, HL2, HB2, HNV, hex2⟩
          case measure => simp [intOf]; omega
    · obtain rfl : i = n := by omega
      obtain ⟨k0, k1, k2, k3⟩ := HK.out _ hex
      have hval : Hid (K.lv Os = (a * b).natAbs) := hid (by rw [HV.out, List.take_of_length_le (by rw [LA.out]; omega), VA.out, VB.out, Int.natAbs_mul])
      have HRD := hid hrow.rd0
      have hsg : Hid ((na != nb) = true → a * b ≤ 0) := hid (by
        intro h
        rw [HNA.out, HNB.out] at h
        by_cases h1 : a < 0 <;> by_cases h2 : b < 0 <;> simp [h1, h2] at h
        · exact Int.mul_nonpos_of_nonpos_of_nonneg (by omega) (by omega)
        · exact Int.mul_nonpos_of_nonneg_of_nonpos (by omega) (by omega))
      have hsg2 : Hid ((na != nb) = false → 0 ≤ a * b) := hid (by
        intro h
        rw [HNA.out, HNB.out] at h
        by_cases h1 : a < 0 <;> by_cases h2 : b < 0 <;> simp [h1, h2] at h
        · exact Int.mul_nonneg_of_nonpos_of_nonpos (by omega) (by omega)
        · exact Int.mul_nonneg (by omega) (by omega))
      obtain ⟨nn, hnn⟩ : ∃ nn, (na != nb) = nn := ⟨_, rfl⟩
      have HNN := hid hnn
      rw [hnn] at hsg hsg2
      clear hnn HV hrow
      go_wp2_with fail
      rw [show (!na == nb) = nn from HNN.out]
      refine (rtrim_any nn _ (i + m + 1) (i + m + 1) Os _ HRD.out HL.out (by omega) (by omega)).mono ?_
      rintro e w4 ⟨k4, b4, hk4, rfl, hb4, hcut, hx4⟩
      have hx4' := hex.step hx4
      obtain ⟨c0, c1, f0, f1, hl, _⟩ := HT.out _ hx4'
      have hfin : RefPost (a * b) w (.returned (.agg #[.bool b4, .slice (some ⟨w.heap.size + 1 + 1 + 1, 0, none⟩) k4 (i + m + 1)])) ((w4.setCell ⟨w.heap.size + 1 + 1, 0, none⟩ (.bool b4)).setCell ⟨w.heap.size + 1 + 1, 1, none⟩ (.slice (some ⟨w.heap.size + 1 + 1 + 1, 0, none⟩) k4 (i + m + 1))) := by
        have r := (HT.out _ hx4').2.2.2.2.2
        have e4 : Ext w w4 := HW3.out.step hx4'
        refine ⟨_, rfl, ⟨_, k4, _, Os.take k4, b4, rfl, ?_, by rw [List.length_take]; omega, by rw [HL.out] at hk4; omega, ?_, hcut.lim HB9.out, by rw [hcut.lv, hval.out]⟩, (e4.set' (by show _ ≤ w.heap.size + 1 + 1; omega) _).set' (by show _ ≤ w.heap.size + 1 + 1; omega) _⟩
        · refine hid ?_
          rw [hb4.out]
          have hz := (hcut.lim HB9.out).zero_iff
          rw [hcut.lv, hval.out] at hz
          have hk0 : Os.take k4 = [] ↔ k4 = 0 := by
            rw [← List.length_eq_zero_iff, List.length_take]; omega
          rw [hk0] at hz
          cases nn with
          | true =>
            have := hsg.out rfl
            by_cases h0 : a * b = 0
            · have : k4 = 0 := hz.1 (by rw [h0]; rfl)
              subst this; simp [h0]
            · have : ¬ k4 = 0 := fun e => h0 (by have := hz.2 e; omega)
              rw [decide_eq_true (by omega), decide_eq_true (by omega)]; rfl
          | false =>
            have := hsg2.out rfl
            rw [decide_eq_false (p := a * b < 0) (by omega)]; rfl
        · rw [show I64s (Os.take k4) = (I64s Os).take k4 from List.map_take ..]
          refine Rd.two ((HRD.out.ext hx4).take k4) ?_ r
          intro u hu
          obtain ⟨y, _, rfl⟩ := List.mem_map.1 (List.mem_of_mem_take hu)
          exact ⟨_, _, rfl⟩
      have HF := hid hfin
      clear hfin
      go_wp2
      refine bodyPost_ret (v := .agg #[.bool b4, .slice (some ⟨w.heap.size + 1 + 1 + 1, 0, none⟩) k4 (i + m + 1)]) (by simp [results, Tryz.results30, go_sem, c0, c1]) rfl HF.out
end Go.Proofs.YtleccblkafcidaaGreatDoor
/- the reference's Add, of any two numbers -/
namespace Go.Proofs.YtleccblkafcidaaGreatDoor
open Go.RowKit
theorem lim_len {xs ys : List Nat} (hx : K.Lim xs) (hy : K.Lim ys) (h : K.lv ys ≤ K.lv xs) : ys.length ≤ xs.length := by
  rcases Nat.lt_or_ge xs.length ys.length with hl | hl
  · have h1 := K.lv_lt xs hx.1
    have h2 := hy.ge (by intro e; subst e; simp at hl)
    have h3 : 1000000000 ^ xs.length ≤ 1000000000 ^ (ys.length - 1) := Nat.pow_le_pow_right (by omega) (by omega)
    omega
  · exact hl
theorem radd_any (va vb : Value) (a b : Int) (w : World) (ha : RefV w va a) (hb : RefV w vb b) (la : a.natAbs ≤ BIG) (lb : b.natAbs ≤ BIG) :
    Calls Tryz.prog 31 #[va, vb] w (RefPost (a + b) w) := by
  obtain ⟨A, ka, ca, xs, na, rfl, hna, hla, hca, hra, hLa, hva⟩ := ha
  obtain ⟨B, kb, cb, ys, nb, rfl, hnb, hlb, hcb, hrb, hLb, hvb⟩ := hb
  have l1 := len_of_big hLa (by omega)
  have l2 := len_of_big hLb (by omega)
  have hna := hna.out
  have hnb := hnb.out
  by_cases hs : na = nb
  · subst hs
    have hsg : (a < 0 ↔ b < 0) := by
      rw [hna] at hnb
      exact decide_eq_decide.1 hnb
    refine radd_same A B ka ca kb cb na xs ys (a + b) w hra hrb hla hlb hLa.1 hLb.1 (by omega) (by omega) (by omega) ?_
    rw [hna]
    by_cases h : a < 0
    · have := hsg.1 h
      rw [decide_eq_true h, decide_eq_true (by omega)]
    · have : ¬ b < 0 := fun e => h (hsg.2 e)
      rw [decide_eq_false h, decide_eq_false (by omega)]
  · have hsg : ¬ (a < 0 ↔ b < 0) := by
      intro e
      apply hs
      rw [hna, hnb]
      exact decide_eq_decide.2 e
    have hcv : (if ka = kb then cmpL xs ys else sgn ka kb) = sgn (K.lv xs) (K.lv ys) := by
      subst hla hlb; exact cmp_val hLa hLb
    rcases Nat.lt_or_ge (K.lv xs) (K.lv ys) with h | h
    · refine radd_lt A B ka ca kb cb na nb xs ys (a + b) w hra hrb hla hlb hLa.1 hLb.1 (by omega) (by omega) hs (by omega) (by have := lim_len hLb hLa (by omega); omega) (-1) (hid ?_) (by omega) (by omega) ?_
      · rw [hcv]; unfold sgn; rw [if_pos h]
      · intro h0
        rw [hnb]
        exact decide_eq_decide.2 (by omega)
    · refine radd_ge A B ka ca kb cb na nb xs ys (a + b) w hra hrb hla hlb hLa.1 hLb.1 (by omega) (by omega) hs h (by have := lim_len hLa hLb h; omega) (sgn (K.lv xs) (K.lv ys)) (hid hcv) (by unfold sgn; rw [if_neg (by omega)]; split <;> omega) (by omega) ?_
      intro h0
      rw [hna]
      exact decide_eq_decide.2 (by omega)
end Go.Proofs.YtleccblkafcidaaGreatDoor
/- the reference's Sub -/
namespace Go.Proofs.YtleccblkafcidaaGreatDoor
open Go.RowKit
set_option maxRecDepth 100000 in
set_option maxHeartbeats 1600000 in
theorem rsub_any (va vb : Value) (a b : Int) (w : World) (ha0 : RefV w va a) (hb0 : RefV w vb b) (la : a.natAbs ≤ BIG) (lb : b.natAbs ≤ BIG) :
    Calls Tryz.prog 33 #[va, vb] w (RefPost (a - b) w) := by
  have ha1 := ha0
  have hb1 := hb0
  obtain ⟨A, ka, ca, xs, na, rfl, -⟩ := ha0
  obtain ⟨B, kb, cb, ys, nb, rfl, -⟩ := hb0
  have HA := hid ha1
  have HB := hid hb1
  have LA := hid la
  have LB := hid lb
  clear ha1 hb1 la lb
  have hW2 : Ext w ((w.alloc (.cells #[.bool na, .slice A ka ca] 47)).alloc (.cells #[.bool nb, .slice B kb cb] 47)) := ((Ext.rfl' w).alloc' _).alloc' _
  have hW3 : Ext w (((w.alloc (.cells #[.bool na, .slice A ka ca] 47)).alloc (.cells #[.bool nb, .slice B kb cb] 47)).alloc (.cells #[.bool false, .slice none 0 0] 47)) := hW2.alloc' _
  have hk : ∀ w', Ext (((w.alloc (.cells #[.bool na, .slice A ka ca] 47)).alloc (.cells #[.bool nb, .slice B kb cb] 47)).alloc (.cells #[.bool false, .slice none 0 0] 47)) w' →
      w'.cell? ⟨w.heap.size, 0, none⟩ = some (.bool na) ∧ w'.cell? ⟨w.heap.size, 1, none⟩ = some (.slice A ka ca) ∧ w'.cell? ⟨w.heap.size + 1, 0, none⟩ = some (.bool nb) ∧ w'.cell? ⟨w.heap.size + 1, 1, none⟩ = some (.slice B kb cb) := by
    intro w' e
    have h1 := two_facts (W := w) (H := w.heap.size) (t := 47) (a := .bool na) (b := .slice A ka ca) (Ext.step (((Ext.rfl' _).alloc' _).alloc' _) e) rfl
    have h2 := two_facts (W := (w.alloc (.cells #[.bool na, .slice A ka ca] 47))) (H := w.heap.size + 1) (t := 47) (a := .bool nb) (b := .slice B kb cb) (Ext.step ((Ext.rfl' _).alloc' _) e) (by simp)
    exact ⟨h1.1, h1.2.1, h2.1, h2.2.1⟩
  have ht : ∀ w', Ext (((w.alloc (.cells #[.bool na, .slice A ka ca] 47)).alloc (.cells #[.bool nb, .slice B kb cb] 47)).alloc (.cells #[.bool false, .slice none 0 0] 47)) w' → _ :=
    fun w' e => two_facts (H := w.heap.size + 1 + 1) e (by simp)
  have HT := hid ht
  have hne1 : ¬ (w.heap.size + 1 + 1 = w.heap.size) := by omega
  have hne2 : ¬ (w.heap.size = w.heap.size + 1 + 1) := by omega
  have HK := hid hk
  have HW3 := hid hW3
  have HW2 := hid hW2
  clear hk hW3 hW2 ht
  go_enter Tryz.func33, Tryz.ntmps33
  go_wp2_with fail
  go_region_held3 (fun w' => w'.cell? ⟨w.heap.size, 0, none⟩ = some (.bool na) ∧ w'.cell? ⟨w.heap.size, 1, none⟩ = some (.slice A ka ca) ∧ w'.cell? ⟨w.heap.size + 1, 0, none⟩ = some (.bool nb) ∧ w'.cell? ⟨w.heap.size + 1, 1, none⟩ = some (.slice B kb cb))
    (first | go_keep | exact HK.out _ hx4' | exact HK.out _ hx3')
    (first
      | (go_at_call 81; refine (rminus_any _ b _ (HB.out.ext ?_)).mono ?_; (first | exact HW3.out | exact HW3.out.drew'); rintro e w3 ⟨v3, rfl, hv3, hx3⟩; have hx3' := Ext.undrew hx3; have HV3 := hid hv3; obtain ⟨A3, k3, c3', zs, n3, rfl, -⟩ := hv3)
      | (go_at_call 31; refine (radd_any _ _ a (-b) _ (HA.out.ext ?_) (HV3.out.ext ?_) LA.out (by rw [Int.natAbs_neg]; exact LB.out)).mono ?_; (first | exact HW3.out.step hx3' | exact (HW3.out.step hx3').drew'); (first | exact Ext.rfl' _ | exact (Ext.rfl' _).drew'); rintro e w4 ⟨v4, rfl, hv4, hx4⟩; have hx4' := Ext.step hx3' (by first | exact hx4 | exact Ext.undrew hx4); have HV4 := hid hv4; obtain ⟨A4, k4, c4', zs4, n4, rfl, hn4, z1, z2, z4, z5, z6⟩ := hv4; obtain ⟨c0, c1, f0, f1, hl, _⟩ := HT.out _ hx4'))
  have hfin : RefPost (a - b) w (.returned (.agg #[.bool n4, .slice A4 k4 c4'])) ((w4.setCell ⟨w.heap.size + 1 + 1, 0, none⟩ (.bool n4)).setCell ⟨w.heap.size + 1 + 1, 1, none⟩ (.slice A4 k4 c4')) := by
    have r := (HT.out _ hx4').2.2.2.2.2
    have e4 : Ext w w4 := HW3.out.step hx4'
    rw [← Int.sub_eq_add_neg] at hn4 z6
    exact ⟨_, rfl, ⟨A4, k4, c4', zs4, n4, rfl, hn4, z1, z2, RefV.two z4 r, z5, z6⟩, (e4.set' (by show _ ≤ w.heap.size + 1 + 1; omega) _).set' (by show _ ≤ w.heap.size + 1 + 1; omega) _⟩
  have HF := hid hfin
  clear hfin
  go_wp2
  refine bodyPost_ret (v := .agg #[.bool n4, .slice A4 k4 c4']) (by simp [results, Tryz.results33, go_sem, c0, c1]) rfl HF.out
end Go.Proofs.YtleccblkafcidaaGreatDoor
/- the reference's Sign; Parse of a valid text -/
namespace Go.Proofs.YtleccblkafcidaaGreatDoor
open Go.RowKit
def sgn0 (n : Int) : Int := if n = 0 then 0 else if n < 0 then -1 else 1
set_option maxRecDepth 100000 in
theorem rsign_any (v : Value) (n : Int) (w : World) (h : RefV w v n) :
    Calls Tryz.prog 35 #[v] w (fun e w' => e = .returned (.int .i64 (sgn0 n)) ∧ Ext w w') := by
  obtain ⟨A, k, c, xs, b, rfl, hb, hl, hc, hr, hL, hv⟩ := h
  have hk : k = 0 ↔ n = 0 := by
    have := hL.zero_iff
    rw [hv, ← List.length_eq_zero_iff, hl] at this
    rw [← this]; omega
  have HB := hb
  clear hb hr hL hv hl
  by_cases h0 : n = 0
  · have hk0 := hk.2 h0
    subst hk0 h0
    clear hk HB
    go_enter Tryz.func35, Tryz.ntmps35
    go_wp2
    go_ret
    exact ⟨rfl, (Ext.rfl' w).alloc' _⟩
  · have hk0 : ¬ k = 0 := fun e => h0 (hk.1 e)
    clear hk
    by_cases hn : n < 0
    · have hs : Hid (sgn0 n = -1) := hid (by unfold sgn0; rw [if_neg h0, if_pos hn])
      obtain rfl : b = true := by rw [HB.out]; exact decide_eq_true hn
      clear h0 hn HB
      have HF : Hid (∀ w', Ext w w' → (Ending.returned (.int .i64 (-1)) = .returned (.int .i64 (sgn0 n)) ∧ Ext w w')) := hid fun w' h => ⟨by rw [hs.out], h⟩
      go_enter Tryz.func35, Tryz.ntmps35
      go_wp2
      go_ret
      exact HF.out _ ((Ext.rfl' w).alloc' _)
    · have hs : Hid (sgn0 n = 1) := hid (by unfold sgn0; rw [if_neg h0, if_neg hn])
      obtain rfl : b = false := by rw [HB.out]; exact decide_eq_false hn
      clear h0 hn HB
      have HF : Hid (∀ w', Ext w w' → (Ending.returned (.int .i64 1) = .returned (.int .i64 (sgn0 n)) ∧ Ext w w')) := hid fun w' h => ⟨by rw [hs.out], h⟩
      go_enter Tryz.func35, Tryz.ntmps35
      go_wp2
      go_ret
      exact HF.out _ ((Ext.rfl' w).alloc' _)
theorem valid_len {l : List UInt8} (h : K.validL l = true) : l.length ≤ 2001 := by
  rw [← (K.txt_numL l h).1]; exact K.txt_len _ (K.txt_numL l h).2
theorem parse_any (l : List UInt8) (w : World) (hv : K.validL l = true) :
    Calls Tryz.prog 25 #[.string (Str l)] w (RefPost (K.numL l) w) := by
  obtain ⟨hd, hlen, hpos⟩ := body_all hv
  obtain ⟨hval, hll⟩ := body_val hv
  have hln := valid_len hv
  have hS := Str_size l
  by_cases hn : K.numL l < 0
  · have hh : l.head? = some 45 := by
      have := (K.head_txt (K.numL l)).2 hn
      rwa [(K.txt_numL l hv).1] at this
    obtain ⟨r, rfl⟩ : ∃ r, l = 45 :: r := by
      cases l with
      | nil => simp at hh
      | cons x r => exact ⟨r, by simp at hh; rw [hh]⟩
    have hb : K.body (45 :: r) = r := rfl
    rw [hb] at hd hlen hpos hval
    obtain ⟨h0, e0⟩ := Str_at (l := 45 :: r) (i := 0) (c := 45) rfl
    exact parse_neg (45 :: r) _ w hln (by simp; omega) h0 (by rw [e0]; rfl) (hid hd) (hid hval) (hid hn)
  · have hh : ¬ l.head? = some 45 := by
      intro e
      apply hn
      have := (K.head_txt (K.numL l)).1
      rw [(K.txt_numL l hv).1] at this
      exact this e
    have hb : K.body l = l := by unfold K.body; rw [if_neg hh]
    rw [hb] at hd hlen hpos hval
    cases l with
    | nil => simp at hpos
    | cons x r =>
      obtain ⟨h0, e0⟩ := Str_at (l := x :: r) (i := 0) (c := x) rfl
      exact parse_pos (x :: r) _ w hln hpos h0 (by rw [e0]; exact ne_lit (c := x) (d := 45) (fun e => hh (by subst e; rfl))) (hid hd) (hid hval) (hid (by omega))
end Go.Proofs.YtleccblkafcidaaGreatDoor
/- the reference's Cmp -/
namespace Go.Proofs.YtleccblkafcidaaGreatDoor
open Go.RowKit
theorem sgn0_lt {a b : Int} (h : ¬ sgn0 a = sgn0 b) : (sgn0 a < sgn0 b → sgnI a b = -1) ∧ (¬ sgn0 a < sgn0 b → sgnI a b = 1) := by
  unfold sgn0 at *; unfold sgnI
  repeat' (split at h)
  all_goals (constructor <;> intro h2 <;> simp_all <;> omega)
theorem sgn0_eq {a b : Int} (h : sgn0 a = sgn0 b) : (a < 0 → sgn b.natAbs a.natAbs = sgnI a b) ∧ (¬ a < 0 → sgn a.natAbs b.natAbs = sgnI a b) := by
  have h2 : (a < 0 ↔ b < 0) ∧ (a = 0 ↔ b = 0) := by
    unfold sgn0 at h
    repeat' (split at h)
    all_goals (constructor <;> omega)
  unfold sgn sgnI
  constructor <;> intro h3 <;> (repeat' split) <;> omega
set_option maxRecDepth 100000 in
set_option maxHeartbeats 1600000 in
theorem rcmp_any (va vb : Value) (a b : Int) (w : World) (ha : RefV w va a) (hb : RefV w vb b) (la : a.natAbs ≤ BIG) (lb : b.natAbs ≤ BIG) :
    Calls Tryz.prog 34 #[va, vb] w (fun e w' => e = .returned (.int .i64 (sgnI a b)) ∧ Ext w w') := by
  have HA := hid ha
  have HB := hid hb
  obtain ⟨A, ka, ca, xs, na, rfl, HNA, hla, hca, hra, hLa, hva⟩ := ha
  obtain ⟨B, kb, cb, ys, nb, rfl, HNB, hlb, hcb, hrb, hLb, hvb⟩ := hb
  have l1 := len_of_big hLa (by omega)
  have l2 := len_of_big hLb (by omega)
  have bka : ka ≤ 1000000 := by omega
  have bkb : kb ≤ 1000000 := by omega
  have hW2 : Ext w ((w.alloc (.cells #[.bool na, .slice A ka ca] 47)).alloc (.cells #[.bool nb, .slice B kb cb] 47)) := ((Ext.rfl' w).alloc' _).alloc' _
  have hk : ∀ w', Ext ((w.alloc (.cells #[.bool na, .slice A ka ca] 47)).alloc (.cells #[.bool nb, .slice B kb cb] 47)) w' →
      w'.cell? ⟨w.heap.size, 0, none⟩ = some (.bool na) ∧ w'.cell? ⟨w.heap.size, 1, none⟩ = some (.slice A ka ca) ∧ w'.cell? ⟨w.heap.size + 1, 0, none⟩ = some (.bool nb) ∧ w'.cell? ⟨w.heap.size + 1, 1, none⟩ = some (.slice B kb cb) := fun w' e => boxes e
  obtain ⟨W2, hW2e⟩ : ∃ W2, ((w.alloc (.cells #[.bool na, .slice A ka ca] 47)).alloc (.cells #[.bool nb, .slice B kb cb] 47)) = W2 := ⟨_, rfl⟩
  rw [hW2e] at hW2
  rw [hW2e] at hk
  have HK := hid hk
  have HW2 := hid hW2
  have HE := hid hW2e
  have hcur : Ext W2 W2 := Ext.rfl' _
  have SAB := hid (cmp_val hLa hLb)
  have SBA := hid (cmp_val hLb hLa)
  have LA := hid hla
  have LB := hid hlb
  have VA := hid hva
  have VB := hid hvb
  have RA := hid hra
  have RB := hid hrb
  clear hW2e hW2 hk hra hrb hLa hLb hva hvb l1 l2 hla hlb
  obtain ⟨sa, hsa⟩ : ∃ sa, sgn0 a = sa := ⟨_, rfl⟩
  obtain ⟨sb, hsb⟩ : ∃ sb, sgn0 b = sb := ⟨_, rfl⟩
  have CA : Hid (∀ W, Ext W2 W → Calls Tryz.prog 35 #[.agg #[.bool na, .slice A ka ca]] W (fun e w' => e = .returned (.int .i64 sa) ∧ Ext W w')) :=
    hid fun W h => by rw [← hsa]; exact rsign_any _ a _ ((HA.out.ext HW2.out).ext h)
  have CB : Hid (∀ W, Ext W2 W → Calls Tryz.prog 35 #[.agg #[.bool nb, .slice B kb cb]] W (fun e w' => e = .returned (.int .i64 sb) ∧ Ext W w')) :=
    hid fun W h => by rw [← hsb]; exact rsign_any _ b _ ((HB.out.ext HW2.out).ext h)
  by_cases hs : sa = sb
  · subst hs
    have hq : (sa == sa) = true := by simp
    have HSE := hid (sgn0_eq (hsa.trans hsb.symm))
    clear hsa hsb
    cases na with
    | true =>
      have hn : a < 0 := by have := HNA.out; simpa using this.symm
      have HF : Hid ((if kb = ka then cmpL ys xs else sgn kb ka) = sgnI a b) := hid (by
        have e := SBA.out
        rw [LA.out, LB.out, VA.out, VB.out] at e
        rw [e]; exact HSE.out.1 hn)
      clear hn
      go_enter Tryz.func34, Tryz.ntmps34
      go_wp2_with fail
      rw [HE.out]
      obtain ⟨k0, k1, k2, k3⟩ := HK.out _ hcur
      go_region_held3 (fun w' => w'.cell? ⟨w.heap.size, 0, none⟩ = some (.bool true) ∧ w'.cell? ⟨w.heap.size, 1, none⟩ = some (.slice A ka ca) ∧ w'.cell? ⟨w.heap.size + 1, 0, none⟩ = some (.bool nb) ∧ w'.cell? ⟨w.heap.size + 1, 1, none⟩ = some (.slice B kb cb))
        (first | go_keep | exact HK.out _ hcur)
        (first
          | (go_at_call_of 35 (ca); refine (CA.out _ ?_).mono ?_; (first | exact hcur | exact hcur.drew'); rintro e w3 ⟨rfl, hx⟩; have hcur := Ext.step hcur (by first | exact hx | exact Ext.undrew hx))
          | (go_at_call_of 35 (cb); refine (CB.out _ ?_).mono ?_; (first | exact hcur | exact hcur.drew'); rintro e w3 ⟨rfl, hx⟩; have hcur := Ext.step hcur (by first | exact hx | exact Ext.undrew hx)))
      all_goals
        go_wp2_with fail
        obtain ⟨k0, k1, k2, k3⟩ := HK.out _ hcur
        go_wp2_with fail
        refine (size_any B A cb ca kb ka ys xs _ ((RB.out.ext HW2.out).ext hcur) ((RA.out.ext HW2.out).ext hcur) LB.out LA.out bkb bka).mono ?_
        rintro e w4 ⟨rfl, hdr⟩
        rw [HF.out]
        have HFIN : Hid (Ext w w4) := hid ((HW2.out.step hcur).step (by first | exact hdr.ext | exact Ext.undrew hdr.ext))
        go_wp2
        go_ret
        exact ⟨rfl, HFIN.out⟩
    | false =>
      have hn : ¬ a < 0 := by have := HNA.out; simpa using this.symm
      have HF : Hid ((if ka = kb then cmpL xs ys else sgn ka kb) = sgnI a b) := hid (by
        have e := SAB.out
        rw [LA.out, LB.out, VA.out, VB.out] at e
        rw [e]; exact HSE.out.2 hn)
      clear hn
      go_enter Tryz.func34, Tryz.ntmps34
      go_wp2_with fail
      rw [HE.out]
      obtain ⟨k0, k1, k2, k3⟩ := HK.out _ hcur
      go_region_held3 (fun w' => w'.cell? ⟨w.heap.size, 0, none⟩ = some (.bool false) ∧ w'.cell? ⟨w.heap.size, 1, none⟩ = some (.slice A ka ca) ∧ w'.cell? ⟨w.heap.size + 1, 0, none⟩ = some (.bool nb) ∧ w'.cell? ⟨w.heap.size + 1, 1, none⟩ = some (.slice B kb cb))
        (first | go_keep | exact HK.out _ hcur)
        (first
          | (go_at_call_of 35 (ca); refine (CA.out _ ?_).mono ?_; (first | exact hcur | exact hcur.drew'); rintro e w3 ⟨rfl, hx⟩; have hcur := Ext.step hcur (by first | exact hx | exact Ext.undrew hx))
          | (go_at_call_of 35 (cb); refine (CB.out _ ?_).mono ?_; (first | exact hcur | exact hcur.drew'); rintro e w3 ⟨rfl, hx⟩; have hcur := Ext.step hcur (by first | exact hx | exact Ext.undrew hx)))
      all_goals
        go_wp2_with fail
        obtain ⟨k0, k1, k2, k3⟩ := HK.out _ hcur
        go_wp2_with fail
        refine (size_any A B ca cb ka kb xs ys _ ((RA.out.ext HW2.out).ext hcur) ((RB.out.ext HW2.out).ext hcur) LA.out LB.out bka bkb).mono ?_
        rintro e w4 ⟨rfl, hdr⟩
        rw [HF.out]
        have HFIN : Hid (Ext w w4) := hid ((HW2.out.step hcur).step (by first | exact hdr.ext | exact Ext.undrew hdr.ext))
        go_wp2
        go_ret
        exact ⟨rfl, HFIN.out⟩
  · have hq : (sa == sb) = false := by simpa using hs
    have hne : ¬ sgn0 a = sgn0 b := by rw [hsa, hsb]; exact hs
    have HSL := hid (sgn0_lt hne)
    rw [hsa, hsb] at HSL
    clear hsa hsb hs hne
    by_cases hlt : sa < sb
    · have HF : Hid (sgnI a b = -1) := hid (HSL.out.1 hlt)
      go_enter Tryz.func34, Tryz.ntmps34
      go_wp2_with fail
      rw [HE.out]
      obtain ⟨k0, k1, k2, k3⟩ := HK.out _ hcur
      go_region_held3 (fun w' => w'.cell? ⟨w.heap.size, 0, none⟩ = some (.bool na) ∧ w'.cell? ⟨w.heap.size, 1, none⟩ = some (.slice A ka ca) ∧ w'.cell? ⟨w.heap.size + 1, 0, none⟩ = some (.bool nb) ∧ w'.cell? ⟨w.heap.size + 1, 1, none⟩ = some (.slice B kb cb))
        (first | go_keep | exact HK.out _ hcur)
        (first
          | (go_at_call_of 35 (ca); refine (CA.out _ ?_).mono ?_; (first | exact hcur | exact hcur.drew'); rintro e w3 ⟨rfl, hx⟩; have hcur := Ext.step hcur (by first | exact hx | exact Ext.undrew hx))
          | (go_at_call_of 35 (cb); refine (CB.out _ ?_).mono ?_; (first | exact hcur | exact hcur.drew'); rintro e w3 ⟨rfl, hx⟩; have hcur := Ext.step hcur (by first | exact hx | exact Ext.undrew hx)))
      all_goals
        go_wp2_with fail
        obtain ⟨k0, k1, k2, k3⟩ := HK.out _ hcur
        go_region_held3 (fun w' => w'.cell? ⟨w.heap.size, 0, none⟩ = some (.bool na) ∧ w'.cell? ⟨w.heap.size, 1, none⟩ = some (.slice A ka ca) ∧ w'.cell? ⟨w.heap.size + 1, 0, none⟩ = some (.bool nb) ∧ w'.cell? ⟨w.heap.size + 1, 1, none⟩ = some (.slice B kb cb))
          (first | go_keep | exact HK.out _ hcur)
          (first
            | (go_at_call_of 35 (ca); refine (CA.out _ ?_).mono ?_; (first | exact hcur | exact hcur.drew'); rintro e w3 ⟨rfl, hx⟩; have hcur := Ext.step hcur (by first | exact hx | exact Ext.undrew hx))
            | (go_at_call_of 35 (cb); refine (CB.out _ ?_).mono ?_; (first | exact hcur | exact hcur.drew'); rintro e w3 ⟨rfl, hx⟩; have hcur := Ext.step hcur (by first | exact hx | exact Ext.undrew hx)))
        all_goals
          have HCUR := hid hcur
          go_wp2
          go_ret
          exact ⟨by rw [HF.out]; rfl, by first | exact HW2.out.step HCUR.out | exact (HW2.out.step HCUR.out).drewN _⟩
    · have HF : Hid (sgnI a b = 1) := hid (HSL.out.2 hlt)
      go_enter Tryz.func34, Tryz.ntmps34
      go_wp2_with fail
      rw [HE.out]
      obtain ⟨k0, k1, k2, k3⟩ := HK.out _ hcur
      go_region_held3 (fun w' => w'.cell? ⟨w.heap.size, 0, none⟩ = some (.bool na) ∧ w'.cell? ⟨w.heap.size, 1, none⟩ = some (.slice A ka ca) ∧ w'.cell? ⟨w.heap.size + 1, 0, none⟩ = some (.bool nb) ∧ w'.cell? ⟨w.heap.size + 1, 1, none⟩ = some (.slice B kb cb))
        (first | go_keep | exact HK.out _ hcur)
        (first
          | (go_at_call_of 35 (ca); refine (CA.out _ ?_).mono ?_; (first | exact hcur | exact hcur.drew'); rintro e w3 ⟨rfl, hx⟩; have hcur := Ext.step hcur (by first | exact hx | exact Ext.undrew hx))
          | (go_at_call_of 35 (cb); refine (CB.out _ ?_).mono ?_; (first | exact hcur | exact hcur.drew'); rintro e w3 ⟨rfl, hx⟩; have hcur := Ext.step hcur (by first | exact hx | exact Ext.undrew hx)))
      all_goals
        go_wp2_with fail
        obtain ⟨k0, k1, k2, k3⟩ := HK.out _ hcur
        go_region_held3 (fun w' => w'.cell? ⟨w.heap.size, 0, none⟩ = some (.bool na) ∧ w'.cell? ⟨w.heap.size, 1, none⟩ = some (.slice A ka ca) ∧ w'.cell? ⟨w.heap.size + 1, 0, none⟩ = some (.bool nb) ∧ w'.cell? ⟨w.heap.size + 1, 1, none⟩ = some (.slice B kb cb))
          (first | go_keep | exact HK.out _ hcur)
          (first
            | (go_at_call_of 35 (ca); refine (CA.out _ ?_).mono ?_; (first | exact hcur | exact hcur.drew'); rintro e w3 ⟨rfl, hx⟩; have hcur := Ext.step hcur (by first | exact hx | exact Ext.undrew hx))
            | (go_at_call_of 35 (cb); refine (CB.out _ ?_).mono ?_; (first | exact hcur | exact hcur.drew'); rintro e w3 ⟨rfl, hx⟩; have hcur := Ext.step hcur (by first | exact hx | exact Ext.undrew hx)))
        all_goals
          have HCUR := hid hcur
          go_wp2
          go_ret
          exact ⟨by rw [HF.out]; rfl, by first | exact HW2.out.step HCUR.out | exact (HW2.out.step HCUR.out).drewN _⟩
end Go.Proofs.YtleccblkafcidaaGreatDoor
