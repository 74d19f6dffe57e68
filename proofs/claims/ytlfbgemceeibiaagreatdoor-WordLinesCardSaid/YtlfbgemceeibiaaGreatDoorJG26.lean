/- one word, one rest; the reference's Alike at any two lists -/
import Derived.Test.YtlfbgemceeibiaaGreatDoorJG18
import Derived.Test.YtlfbgemceeibiaaGreatDoorJG17
set_option linter.unusedSimpArgs false
set_option linter.unusedVariables false
namespace Go.Proofs.YtlfbgemceeibiaaGreatDoor
open Go.RowKit
theorem dvd_of_cop {m D a : Int} (hc : Nat.gcd a.natAbs m.natAbs = 1) (h : (D * a) % m = 0) : ∃ E, D = E * m := by
  have h1 : m ∣ D * a := Int.dvd_of_emod_eq_zero h
  have h2 : m.natAbs ∣ D.natAbs * a.natAbs := by rw [← Int.natAbs_mul]; exact Int.natAbs_dvd_natAbs.2 h1
  have h3 : m.natAbs ∣ D.natAbs := Nat.Coprime.dvd_of_dvd_mul_right (by unfold Nat.Coprime; rw [Nat.gcd_comm]; exact hc) h2
  obtain ⟨E, hE⟩ := Int.natAbs_dvd_natAbs.1 h3
  exact ⟨E, by rw [hE, Int.mul_comm]⟩
theorem add_emod_zero {o d m : Int} (h : (o + d) % m = o % m) : d % m = 0 := by
  have h2 : (o + d - o) % m = 0 := by
    rw [Int.sub_emod, h, Int.sub_self]; rfl
  rwa [show o + d - o = d by omega] at h2
/-- two numbers of one word -/
theorem word_diff {m : Int} {us ad : List Int} (hM : mapP m us ad) (hR : regB m us = true) (k : Nat) : ∀ (ws : List Int), ws.length = k → (∀ r ∈ ws, 0 ≤ r ∧ r < m) → ∀ x y, IsWord m us ad ws x → IsWord m us ad ws y → ∃ D, y = x + D * m ^ k := by
  have hm : 0 < m := by have := hM.1; omega
  induction k with
  | zero => intro ws _ _ x y _ _; exact ⟨y - x, by rw [Int.pow_zero]; omega⟩
  | succ k ih =>
    intro ws hl hw x y hx hy
    rcases List.eq_nil_or_concat ws with rfl | ⟨p, r, rfl⟩
    · simp at hl
    · rw [List.concat_eq_append] at *
      have hp : p.length = k := by simpa using hl
      have pre : ∀ z, IsWord m us ad (p ++ [r]) z → IsWord m us ad p z := fun z hz i hi => by
        have := hz i (by simp; omega)
        rwa [List.getD_eq_getElem?_getD, List.getElem?_append_left hi, ← List.getD_eq_getElem?_getD] at this
      have lst : ∀ z, IsWord m us ad (p ++ [r]) z → orbN m us ad k z % m = r := fun z hz => by
        have := hz k (by simp; omega)
        rwa [List.getD_eq_getElem?_getD, List.getElem?_append_right (by omega), hp, Nat.sub_self] at this
      obtain ⟨D, hD⟩ := ih p hp (fun s hs => hw s (by simp [hs])) x y (pre x hx) (pre y hy)
      have ho := alike_orb (us := us) (ad := ad) hm k x D k (Nat.le_refl _)
      rw [← hD, Nat.sub_self, Int.pow_zero, Int.mul_one, growN_line k p hp (pre x hx)] at ho
      have hc := (line_cop hM hR p (fun s hs => hw s (by simp [hs]))).1
      have h1 : (orbN m us ad k x + D * (lineI m us ad p).1) % m = orbN m us ad k x % m := by
        rw [← ho, lst y hy, lst x hx]
      obtain ⟨E, hE⟩ := dvd_of_cop hc (add_emod_zero h1)
      exact ⟨E, by rw [hD, hE, Int.pow_succ, Int.mul_assoc, Int.mul_comm m]⟩
theorem word_mod {m : Int} {us ad : List Int} (hm : 0 < m) {ws : List Int} {x D : Int} (h : IsWord m us ad ws x) : IsWord m us ad ws (x + D * m ^ ws.length) := fun i hi => by
  rw [alike_rest hm ws.length x D i hi, h i hi]
/-- Terras -/
theorem word_iff {m : Int} {us ad : List Int} (hM : mapP m us ad) (hR : regB m us = true) {ws : List Int} (hw : ∀ r ∈ ws, 0 ≤ r ∧ r < m) {R : Int} (h0 : 0 ≤ R) (h1 : R < m ^ ws.length) (hI : IsWord m us ad ws R) (x : Int) : IsWord m us ad ws x ↔ x % m ^ ws.length = R := by
  have hm : 0 < m := by have := hM.1; omega
  constructor
  · intro hx
    obtain ⟨D, hD⟩ := word_diff hM hR ws.length ws rfl hw R x hI hx
    rw [hD, Int.add_mul_emod_self_right, Int.emod_eq_of_lt h0 h1]
  · intro hx
    have e : x = R + (x / m ^ ws.length) * m ^ ws.length := by
      have := Int.emod_add_mul_ediv x (m ^ ws.length)
      rw [hx, Int.mul_comm] at this
      exact this.symm
    rw [e]
    exact word_mod hm hI
theorem wordI_iff {m : Int} {us ad : List Int} {ws : List Int} {x : Int} : wordI m us ad ws.length x = ws ↔ IsWord m us ad ws x := by
  constructor
  · intro h i hi
    have h2 : (wordI m us ad ws.length x).getD i 0 = ws.getD i 0 := by rw [h]
    rw [← h2, List.getD_eq_getElem?_getD]
    unfold wordI
    rw [List.getElem?_map, List.getElem?_range hi]; rfl
  · intro h
    refine List.ext_getElem (word_len _ _ _ _ _) fun i h1 h2 => ?_
    have h3 := h i h2
    rw [List.getD_eq_getElem?_getD, List.getElem?_eq_getElem h2] at h3
    simp only [wordI, List.getElem_map, List.getElem_range]
    exact h3
set_option maxRecDepth 100000 in
set_option maxHeartbeats 1600000 in
theorem ralike_any (A B : Option Addr) (n c k d : Nat) (xs ys : List Int) (w : World) (ra : Rd w A (Is xs)) (rb : Rd w B (Is ys)) (hn : xs.length = n) (hk : ys.length = k) (hb : n ≤ 140737488351232) (hb2 : k ≤ 140737488351232) {b : Bool} (hb3 : Hid (b = true ↔ xs = ys)) :
    Calls Tryz.prog 22 #[.slice A n c, .slice B k d] w (fun e w' => e = .returned (.bool b) ∧ Ext w w') := by
  have HN := hid hn
  have HK := hid hk
  have HA := hid ra
  have HB := hid rb
  by_cases hnk : n = k
  case neg =>
    obtain rfl : b = false := by
      cases b with
      | false => rfl
      | true => exact absurd (by rw [← hn, ← hk, hb3.out.1 rfl]) hnk
    have q0 : ¬ ((n : Int) = (k : Int)) := by omega
    have q1 : ((n : Int) == (k : Int)) = false := beq_eq_false_iff_ne.2 q0
    have q2 : ((n : Int) != (k : Int)) = true := by rw [bne, q1]; rfl
    clear hn hk ra rb hb3
    go_enter Tryz.func22, Tryz.ntmps22
    go_wp2_with fail
    go_ret
    exact ⟨rfl, Ext.rfl' _⟩
  case pos =>
    subst hnk
    have hb4 : n ≤ 9223372036854775807 := by omega
    clear hn hk ra rb
    go_enter Tryz.func22, Tryz.ntmps22
    go_wp2_with fail
    go_loopw [5] (fun iz wr => ∃ j : Nat, j ≤ n ∧ iz = .int .i64 (j : Int) ∧ Hid (∀ i, i < j → xs.getD i 0 = ys.getD i 0) ∧ Ext w wr) (fun iz _ => n - (intOf iz).toNat)
    case atStart => exact ⟨0, by omega, rfl, hid (fun i hi => absurd hi (by omega)), Ext.rfl' _⟩
    case round =>
      obtain ⟨j, hj, rfl, HJ, hex⟩ := hrel
      by_cases hlt : j < n
      · obtain ⟨b1, o1, e1, -, hc1⟩ := (HA.out.ext hex).atI (k := j) (by rw [HN.out]; exact hlt)
        obtain ⟨b2, o2, e2, -, hc2⟩ := (HB.out.ext hex).atI (k := j) (by rw [HK.out]; exact hlt)
        subst e1 e2
        obtain ⟨u, hu⟩ : ∃ u, xs.getD j 0 = u := ⟨_, rfl⟩
        obtain ⟨v, hv⟩ : ∃ v, ys.getD j 0 = v := ⟨_, rfl⟩
        rw [hu] at hc1
        rw [hv] at hc2
        have HU := hid hu
        have HV := hid hv
        clear hu hv
        by_cases huv : u = v
        · subst huv
          go_wp2_with fail
          go_quiet (fail)
          have hex2 := hex.drewN nq
          go_wp2
          go_roundw
          case rel => exact ⟨j + 1, by omega, by simp, hid (fun i hi => by
            rcases Nat.lt_or_ge i j with h | h
            · exact HJ.out i h
            · obtain rfl : i = j := by omega
              rw [HU.out, HV.out]), hex2⟩
          case measure => simp [intOf]; omega
        · obtain rfl : b = false := by
            cases b with
            | false => rfl
            | true => exact absurd (by rw [← HU.out, ← HV.out, hb3.out.1 rfl]) huv
          have q1 : (u == v) = false := beq_eq_false_iff_ne.2 huv
          have q2 : (u != v) = true := by rw [bne, q1]; rfl
          go_wp2_with fail
          go_quiet (fail)
          have hex2 := hex.drewN nq
          have HX := hid hex2
          go_wp2
          go_ret
          exact ⟨rfl, HX.out⟩
      · have HX := hid hex
        obtain rfl : j = n := by omega
        obtain rfl : b = true := hb3.out.2 (List.ext_getElem (by rw [HN.out, HK.out]) fun i h1 h2 => by
          have := HJ.out i (by rw [← HN.out]; exact h1)
          rwa [List.getD_eq_getElem?_getD, List.getElem?_eq_getElem h1, List.getD_eq_getElem?_getD, List.getElem?_eq_getElem h2] at this)
        go_wp2
        go_ret
        exact ⟨rfl, HX.out⟩
end Go.Proofs.YtlfbgemceeibiaaGreatDoor
