/- the mathematics of the law SieveAll -/
import Derived.Test.YtleccblkafcidaaGreatDoorJG25
import Derived.Test.YtleccblkafcidaaGreatDoorJG21
set_option linter.unusedSimpArgs false
set_option linter.unusedVariables false
namespace Go.Proofs.YtleccblkafcidaaGreatDoor
open Go.RowKit
theorem own_rd {w : World} {base e size n : Nat} {v : Value} {xs : List Value} (h : w.ownsRow base e size v n xs) : ∃ A c, v = .slice A n c ∧ Rd w A xs ∧ (0 < n → ∃ g, A = some ⟨g, 0, none⟩) := by
  have h2 := h
  obtain ⟨hl, hF⟩ := h
  rcases hF with ⟨rfl, rfl⟩ | ⟨g, c, u, rfl, hb, hh, h3, h4, h5, h6⟩
  · refine ⟨none, 0, rfl, .inl (List.eq_nil_of_length_eq_zero (by rw [hl]; simp)), fun h => absurd h (by omega)⟩
  · exact ⟨_, c, rfl, rd_own h2, fun _ => ⟨g, rfl⟩⟩
theorem Rd.fall {w : World} {g : Nat} {F : List (Int × Int)} {f : Int × Int → ByteArray × ByteArray × ByteArray × ByteArray} (h : Rd w (some ⟨g, 0, none⟩) (F.flatMap (encF f))) {j : Nat} {p : Int × Int} (hj : F[j]? = some p) :
    w.cell? ⟨g, j * 6, none⟩ = some (.int .i64 p.1) ∧ w.cell? ⟨g, j * 6 + 1, none⟩ = some (.int .i64 p.2) ∧ w.cell? ⟨g, j * 6 + 2, none⟩ = some (.string (f p).1) ∧ w.cell? ⟨g, j * 6 + 3, none⟩ = some (.string (f p).2.1) ∧ w.cell? ⟨g, j * 6 + 4, none⟩ = some (.string (f p).2.2.1) ∧ w.cell? ⟨g, j * 6 + 5, none⟩ = some (.string (f p).2.2.2) := by
  obtain ⟨hlt, hp⟩ := List.getElem?_eq_some_iff.1 hj
  have at_ : ∀ c, c < 6 → w.cell? ⟨g, j * 6 + c, none⟩ = some ((encF f p)[c]!) := fun c hc => by
    refine h.at0 (j * 6 + c) ?_
    rw [flat_at (encF f) (k := 6) (by omega) (fun _ => rfl), if_pos (by omega)]
    have e1 : (j * 6 + c) / 6 = j := by omega
    have e2 : (j * 6 + c) % 6 = c := by omega
    rw [e1, e2, getElem!_pos F j hlt, hp]
  exact ⟨at_ 0 (by omega), at_ 1 (by omega), at_ 2 (by omega), at_ 3 (by omega), at_ 4 (by omega), at_ 5 (by omega)⟩
theorem take_count {α : Type} {p : α → Bool} {l : List α} {j : Nat} {a : α} (h : l[j]? = some a) : (l.take (j + 1)).countP p = (l.take j).countP p + (if p a = true then 1 else 0) := by
  rw [List.take_add_one, h, List.countP_append]
  by_cases h2 : p a = true <;> simp [h2]
theorem take_le {α : Type} (p : α → Bool) (l : List α) (j : Nat) : (l.take j).countP p ≤ l.countP p := by
  conv => rhs; rw [← List.take_append_drop j l, List.countP_append]
  omega
/-- a fall that a number hits is its own -/
theorem all_hit {M : Nat} {us ad : List Int} (hM : mapP (M : Int) us ad) {X : Int} {k : Nat} {b : Bool} {fs fr : Int} {su sa sd sb : ByteArray} (hF : FindC (M : Int) us ad X k (FaV fs fr su sa sd sb) b) {p : Int × Int} (hp : p ∈ srtF (vis M us ad k k 0 0).1) (hh : hitP (M : Int) X p = true) :
    b = true ∧ p.1 = fs ∧ p.2 = fr ∧ fTxt (M : Int) us ad p = (su, sa, sd, sb) := by
  have hm : (0 : Int) < (M : Int) := by have := hM.1; omega
  rcases hF with ⟨rfl, i, i1, i2, i3, i4, e⟩ | ⟨rfl, -, n⟩
  · have h1 := ((hits_yes hM i1 i2 i3 i4).1 p hp).1 hh
    unfold FaV at e
    injection e with e
    injection e with e
    injection e with e1 e
    injection e with e2 e
    injection e with e3 e
    injection e with e4 e
    injection e with e5 e
    injection e with e6 e
    injection e1 with _ e1
    injection e2 with _ e2
    injection e3 with e3
    injection e4 with e4
    injection e5 with e5
    injection e6 with e6
    subst h1
    refine ⟨rfl, e1.symm, e2.symm, ?_⟩
    unfold fTxt
    have hc : lnX (M : Int) us ad (X % (M : Int) ^ i) i = lnX (M : Int) us ad X i := lnX_cg hm (rest_of_pow hm X (Nat.le_refl _))
    simp only [Int.toNat_natCast]
    rw [hc, e3, e4, e5, e6]
  · exact absurd hh ((hits_no hM n).1 p hp)
/-- how many falls and rests of a sieve a number has -/
theorem all_count {M : Nat} {us ad : List Int} (hM : mapP (M : Int) us ad) {X : Int} {k : Nat} {b : Bool} {v : Value} (hF : FindC (M : Int) us ad X k v b) :
    (srtF (vis M us ad k k 0 0).1).countP (hitP (M : Int) X) = (if b = true then 1 else 0) ∧ (srtI (vis M us ad k k 0 0).2).countP (fun x => decide (x = X % (M : Int) ^ k)) = (if b = true then 0 else 1) := by
  have hL := sieve_left hM k
  have hn := strict_nodup strict_I hL.1
  have hc := count_one (p := fun x => decide (x = X % (M : Int) ^ k)) hn (a := X % (M : Int) ^ k) (fun x _ => by simp)
  rcases hF with ⟨rfl, i, i1, i2, i3, i4, -⟩ | ⟨rfl, -, n⟩
  · obtain ⟨-, h2, h3⟩ := hits_yes hM i1 i2 i3 i4
    refine ⟨by rw [h2]; rfl, ?_⟩
    rw [hc, if_neg (fun h => h3 h.2)]; rfl
  · obtain ⟨h1, h2⟩ := hits_no hM n
    refine ⟨?_, ?_⟩
    · rw [List.countP_eq_zero.2 (fun p hp => h1 p hp)]; rfl
    · rw [hc, if_pos ⟨by simp, h2⟩]; rfl
/-- what a fall of the list is -/
theorem all_at {M : Nat} {us ad : List Int} (hM : mapP (M : Int) us ad) {k : Nat} {j : Nat} {p : Int × Int} (hj : (srtF (vis M us ad k k 0 0).1)[j]? = some p) :
    (∃ i : Nat, p.1 = (i : Int) ∧ 1 ≤ i ∧ i ≤ k) ∧ p ∈ srtF (vis M us ad k k 0 0).1 ∧ ∀ p', j ≠ 0 → (srtF (vis M us ad k k 0 0).1)[j - 1]? = some p' → (p'.1 < p.1 ∨ p'.1 = p.1 ∧ p'.2 < p.2) := by
  have hF := sieve_falls hM k
  have hm := List.mem_of_getElem? hj
  obtain ⟨i, e, i1, i2, -⟩ := (hF.2 p).1 hm
  exact ⟨⟨i, e, i1, i2⟩, hm, fun p' h0 hj' => strict_at hF.1 (show j - 1 < j by omega) hj' hj⟩
end Go.Proofs.YtleccblkafcidaaGreatDoor
