/- a number is mapped by the linear map of its word as by Run -/
import Derived.Test.YtflgkijmbpcnfaaGreatDoorJG34
set_option linter.unusedSimpArgs false
set_option linter.unusedVariables false
namespace Go.Proofs.YtflgkijmbpcnfaaGreatDoor
open Go.RowKit
theorem word_snoc (m : Int) (us ad : List Int) (k : Nat) (x : Int) : wordI m us ad (k + 1) x = wordI m us ad k x ++ [orbN m us ad k x % m] := by
  unfold wordI; rw [List.range_succ, List.map_append]; rfl
theorem word_len (m : Int) (us ad : List Int) (k : Nat) (x : Int) : (wordI m us ad k x).length = k := by simp [wordI]
theorem word_B {m : Int} {us ad : List Int} {k : Nat} {x : Int} (hm : 0 < m) (hk : k ≤ 200) : wordB m (wordI m us ad k x) = true :=
  wordB_iff.2 ⟨by rw [word_len]; exact hk, fun r hr => by
    obtain ⟨i, -, rfl⟩ := List.mem_map.1 hr
    exact ⟨Int.emod_nonneg _ (by omega), Int.emod_lt_of_pos _ hm⟩⟩
theorem div_shift {m u a r q y : Int} (hy : y = m * q + r) (h : (u * r + a) % m = 0) : (u * y + a) % m = 0 := by
  subst hy
  rw [show u * (m * q + r) + a = (u * r + a) + m * (u * q) by rw [Int.mul_add, Int.mul_left_comm]; omega, Int.add_mul_emod_self_left]
  exact h
theorem step_mul {m : Int} {us ad : List Int} (hM : mapP m us ad) (y : Int) : stepI m us ad y * m = us.getD (y % m).toNat 0 * y + ad.getD (y % m).toNat 0 := by
  have hr := rOf_lt (m := m) (x := y) (by have := hM.1; omega)
  have hu := rule_at hM y
  have hd : (us.getD (rOf m y) 0 * y + ad.getD (rOf m y) 0) % m = 0 := div_shift (r := (rOf m y : Int)) (q := y / m) (by rw [hr.2]; exact (Int.mul_ediv_add_emod y m).symm) hu.2.2.2.2
  show (us.getD (rOf m y) 0 * y + ad.getD (rOf m y) 0) / m * m = _
  rw [Int.ediv_mul_cancel (Int.dvd_of_emod_eq_zero hd)]
  rfl
theorem lin_orb {m : Int} {us ad : List Int} (hM : mapP m us ad) (x : Int) : ∀ k : Nat, (lineI m us ad (wordI m us ad k x)).1 * x + (lineI m us ad (wordI m us ad k x)).2.1 = (lineI m us ad (wordI m us ad k x)).2.2 * orbN m us ad k x
  | 0 => by
    show (1 : Int) * x + 0 = 1 * x
    omega
  | k + 1 => by
    have ih := lin_orb hM x k
    have hs := step_mul hM (orbN m us ad k x)
    rw [word_snoc, lineI_snoc]
    show us.getD _ 0 * (lineI m us ad (wordI m us ad k x)).1 * x + (us.getD _ 0 * (lineI m us ad (wordI m us ad k x)).2.1 + ad.getD _ 0 * (lineI m us ad (wordI m us ad k x)).2.2) = (lineI m us ad (wordI m us ad k x)).2.2 * m * stepI m us ad (orbN m us ad k x)
    generalize lineI m us ad (wordI m us ad k x) = l at *
    generalize us.getD (orbN m us ad k x % m).toNat 0 = u at *
    generalize ad.getD (orbN m us ad k x % m).toNat 0 = a at *
    generalize stepI m us ad (orbN m us ad k x) = s at *
    generalize orbN m us ad k x = y at *
    obtain ⟨M, A, D⟩ := l
    simp only at ih ⊢
    have e1 : u * M * x + (u * A + a * D) = u * (M * x + A) + a * D := by rw [Int.mul_add, Int.mul_assoc, Int.add_assoc]
    rw [e1, ih, Int.mul_assoc, Int.mul_comm m s, hs, Int.mul_add, Int.mul_left_comm, Int.mul_comm a D]
theorem run_orb {m : Int} {us ad : List Int} (k : Nat) : ∀ (x : Int), none ∉ seqO m us ad k x → runO m us ad k x = some (orbN m us ad k x) := by
  induction k with
  | zero => intro x h; rfl
  | succ k ih =>
    intro x h
    rw [seqO] at h
    rw [runO_succ, orbN_cons]
    have ih2 := ih (stepI m us ad x)
    generalize fitsB (stepI m us ad x) = b at *
    cases b with
    | true =>
      rw [if_pos rfl] at h ⊢
      exact ih2 (fun h2 => h (List.mem_cons_of_mem _ h2))
    | false =>
      rw [if_neg (by simp)] at h
      exact absurd (List.mem_singleton.2 rfl) h
/-- what a run tells, where the word is told -/
def RunS (m : Int) (us ad : List Int) (k : Nat) (x : Int) : Prop := (K.fits (orbN m us ad k x) ∧ runO m us ad k x = some (orbN m us ad k x)) ∨ (¬ K.fits (orbN m us ad k x) ∧ runO m us ad k x = none)
theorem run_s {m : Int} {us ad : List Int} {k : Nat} {x : Int} (h : none ∉ seqO m us ad k x) : RunS m us ad (k + 1) x := by
  unfold RunS
  rw [runO_snoc, run_orb k x h, Option.bind_some]
  show (K.fits (stepI m us ad (orbN m us ad k x)) ∧ _) ∨ (¬ K.fits (stepI m us ad (orbN m us ad k x)) ∧ _)
  by_cases hf : K.fits (stepI m us ad (orbN m us ad k x))
  · exact .inl ⟨hf, by rw [if_pos (fitsB_yes hf)]; rfl⟩
  · exact .inr ⟨hf, by rw [if_neg (by rw [fitsB_no hf]; simp)]⟩
theorem run_n {m : Int} {us ad : List Int} {k : Nat} {x : Int} (h : none ∈ seqO m us ad k x) : runO m us ad (k + 1) x = none := by
  rw [runO_snoc, (seq_run m us ad k x).2 h]; rfl
/-- what Word tells -/
def WordS (m : Int) (us ad : List Int) (k : Nat) (x : Int) (ws : List Int) (f : Int) : Prop := (f = 0 ∧ ws = wordI m us ad k x ∧ RunS m us ad k x) ∨ (f = 3 ∧ runO m us ad k x = none)
theorem wordl_any (v : Value) (m : Int) (us ad : List Int) (l : List UInt8) (k : Nat) (w : World) (hv : MapV w v m us ad) (hlen : l.length ≤ 140737488351232) (hb1 : Hid (mapB m us ad = true)) (hb2 : Hid (K.validL l = true)) (hk : k ≤ 200) (ht : Tab w) :
    Calls Tryz.prog 37 #[v, .string (Str l), .int .i64 (k : Int)] w (fun e w' => ∃ A wn f ws, e = .returned (.tuple #[.slice A wn wn, .int .i64 f]) ∧ Rd w' A (Is ws) ∧ ws.length = wn ∧ wn ≤ 200 ∧ WordS m us ad k (K.numL l) ws f ∧ Ext w w') := by
  rcases k with - | k
  · refine (word_zero v m us ad l 0 w hv hlen hb1 hb2 rfl).mono ?_
    rintro e w' ⟨rfl, h2⟩
    exact ⟨_, _, _, [], rfl, Rd.nil _ _, rfl, by omega, .inl ⟨rfl, rfl, .inl ⟨(K.txt_numL l hb2.out).2, rfl⟩⟩, h2⟩
  · by_cases hn : none ∈ seqO m us ad k (K.numL l)
    · refine (word_size v m us ad l k w hv hlen hb1 hb2 hk ht (hid hn)).mono ?_
      rintro e w' ⟨rfl, h2⟩
      exact ⟨_, _, _, [], rfl, Rd.nil _ _, rfl, by omega, .inr ⟨rfl, run_n hn⟩, h2⟩
    · refine (word_ok v m us ad l k w hv hlen hb1 hb2 hk ht (hid hn)).mono ?_
      rintro e w' ⟨g, rfl, h1, -, h2⟩
      exact ⟨_, _, _, _, rfl, h1.rd0, word_len _ _ _ _ _, hk, .inl ⟨rfl, rfl, run_s hn⟩, h2⟩
theorem fits_mul {D y : Int} (hD : 0 < D) (h : K.fits (D * y)) : K.fits y := by
  unfold K.fits at *
  rw [Int.natAbs_mul] at h
  have h1 : 1 * y.natAbs ≤ D.natAbs * y.natAbs := Nat.mul_le_mul_right _ (by omega)
  omega
theorem applyl_yes (M A D N y : Int) (su sa sd : ByteArray) (ln : List UInt8) (sy : ByteArray) (w : World) (FM : K.fits M) (FA : K.fits A) (FD : K.fits D) (v3 : K.validL ln = true) (hN : K.numL ln = N) (ht : Tab w) (hd : 0 < D) (e : M * N + A = D * y) (hf : K.fits (D * y))
    (h1 : Hid (Str (K.txt M) = su)) (h2 : Hid (Str (K.txt A) = sa)) (h3 : Hid (Str (K.txt D) = sd)) (h4 : Hid (Str (K.txt y) = sy)) :
    Calls Tryz.prog 49 #[.agg #[.string su, .string sa, .string sd], .string (Str ln)] w (fun e w' => e = .returned (.tuple #[.string sy, .bool true, .int .i64 0]) ∧ Ext w w') := by
  obtain ⟨t3, f3⟩ := K.txt_numL ln v3
  have h := apply_yes M A D N w (hid FM) (hid FA) (hid FD) (hid (by rw [← hN]; exact f3)) ht hd (hid (by rw [e]; exact hf)) (by rw [e]; exact Int.mul_emod_right _ _)
  rw [e, Int.mul_ediv_cancel_left _ (by omega), h1.out, h2.out, h3.out, h4.out, ← hN, t3] at h
  exact h
theorem applyl_no (M A D N y : Int) (su sa sd : ByteArray) (ln : List UInt8) (w : World) (FM : K.fits M) (FA : K.fits A) (FD : K.fits D) (v3 : K.validL ln = true) (hN : K.numL ln = N) (ht : Tab w) (hd : 0 < D) (e : M * N + A = D * y) (hf : ¬ K.fits (D * y))
    (h1 : Hid (Str (K.txt M) = su)) (h2 : Hid (Str (K.txt A) = sa)) (h3 : Hid (Str (K.txt D) = sd)) :
    Calls Tryz.prog 49 #[.agg #[.string su, .string sa, .string sd], .string (Str ln)] w (fun e w' => e = .returned (.tuple #[.string ⟨#[]⟩, .bool false, .int .i64 3]) ∧ Ext w w') := by
  obtain ⟨t3, f3⟩ := K.txt_numL ln v3
  have h := apply_size M A D N w (hid FM) (hid FA) (hid FD) (hid (by rw [← hN]; exact f3)) ht hd (hid (by rw [e]; exact hf))
  rw [h1.out, h2.out, h3.out, ← hN, t3] at h
  exact h
end Go.Proofs.YtflgkijmbpcnfaaGreatDoor
