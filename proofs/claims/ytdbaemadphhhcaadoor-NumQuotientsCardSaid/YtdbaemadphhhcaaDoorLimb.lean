/- Plain mathematics of limb lists: what the loops compute. -/
import Derived.Test.YtdbaemadphhhcaaDoorNat
namespace Go.Proofs.YtdbaemadphhhcaaDoor
open K

theorem set_app {α : Type} (done rest : List α) (z v : α) (k : Nat) (hk : done.length = k) : (done ++ z :: rest).set k v = (done ++ [v]) ++ rest := by
  subst hk
  rw [List.set_append_right _ _ (Nat.le_refl _)]
  simp
theorem drop_at {α : Type} {xs : List α} {k : Nat} {x : α} (h : xs[k]? = some x) : xs.drop k = x :: xs.drop (k + 1) := by
  obtain ⟨hk, hx⟩ := List.getElem?_eq_some_iff.1 h
  rw [List.drop_eq_getElem_cons hk, hx]
theorem mem_at {α : Type} {xs : List α} {k : Nat} {x : α} (h : xs[k]? = some x) : x ∈ xs := List.mem_of_getElem? h
theorem zeros_succ {α : Type} (z : α) (m : Nat) : List.replicate (m + 1) z = z :: List.replicate m z := rfl

/-! ### sums -/
def addc : List Nat → List Nat → Nat → List Nat
  | x :: r, ys, c => (c + x + ys.headD 0) % 1000000000 :: addc r ys.tail ((c + x + ys.headD 0) / 1000000000)
  | [], _, c => [c]
theorem lv_addc : ∀ (xs ys : List Nat) (c : Nat), ys.length ≤ xs.length → lv (addc xs ys c) = lv xs + lv ys + c
  | [], [], c, _ => by simp [addc, lv]
  | x :: r, [], c, _ => by
    simp only [addc, List.headD_nil, List.tail_nil, lv]
    rw [lv_addc r [] _ (by simp)]
    simp only [lv]
    omega
  | x :: r, y :: s, c, h => by
    simp only [addc, List.headD_cons, List.tail_cons, lv]
    rw [lv_addc r s _ (by simpa using h)]
    omega
theorem addc_lt : ∀ (xs ys : List Nat) (c : Nat), (∀ x ∈ xs, x < 1000000000) → (∀ y ∈ ys, y < 1000000000) → c ≤ 1 → ∀ z ∈ addc xs ys c, z < 1000000000
  | [], ys, c, _, _, hc => by simp [addc]; omega
  | x :: r, ys, c, hx, hy, hc => by
    intro z hz
    simp only [addc, List.mem_cons] at hz
    have h1 := hx x (List.mem_cons_self ..)
    have h2 : ys.headD 0 < 1000000000 := by
      cases ys with
      | nil => simp
      | cons y s => simpa using hy y (List.mem_cons_self ..)
    rcases hz with rfl | hz
    · omega
    · exact addc_lt r ys.tail _ (fun y h => hx y (List.mem_cons_of_mem _ h)) (fun y h => hy y (List.mem_of_mem_tail h)) (by omega) z hz
theorem addc_len : ∀ (xs ys : List Nat) (c : Nat), (addc xs ys c).length = xs.length + 1
  | [], _, _ => by simp [addc]
  | x :: r, ys, c => by simp [addc, addc_len r]

/-! ### differences -/
def subb : List Nat → List Nat → Nat → List Nat
  | x :: r, ys, br => if x < br + ys.headD 0 then (x + 1000000000 - (br + ys.headD 0)) :: subb r ys.tail 1 else (x - (br + ys.headD 0)) :: subb r ys.tail 0
  | [], _, _ => []
theorem subb_yes {x : Nat} {r ys : List Nat} {br : Nat} (h : x < br + ys.headD 0) : subb (x :: r) ys br = (x + 1000000000 - (br + ys.headD 0)) :: subb r ys.tail 1 := by rw [subb, if_pos h]
theorem subb_no {x : Nat} {r ys : List Nat} {br : Nat} (h : ¬ x < br + ys.headD 0) : subb (x :: r) ys br = (x - (br + ys.headD 0)) :: subb r ys.tail 0 := by rw [subb, if_neg h]
theorem lv_subb : ∀ (xs ys : List Nat) (br : Nat), (∀ x ∈ xs, x < 1000000000) → (∀ y ∈ ys, y < 1000000000) → br ≤ 1 → lv ys + br ≤ lv xs → lv (subb xs ys br) + (lv ys + br) = lv xs
  | [], ys, br, _, _, _, h => by simp only [subb, lv] at *; omega
  | x :: r, [], br, hx, hy, hb, h => by
    have h1 := hx x (List.mem_cons_self ..)
    have hr := fun y h => hx y (List.mem_cons_of_mem x h)
    simp only [lv] at h
    by_cases hc : x < br + List.headD [] 0
    · rw [subb_yes hc]
      simp only [List.headD_nil, List.tail_nil] at hc ⊢
      have := lv_subb r [] 1 hr hy (by omega) (by simp only [lv]; omega)
      simp only [lv] at *; omega
    · rw [subb_no hc]
      simp only [List.headD_nil, List.tail_nil] at hc ⊢
      have := lv_subb r [] 0 hr hy (by omega) (by simp only [lv]; omega)
      simp only [lv] at *; omega
  | x :: r, y :: s, br, hx, hy, hb, h => by
    have h1 := hx x (List.mem_cons_self ..)
    have h2 := hy y (List.mem_cons_self ..)
    have hr := fun z h => hx z (List.mem_cons_of_mem x h)
    have hs := fun z h => hy z (List.mem_cons_of_mem y h)
    simp only [lv] at h
    by_cases hc : x < br + (y :: s).headD 0
    · rw [subb_yes hc]
      simp only [List.headD_cons, List.tail_cons] at hc ⊢
      have := lv_subb r s 1 hr hs (by omega) (by omega)
      simp only [lv] at *; omega
    · rw [subb_no hc]
      simp only [List.headD_cons, List.tail_cons] at hc ⊢
      have := lv_subb r s 0 hr hs (by omega) (by omega)
      simp only [lv] at *; omega
theorem subb_nil : ∀ (xs : List Nat), subb xs [] 0 = xs
  | [] => rfl
  | x :: r => by simp [subb, subb_nil r]
theorem subb_len : ∀ (xs ys : List Nat) (br : Nat), (subb xs ys br).length = xs.length
  | [], _, _ => rfl
  | x :: r, ys, br => by simp only [subb]; split <;> simp [subb_len r]
theorem subb_lt : ∀ (xs ys : List Nat) (br : Nat), (∀ x ∈ xs, x < 1000000000) → (∀ y ∈ ys, y < 1000000000) → br ≤ 1 → ∀ z ∈ subb xs ys br, z < 1000000000
  | [], ys, br, _, _, _ => by simp [subb]
  | x :: r, ys, br, hx, hy, hb => by
    intro z hz
    have h1 := hx x (List.mem_cons_self ..)
    have hr := fun z h => hx z (List.mem_cons_of_mem x h)
    have hs := fun z h => hy z (List.mem_of_mem_tail h)
    simp only [subb] at hz
    split at hz
    · rcases List.mem_cons.1 hz with rfl | hz
      · omega
      · exact subb_lt r ys.tail 1 hr hs (by omega) z hz
    · rcases List.mem_cons.1 hz with rfl | hz
      · omega
      · exact subb_lt r ys.tail 0 hr hs (by omega) z hz

/-! ### products -/
def rowm : List Nat → Nat → List Nat → Nat → List Nat
  | p :: ps, x, y :: ys, c => (c + (p + x * y)) % 1000000000 :: rowm ps x ys ((c + (p + x * y)) / 1000000000)
  | _, _, _, c => [c]
theorem lv_rowm : ∀ (ps : List Nat) (x : Nat) (ys : List Nat) (c : Nat), ps.length = ys.length → lv (rowm ps x ys c) = lv ps + x * lv ys + c
  | [], x, [], c, _ => by simp [rowm, lv]
  | p :: ps, x, y :: ys, c, h => by
    simp only [rowm, lv]
    rw [lv_rowm ps x ys _ (by simpa using h)]
    have e : x * (y + 1000000000 * lv ys) = x * y + 1000000000 * (x * lv ys) := by rw [Nat.mul_add, Nat.mul_left_comm]
    omega
theorem rowm_len : ∀ (ps : List Nat) (x : Nat) (ys : List Nat) (c : Nat), ps.length = ys.length → (rowm ps x ys c).length = ys.length + 1
  | [], x, [], c, _ => by simp [rowm]
  | p :: ps, x, y :: ys, c, h => by simp [rowm, rowm_len ps x ys _ (by simpa using h)]
theorem prod_lt {x y : Nat} (hx : x < 1000000000) (hy : y < 1000000000) : x * y ≤ 999999998000000001 :=
  Nat.le_trans (Nat.mul_le_mul (show x ≤ 999999999 by omega) (show y ≤ 999999999 by omega)) (by omega)
theorem rowm_lt : ∀ (ps : List Nat) (x : Nat) (ys : List Nat) (c : Nat), (∀ p ∈ ps, p < 1000000000) → x < 1000000000 → (∀ y ∈ ys, y < 1000000000) → c < 1000000000 → ∀ z ∈ rowm ps x ys c, z < 1000000000
  | [], x, ys, c, _, _, _, hc => by simp [rowm]; omega
  | p :: ps, x, [], c, _, _, _, hc => by simp [rowm]; omega
  | p :: ps, x, y :: ys, c, hp, hx, hy, hc => by
    intro z hz
    have h1 := hp p (List.mem_cons_self ..)
    have h2 := prod_lt hx (hy y (List.mem_cons_self ..))
    simp only [rowm, List.mem_cons] at hz
    rcases hz with rfl | hz
    · omega
    · exact rowm_lt ps x ys _ (fun z h => hp z (List.mem_cons_of_mem _ h)) hx (fun z h => hy z (List.mem_cons_of_mem _ h)) (by omega) z hz
def mulL : List Nat → List Nat → List Nat → List Nat
  | x :: r, ys, ps => (rowm ps x ys 0).headD 0 :: mulL r ys (rowm ps x ys 0).tail
  | [], _, ps => ps
theorem lv_split (l : List Nat) : lv l = l.headD 0 + 1000000000 * lv l.tail := by cases l <;> simp [lv]
theorem lv_mulL : ∀ (xs ys ps : List Nat), ps.length = ys.length → lv (mulL xs ys ps) = lv ps + lv xs * lv ys
  | [], ys, ps, _ => by simp [mulL, lv]
  | x :: r, ys, ps, h => by
    have hl := rowm_len ps x ys 0 h
    have h1 := lv_rowm ps x ys 0 h
    rw [lv_split] at h1
    simp only [mulL, lv]
    rw [lv_mulL r ys _ (by simp [hl]), Nat.add_mul, Nat.mul_add, Nat.mul_assoc]
    omega
theorem mulL_len : ∀ (xs ys ps : List Nat), ps.length = ys.length → (mulL xs ys ps).length = xs.length + ys.length
  | [], ys, ps, h => by simp [mulL, h]
  | x :: r, ys, ps, h => by
    have hl := rowm_len ps x ys 0 h
    simp [mulL, mulL_len r ys _ (by simp [hl] : (rowm ps x ys 0).tail.length = ys.length)]
    omega
theorem mulL_lt : ∀ (xs ys ps : List Nat), ps.length = ys.length → (∀ x ∈ xs, x < 1000000000) → (∀ y ∈ ys, y < 1000000000) → (∀ p ∈ ps, p < 1000000000) → ∀ z ∈ mulL xs ys ps, z < 1000000000
  | [], ys, ps, h, _, _, hp => by simpa [mulL] using hp
  | x :: r, ys, ps, h, hx, hy, hp => by
    have hl := rowm_len ps x ys 0 h
    have hq := rowm_lt ps x ys 0 hp (hx x (List.mem_cons_self ..)) hy (by omega)
    intro z hz
    simp only [mulL, List.mem_cons] at hz
    rcases hz with rfl | hz
    · cases hr : rowm ps x ys 0 with
      | nil => simp
      | cons a s => rw [hr] at hq; simpa using hq a (List.mem_cons_self ..)
    · exact mulL_lt r ys _ (by simp [hl]) (fun z h => hx z (List.mem_cons_of_mem _ h)) hy (fun z h => hq z (List.mem_of_mem_tail h)) z hz

/-! ### by a small number -/
def divS (d : Nat) : List Nat → List Nat × Nat
  | [] => ([], 0)
  | x :: r => (((divS d r).2 * 1000000000 + x) / d :: (divS d r).1, ((divS d r).2 * 1000000000 + x) % d)
theorem divS_lt (d : Nat) (hd : 0 < d) : ∀ xs, (divS d xs).2 < d
  | [] => by simpa [divS] using hd
  | x :: r => by simp only [divS]; exact Nat.mod_lt _ hd
theorem lv_divS (d : Nat) (hd : 0 < d) : ∀ xs, d * lv (divS d xs).1 + (divS d xs).2 = lv xs
  | [] => by simp [divS, lv]
  | x :: r => by
    have ih := lv_divS d hd r
    have h := Nat.div_add_mod ((divS d r).2 * 1000000000 + x) d
    simp only [divS, lv, Nat.mul_add]
    rw [Nat.mul_left_comm d 1000000000]
    omega
theorem divS_len (d : Nat) : ∀ xs, (divS d xs).1.length = xs.length
  | [] => rfl
  | x :: r => by simp [divS, divS_len d r]
theorem divS_limbs (d : Nat) (hd : 0 < d) : ∀ xs, (∀ x ∈ xs, x < 1000000000) → ∀ z ∈ (divS d xs).1, z < 1000000000
  | [], _ => by simp [divS]
  | x :: r, hx => by
    intro z hz
    have h1 := hx x (List.mem_cons_self ..)
    have h2 := divS_lt d hd r
    simp only [divS, List.mem_cons] at hz
    rcases hz with rfl | hz
    · rw [Nat.div_lt_iff_lt_mul hd]
      have h3 : (divS d r).2 * 1000000000 ≤ (d - 1) * 1000000000 := Nat.mul_le_mul_right _ (by omega)
      have h4 : (d - 1) * 1000000000 + 1000000000 = d * 1000000000 := by
        rw [← Nat.succ_mul]; congr 1; omega
      omega
    · exact divS_limbs d hd r (fun z h => hx z (List.mem_cons_of_mem _ h)) z hz

/-! ### times a limb, in so many limbs -/
def scl : List Nat → Nat → Nat → Nat → List Nat
  | xs, l, n + 1, c => (c + xs.headD 0 * l) % 1000000000 :: scl xs.tail l n ((c + xs.headD 0 * l) / 1000000000)
  | _, _, 0, _ => []
theorem lv_scl : ∀ (n : Nat) (xs : List Nat) (l c : Nat), lv (scl xs l n c) = (lv xs * l + c) % 1000000000 ^ n
  | 0, xs, l, c => by simp [scl, lv, Nat.mod_one]
  | n + 1, xs, l, c => by
    simp only [scl, lv]
    rw [lv_scl n, Nat.pow_succ, Nat.mul_comm (1000000000 ^ n), Nat.mod_mul, lv_split xs, Nat.add_mul, Nat.mul_assoc]
    have e1 : (xs.headD 0 * l + 1000000000 * (lv xs.tail * l) + c) % 1000000000 = (c + xs.headD 0 * l) % 1000000000 := by omega
    have e2 : (xs.headD 0 * l + 1000000000 * (lv xs.tail * l) + c) / 1000000000 = lv xs.tail * l + (c + xs.headD 0 * l) / 1000000000 := by omega
    rw [e1, e2]
theorem scl_len : ∀ (n : Nat) (xs : List Nat) (l c : Nat), (scl xs l n c).length = n
  | 0, xs, l, c => by simp [scl]
  | n + 1, xs, l, c => by simp [scl, scl_len n]
theorem scl_lt : ∀ (n : Nat) (xs : List Nat) (l c : Nat), ∀ z ∈ scl xs l n c, z < 1000000000
  | 0, xs, l, c => by simp [scl]
  | n + 1, xs, l, c => by
    intro z hz
    simp only [scl, List.mem_cons] at hz
    rcases hz with rfl | hz
    · omega
    · exact scl_lt n _ _ _ z hz

/-! ### bounds -/
/-- enough for all products of valid numbers -/
def BIG : Nat := lv (List.replicate 1000 999999999)
theorem lv_nines (k : Nat) : lv (List.replicate k 999999999) + 1 = 1000000000 ^ k := by
  induction k with
  | zero => rfl
  | succ k ih => rw [zeros_succ, lv, Nat.pow_succ]; omega
theorem len_of_lt {l : List Nat} (h : Lim l) (k : Nat) (hb : lv l < 1000000000 ^ k) : l.length ≤ k := by
  rcases Nat.lt_or_ge k l.length with hl | hl
  · exfalso
    have hne : l ≠ [] := by intro e; subst e; simp at hl
    have h1 := h.ge hne
    have h2 : 1000000000 ^ k ≤ 1000000000 ^ (l.length - 1) := Nat.pow_le_pow_right (by omega) (by omega)
    omega
  · exact hl
theorem lv_lt_nines (l : List Nat) (h : ∀ x ∈ l, x < 1000000000) : lv l ≤ lv (List.replicate l.length 999999999) := by
  have h1 := lv_lt l h
  have h2 := lv_nines l.length
  omega
theorem nines_mono (a b : Nat) (h : a ≤ b) : lv (List.replicate a 999999999) ≤ lv (List.replicate b 999999999) := by
  have h1 := lv_nines a
  have h2 := lv_nines b
  have h3 : 1000000000 ^ a ≤ 1000000000 ^ b := Nat.pow_le_pow_right (by omega) h
  omega
theorem len_of_big {l : List Nat} (h : Lim l) (hb : lv l ≤ BIG) : l.length ≤ 1000 := by
  refine len_of_lt h 1000 ?_
  have := lv_nines 1000
  unfold BIG at hb
  omega

theorem nines_pw (k : Nat) : lv (List.replicate k 999999999) < pw (9 * k) := by
  have h := lv_nines k
  have e : pw (9 * k) = 1000000000 ^ k := by unfold pw; rw [Nat.pow_mul]
  omega
theorem big_pw : BIG < pw 9000 := nines_pw 1000
theorem big_digits {n : Nat} (h : n ≤ BIG) : (dgs n).length ≤ 9000 := (dgs_lenp n 9000 (by omega)).2 (Nat.lt_of_le_of_lt h big_pw)
theorem lv_drop_le (xs : List Nat) (k : Nat) : lv (xs.drop k) ≤ lv xs := by
  conv => rhs; rw [← List.take_append_drop k xs]
  rw [lv_append]
  have := Nat.le_mul_of_pos_left (lv (xs.drop k)) (show 0 < 1000000000 ^ (xs.take k).length from Nat.pow_pos (by omega))
  omega
/-- a list without its zeros at the end -/
def Cut (xs ys : List Nat) : Prop := ∃ k, ys = xs.take k ∧ lv ys = lv xs ∧ ys.getLast? ≠ some 0
theorem Cut.lim {xs ys : List Nat} (h : Cut xs ys) (hx : ∀ x ∈ xs, x < 1000000000) : Lim ys := by
  obtain ⟨k, rfl, _, h3⟩ := h
  exact ⟨fun x hm => hx x (List.mem_of_mem_take hm), h3⟩
theorem Cut.lv {xs ys : List Nat} (h : Cut xs ys) : K.lv ys = K.lv xs := by obtain ⟨_, _, h, _⟩ := h; exact h
theorem lv_take_zero (xs : List Nat) (k : Nat) (h : xs[k]? = some 0) : K.lv (xs.take (k + 1)) = K.lv (xs.take k) := by
  obtain ⟨hk, hx⟩ := List.getElem?_eq_some_iff.1 h
  rw [List.take_succ_eq_append_getElem hk, hx, lv_append]
  simp [K.lv]
end Go.Proofs.YtdbaemadphhhcaaDoor
