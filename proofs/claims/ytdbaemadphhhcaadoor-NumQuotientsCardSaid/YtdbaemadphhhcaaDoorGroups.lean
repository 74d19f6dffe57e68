/- Plain mathematics of reading: decimal digits in groups of nine. -/
import Derived.Test.YtdbaemadphhhcaaDoorLimb
namespace Go.Proofs.YtdbaemadphhhcaaDoor
open K
/-- the groups when the digits from 'left' on have been read (the lowest digit first) -/
def grp (e : List UInt8) (left j : Nat) : Nat := dvl ((e.take (9 * j + 9)).drop (max left (9 * j)))
def grps (e : List UInt8) (left m : Nat) : List Nat := (List.range m).map (grp e left)
theorem grps_len (e : List UInt8) (left m : Nat) : (grps e left m).length = m := by simp [grps]
theorem grps_at (e : List UInt8) (left m j : Nat) (h : j < m) : (grps e left m)[j]? = some (grp e left j) := by simp [grps, h]
theorem grps_start (e : List UInt8) (m : Nat) : grps e e.length m = List.replicate m 0 := by
  apply List.ext_getElem
  · simp [grps]
  · intro j h1 h2
    simp only [grps, List.getElem_map, List.getElem_range, List.getElem_replicate, grp]
    rw [List.drop_of_length_le (by rw [List.length_take]; omega)]
    rfl
theorem grps_step (e : List UInt8) (p m : Nat) (c : UInt8) (hc : e[p]? = some c) (hm : p / 9 < m) : (grps e (p + 1) m).set (p / 9) (grp e (p + 1) (p / 9) * 10 + (c.toNat - 48)) = grps e p m := by
  apply List.ext_getElem
  · simp [grps]
  · intro j h1 h2
    rw [List.getElem_set]
    obtain ⟨hp, hcc⟩ := List.getElem?_eq_some_iff.1 hc
    split
    · rename_i hj
      subst hj
      simp only [grps, List.getElem_map, List.getElem_range, grp]
      have e1 : max p (9 * (p / 9)) = p := by omega
      have e2 : (e.take (9 * (p / 9) + 9))[p]? = some c := by rw [List.getElem?_take, if_pos (by omega)]; exact hc
      rw [e1, drop_at e2, dvl]
      by_cases h9 : p + 1 = 9 * (p / 9) + 9
      · rw [List.drop_of_length_le (by rw [List.length_take]; omega), List.drop_of_length_le (by rw [List.length_take]; omega)]
        simp [dvl]
      · rw [show max (p + 1) (9 * (p / 9)) = p + 1 by omega]
        omega
    · rename_i hj
      simp only [grps, List.getElem_map, List.getElem_range, grp]
      rcases Nat.lt_or_ge j (p / 9) with h | h
      · rw [List.drop_of_length_le (by rw [List.length_take]; omega), List.drop_of_length_le (by rw [List.length_take]; omega)]
      · rw [show max (p + 1) (9 * j) = max p (9 * j) by omega]
theorem pow9 (m : Nat) : (10 : Nat) ^ (9 * m) = 1000000000 ^ m := by rw [Nat.pow_mul]
theorem lv_grps (e : List UInt8) : ∀ m, lv (grps e 0 m) = dvl (e.take (9 * m))
  | 0 => by simp [grps, lv, dvl]
  | m + 1 => by
    have h1 : grps e 0 (m + 1) = grps e 0 m ++ [grp e 0 m] := by simp [grps, List.range_succ]
    rw [h1, lv_append, lv_grps e m, grps_len]
    simp only [lv, Nat.mul_zero, Nat.add_zero]
    have h2 : e.take (9 * m + 9) = e.take (9 * m) ++ (e.take (9 * m + 9)).drop (9 * m) := by
      conv => lhs; rw [← List.take_append_drop (9 * m) (e.take (9 * m + 9))]
      rw [List.take_take, Nat.min_eq_left (by omega)]
    rw [show 9 * (m + 1) = 9 * m + 9 by omega]
    conv => rhs; rw [h2, dvl_append]
    unfold grp
    rw [show max 0 (9 * m) = 9 * m by omega]
    by_cases hl : 9 * m ≤ e.length
    · rw [List.length_take, Nat.min_eq_left hl, pow9]
    · rw [List.drop_of_length_le (by rw [List.length_take]; omega)]
      simp [dvl]
theorem grp_lt (e : List UInt8) (left j : Nat) (hd : e.all dig = true) : grp e left j < 1000000000 := by
  unfold grp
  have h1 := dvl_lt ((e.take (9 * j + 9)).drop (max left (9 * j))) (by
    rw [List.all_eq_true] at hd ⊢
    exact fun x hx => hd x (List.mem_of_mem_take (List.mem_of_mem_drop hx)))
  refine Nat.lt_of_lt_of_le h1 ?_
  rw [show (1000000000 : Nat) = 10 ^ 9 from rfl]
  apply Nat.pow_le_pow_right (by omega)
  rw [List.length_drop, List.length_take]
  omega
theorem grps_lt (e : List UInt8) (left m : Nat) (hd : e.all dig = true) : ∀ x ∈ grps e left m, x < 1000000000 := by
  intro x hx
  obtain ⟨j, _, rfl⟩ := List.mem_map.1 hx
  exact grp_lt e left j hd
/-- while a group is being read it is small enough for one digit more -/
theorem grp_open (e : List UInt8) (p : Nat) (hd : e.all dig = true) : grp e (p + 1) (p / 9) < 100000000 := by
  unfold grp
  have h1 := dvl_lt ((e.take (9 * (p / 9) + 9)).drop (max (p + 1) (9 * (p / 9)))) (by
    rw [List.all_eq_true] at hd ⊢
    exact fun x hx => hd x (List.mem_of_mem_take (List.mem_of_mem_drop hx)))
  refine Nat.lt_of_lt_of_le h1 ?_
  rw [show (100000000 : Nat) = 10 ^ 8 from rfl]
  apply Nat.pow_le_pow_right (by omega)
  rw [List.length_drop, List.length_take]
  omega
end Go.Proofs.YtdbaemadphhhcaaDoor
