/- Joined texts: Plain mathematics of the long division (Knuth, algorithm D).; num.guess; (natural).times; num.takeAway, num.putBack; (natural).divideLong; (natural).divide; numbers with a sign; Contracts of the library, laid over this dump's numbers.; appendLimb, (natural).digits, (number).text; (natural).digits, (number).text, num.write; (number).plus, (number).minus; (number).times, (number).minus; (number).compare, positive, rest, divide; (number).divide; (number).text, num.write; num.Valid; Plain mathematics of reading: decimal digits in groups of nine.. -/
import Derived.Test.YtbmmilhinbfahaaDoorJG01
import Derived.Deep.RegionHeld3
import Derived.Shelf.Small.Bits
import Derived.Shelf.Small.Wraps
import Derived.Shelf.Strconv.Itoa0
import Derived.Shelf.Strconv.Itoa1
import Derived.Shelf.LaysM
import Derived.Shelf.Strconv.Itoa2
import Derived.Shelf.Strconv.Itoa3
import Derived.Shelf.Strconv.Itoa4
import Derived.Shelf.Strings.Prefix
import Derived.Ground.Names2Prog
import Derived.Shelf.Slices.SearchI
import Derived.Ground.SlsfProg
import Derived.Shelf.SlSortCmp.Insertion
import Derived.Shelf.SlSortCmp.SiftDown1
import Derived.Shelf.SlSortCmp.HeapSort1
import Derived.Shelf.SlSortCmp.Insertion1
import Derived.Shelf.SlSortCmp.Median1
import Derived.Shelf.SlSortCmp.Pivot1
import Derived.Shelf.SlSortCmp.ReverseRange1
import Derived.Shelf.SlSortCmp.PartialInsertion1
import Derived.Shelf.SlSortCmp.PartitionEqual1
import Derived.Shelf.SlSortCmp.Partition1
import Derived.Shelf.SlSortCmp.Pdq1
import Derived.Shelf.SlSortCmp.Whole1
import Derived.Shelf.SlSortCmp.NoneTotal
import Derived.Test.YtbmmilhinbfahaaDoorProg
import Derived.Lib.AppendStr
import Derived.Laws.BytesArg
import Derived.Laws.RangeAny
set_option linter.unusedSimpArgs false
set_option linter.unusedVariables false
/- Plain mathematics of the long division (Knuth, algorithm D). -/
namespace Go.Proofs.YtbmmilhinbfahaaDoor
open K

/-! ### taking away -/
def tkl : List Nat → List Nat → Nat → Nat → List Nat
  | w :: ws, y :: ys, l, c => if w < (c + y * l) % 1000000000 then (w + 1000000000 - (c + y * l) % 1000000000) :: tkl ws ys l ((c + y * l) / 1000000000 + 1) else (w - (c + y * l) % 1000000000) :: tkl ws ys l ((c + y * l) / 1000000000)
  | _, _, _, _ => []
def tkc : List Nat → List Nat → Nat → Nat → Nat
  | w :: ws, y :: ys, l, c => if w < (c + y * l) % 1000000000 then tkc ws ys l ((c + y * l) / 1000000000 + 1) else tkc ws ys l ((c + y * l) / 1000000000)
  | _, _, _, c => c
theorem tkl_yes {w y l c : Nat} {ws ys : List Nat} (h : w < (c + y * l) % 1000000000) : tkl (w :: ws) (y :: ys) l c = (w + 1000000000 - (c + y * l) % 1000000000) :: tkl ws ys l ((c + y * l) / 1000000000 + 1) := by rw [tkl, if_pos h]
theorem tkl_no {w y l c : Nat} {ws ys : List Nat} (h : ¬ w < (c + y * l) % 1000000000) : tkl (w :: ws) (y :: ys) l c = (w - (c + y * l) % 1000000000) :: tkl ws ys l ((c + y * l) / 1000000000) := by rw [tkl, if_neg h]
theorem tkc_yes {w y l c : Nat} {ws ys : List Nat} (h : w < (c + y * l) % 1000000000) : tkc (w :: ws) (y :: ys) l c = tkc ws ys l ((c + y * l) / 1000000000 + 1) := by rw [tkc, if_pos h]
theorem tkc_no {w y l c : Nat} {ws ys : List Nat} (h : ¬ w < (c + y * l) % 1000000000) : tkc (w :: ws) (y :: ys) l c = tkc ws ys l ((c + y * l) / 1000000000) := by rw [tkc, if_neg h]
theorem tkl_len : ∀ (ws ys : List Nat) (l c : Nat), ws.length = ys.length → (tkl ws ys l c).length = ys.length
  | [], [], _, _, _ => rfl
  | w :: ws, y :: ys, l, c, h => by
    by_cases hc : w < (c + y * l) % 1000000000
    · rw [tkl_yes hc]; simp [tkl_len ws ys l _ (by simpa using h)]
    · rw [tkl_no hc]; simp [tkl_len ws ys l _ (by simpa using h)]
theorem tkl_lt : ∀ (ws ys : List Nat) (l c : Nat), (∀ w ∈ ws, w < 1000000000) → ∀ z ∈ tkl ws ys l c, z < 1000000000
  | [], _, _, _, _ => by simp [tkl]
  | w :: ws, [], _, _, _ => by simp [tkl]
  | w :: ws, y :: ys, l, c, h => by
    intro z hz
    have h1 := h w (List.mem_cons_self ..)
    have h2 := fun z hz => h z (List.mem_cons_of_mem w hz)
    by_cases hc : w < (c + y * l) % 1000000000
    · rw [tkl_yes hc] at hz
      rcases List.mem_cons.1 hz with rfl | hz
      · omega
      · exact tkl_lt ws ys l _ h2 z hz
    · rw [tkl_no hc] at hz
      rcases List.mem_cons.1 hz with rfl | hz
      · omega
      · exact tkl_lt ws ys l _ h2 z hz
theorem lv_tkl : ∀ (ws ys : List Nat) (l c : Nat), ws.length = ys.length → lv (tkl ws ys l c) + (l * lv ys + c) = lv ws + 1000000000 ^ ys.length * tkc ws ys l c
  | [], [], l, c, _ => by simp [tkl, tkc, lv]
  | w :: ws, y :: ys, l, c, h => by
    have e : l * (y + 1000000000 * lv ys) = y * l + 1000000000 * (l * lv ys) := by rw [Nat.mul_add, Nat.mul_left_comm, Nat.mul_comm l y]
    have ep : ∀ t, 1000000000 ^ (ys.length + 1) * t = 1000000000 * (1000000000 ^ ys.length * t) := fun t => by rw [Nat.pow_succ, Nat.mul_comm (1000000000 ^ _), Nat.mul_assoc]
    by_cases hc : w < (c + y * l) % 1000000000
    · have ih := lv_tkl ws ys l ((c + y * l) / 1000000000 + 1) (by simpa using h)
      rw [tkl_yes hc, tkc_yes hc]
      simp only [lv, List.length_cons]
      rw [e, ep]
      omega
    · have ih := lv_tkl ws ys l ((c + y * l) / 1000000000) (by simpa using h)
      rw [tkl_no hc, tkc_no hc]
      simp only [lv, List.length_cons]
      rw [e, ep]
      omega
/-! ### putting back -/
def pbl : List Nat → List Nat → Nat → List Nat
  | w :: ws, y :: ys, c => (c + (w + y)) % 1000000000 :: pbl ws ys ((c + (w + y)) / 1000000000)
  | _, _, _ => []
theorem pbl_len : ∀ (ws ys : List Nat) (c : Nat), ws.length = ys.length → (pbl ws ys c).length = ys.length
  | [], [], _, _ => rfl
  | w :: ws, y :: ys, c, h => by simp [pbl, pbl_len ws ys _ (by simpa using h)]
theorem pbl_lt : ∀ (ws ys : List Nat) (c : Nat), ∀ z ∈ pbl ws ys c, z < 1000000000
  | [], _, _ => by simp [pbl]
  | w :: ws, [], _ => by simp [pbl]
  | w :: ws, y :: ys, c => by
    intro z hz
    simp only [pbl, List.mem_cons] at hz
    rcases hz with rfl | hz
    · omega
    · exact pbl_lt ws ys _ z hz
theorem lv_pbl : ∀ (ws ys : List Nat) (c : Nat), ws.length = ys.length → lv (pbl ws ys c) = (lv ws + lv ys + c) % 1000000000 ^ ys.length
  | [], [], c, _ => by simp [pbl, lv, Nat.mod_one]
  | w :: ws, y :: ys, c, h => by
    simp only [pbl, lv, List.length_cons]
    rw [lv_pbl ws ys _ (by simpa using h), Nat.pow_succ, Nat.mul_comm (1000000000 ^ _), Nat.mod_mul]
    have e1 : (w + 1000000000 * lv ws + (y + 1000000000 * lv ys) + c) % 1000000000 = (c + (w + y)) % 1000000000 := by omega
    have e2 : (w + 1000000000 * lv ws + (y + 1000000000 * lv ys) + c) / 1000000000 = lv ws + lv ys + (c + (w + y)) / 1000000000 := by omega
    rw [e1, e2]

/-! ### one digit -/
/-- what one step leaves, if the guess is the quotient or one more: U is the window's value, V the divisor's -/
theorem step_exact {ws ys : List Nat} {u0 l q r : Nat} (hl : ws.length = ys.length) (hw : ∀ w ∈ ws, w < 1000000000) (hy : ∀ y ∈ ys, y < 1000000000)
    (hU : lv ws + 1000000000 ^ ys.length * u0 = q * lv ys + r) (hr : r < lv ys) (he : l = q) : tkc ws ys l 0 = u0 ∧ lv (tkl ws ys l 0) = r := by
  subst he
  have h := lv_tkl ws ys l 0 hl
  have hb := lv_lt (tkl ws ys l 0) (tkl_lt ws ys l 0 hw)
  rw [tkl_len ws ys l 0 hl] at hb
  have hV := lv_lt ys hy
  generalize 1000000000 ^ ys.length = P at *
  generalize tkc ws ys l 0 = c at *
  generalize lv (tkl ws ys l 0) = x at *
  generalize l * lv ys = m at *
  rcases Nat.lt_trichotomy c u0 with hc | rfl | hc
  · obtain ⟨d, rfl⟩ : ∃ d, u0 = c + 1 + d := ⟨u0 - c - 1, by omega⟩
    rw [Nat.mul_add, Nat.mul_add, Nat.mul_one] at hU
    have := Nat.zero_le (P * d)
    omega
  · exact ⟨rfl, by omega⟩
  · obtain ⟨d, rfl⟩ : ∃ d, c = u0 + 1 + d := ⟨c - u0 - 1, by omega⟩
    rw [Nat.mul_add, Nat.mul_add, Nat.mul_one] at h
    have := Nat.zero_le (P * d)
    omega
theorem step_over {ws ys : List Nat} {u0 l q r : Nat} (hl : ws.length = ys.length) (hw : ∀ w ∈ ws, w < 1000000000) (hy : ∀ y ∈ ys, y < 1000000000)
    (hU : lv ws + 1000000000 ^ ys.length * u0 = q * lv ys + r) (hr : r < lv ys) (he : l = q + 1) : u0 < tkc ws ys l 0 ∧ lv (pbl (tkl ws ys l 0) ys 0) = r := by
  subst he
  have h := lv_tkl ws ys (q + 1) 0 hl
  have hb := lv_lt (tkl ws ys (q + 1) 0) (tkl_lt ws ys (q + 1) 0 hw)
  have hlen := tkl_len ws ys (q + 1) 0 hl
  rw [hlen] at hb
  have hV := lv_lt ys hy
  rw [lv_pbl _ _ _ hlen]
  rw [Nat.add_mul, Nat.one_mul] at h
  generalize 1000000000 ^ ys.length = P at *
  generalize tkc ws ys (q + 1) 0 = c at *
  generalize lv (tkl ws ys (q + 1) 0) = x at *
  generalize q * lv ys = m at *
  generalize lv ys = V at *
  have hc : c = u0 + 1 := by
    rcases Nat.lt_trichotomy c (u0 + 1) with hc | hc | hc
    · obtain ⟨d, rfl⟩ : ∃ d, u0 = c + d := ⟨u0 - c, by omega⟩
      rw [Nat.mul_add] at hU
      have := Nat.zero_le (P * d)
      omega
    · exact hc
    · obtain ⟨d, rfl⟩ : ∃ d, c = u0 + 2 + d := ⟨c - u0 - 2, by omega⟩
      rw [Nat.mul_add, Nat.mul_add] at h
      have := Nat.zero_le (P * d)
      omega
  subst hc
  rw [Nat.mul_add, Nat.mul_one] at h
  refine ⟨by omega, ?_⟩
  rw [show x + V + 0 = r + P by omega, Nat.add_mod_right]
  exact Nat.mod_eq_of_lt (by omega)

/-! ### the guess -/
/-- the test fails: one less is still not too small -/
theorem guess_down {P U V q r H v2 v1 u2 l left : Nat} (hP : 0 < P) (hU : U = q * V + r) (hV : P * (v1 * 1000000000 + v2) ≤ V) (hHU : U < P * (H * 1000000000 + u2 + 1))
    (hh : l * v1 + left = H) (ht : left * 1000000000 + u2 < l * v2) : q < l := by
  rcases Nat.lt_or_ge q l with h | h
  · exact h
  · exfalso
    have h1 : l * (P * (v1 * 1000000000 + v2)) ≤ q * V := Nat.mul_le_mul h hV
    have h2 : l * (P * (v1 * 1000000000 + v2)) = P * (l * v1 * 1000000000 + l * v2) := by
      rw [Nat.mul_left_comm, Nat.mul_add, Nat.mul_assoc]
    have h3 : H * 1000000000 + u2 + 1 ≤ l * v1 * 1000000000 + l * v2 := by
      rw [← hh]; generalize l * v1 = a at *; generalize l * v2 = b at *; omega
    have h4 := Nat.mul_le_mul_left P h3
    omega
/-- the guess is not too great by more than one -/
theorem guess_up {P U V q r H v2 v1 u2 l : Nat} (hU : U = q * V + r) (hr : r < V) (hV : V < P * (v1 * 1000000000 + v2 + 1)) (hHU : P * (H * 1000000000 + u2) ≤ U)
    (hv1 : 1 ≤ v1) (hl : l ≤ 1000000000) (ht : l * (v1 * 1000000000 + v2) ≤ H * 1000000000 + u2) : l ≤ q + 1 := by
  rcases Nat.lt_or_ge (q + 1) l with h | h
  · exfalso
    obtain ⟨m, rfl⟩ : ∃ m, l = m + 1 := ⟨l - 1, by omega⟩
    have hq : q + 1 ≤ m := by omega
    have h1 : (q + 1) * V ≤ m * V := Nat.mul_le_mul_right V hq
    rw [Nat.add_mul, Nat.one_mul] at h1
    have h2 : m * V ≤ m * (P * (v1 * 1000000000 + v2 + 1)) := Nat.mul_le_mul_left m (Nat.le_of_lt hV)
    have h3 : P * ((m + 1) * (v1 * 1000000000 + v2)) ≤ U := Nat.le_trans (Nat.mul_le_mul_left P ht) hHU
    have h4 : m * (P * (v1 * 1000000000 + v2 + 1)) = P * (m * (v1 * 1000000000 + v2) + m) := by
      rw [Nat.mul_left_comm, Nat.mul_add m, Nat.mul_one]
    have h5 : m * (v1 * 1000000000 + v2) + m ≤ (m + 1) * (v1 * 1000000000 + v2) := by
      rw [Nat.add_mul, Nat.one_mul]
      omega
    have h6 := Nat.mul_le_mul_left P h5
    omega
  · exact h
theorem div_of {U V q r : Nat} (h : U = q * V + r) (hr : r < V) : U / V = q ∧ U % V = r := by
  have hV : 0 < V := by omega
  subst h
  rw [Nat.mul_comm q V, Nat.mul_add_div hV, Nat.mul_add_mod, Nat.div_eq_of_lt hr, Nat.mod_eq_of_lt hr]
  omega
/-- all that the guess wants, and what it gives -/
theorem knuth {P ly lw v1 v2 u0 u1 u2 U V : Nat} (hy : ly < P) (hw : lw < P) (hv2 : v2 < 1000000000) (hu1 : u1 < 1000000000) (hu2 : u2 < 1000000000) (hv1 : 500000000 ≤ v1)
    (hV : V = ly + P * (v2 + 1000000000 * v1)) (hU : U = lw + P * (u2 + 1000000000 * (u1 + 1000000000 * u0))) (hUV : U < 1000000000 * V) :
    u0 ≤ v1 ∧ U / V * v1 ≤ u0 * 1000000000 + u1 ∧ U / V < 1000000000 ∧ (∀ l left : Nat, l * v1 + left = u0 * 1000000000 + u1 → left * 1000000000 + u2 < l * v2 → U / V < l) ∧
      (∀ l left : Nat, l * v1 + left = u0 * 1000000000 + u1 → l ≤ 1000000000 → (1000000000 ≤ left ∨ (l < 1000000000 ∧ l * v2 ≤ left * 1000000000 + u2)) → l ≤ U / V + 1) := by
  have hP : 0 < P := by omega
  have hVpos : 0 < V := by
    rw [hV]
    have := Nat.mul_le_mul_left P (show 1 ≤ v2 + 1000000000 * v1 by omega)
    omega
  have hq : U = U / V * V + U % V := by rw [Nat.mul_comm]; exact (Nat.div_add_mod U V).symm
  have hr : U % V < V := Nat.mod_lt _ hVpos
  have eV1 : P * (v1 * 1000000000 + v2) ≤ V := by rw [hV, Nat.add_comm v2, Nat.mul_comm 1000000000 v1]; omega
  have eV2 : V < P * (v1 * 1000000000 + v2 + 1) := by rw [Nat.mul_add P _ 1, Nat.mul_one, hV, Nat.add_comm v2, Nat.mul_comm 1000000000 v1]; omega
  have eH : u2 + 1000000000 * (u1 + 1000000000 * u0) = (u0 * 1000000000 + u1) * 1000000000 + u2 := by omega
  rw [eH] at hU
  have eU1 : P * ((u0 * 1000000000 + u1) * 1000000000 + u2) ≤ U := by rw [hU]; exact Nat.le_add_left _ _
  have eU2 : U < P * ((u0 * 1000000000 + u1) * 1000000000 + u2 + 1) := by rw [Nat.mul_add P _ 1, Nat.mul_one, hU, Nat.add_comm lw]; exact Nat.add_lt_add_left hw _
  have hqB : U / V < 1000000000 := (Nat.div_lt_iff_lt_mul hVpos).2 hUV
  have hqv : U / V * v1 ≤ u0 * 1000000000 + u1 := by
    rcases Nat.lt_or_ge (u0 * 1000000000 + u1) (U / V * v1) with h | h
    · exfalso
      have h1 : U / V * (P * (v1 * 1000000000 + v2)) ≤ U := Nat.le_trans (Nat.mul_le_mul_left _ eV1) (by omega)
      have h2 : U / V * (P * (v1 * 1000000000 + v2)) = P * (U / V * v1 * 1000000000 + U / V * v2) := by rw [Nat.mul_left_comm, Nat.mul_add, Nat.mul_assoc]
      have h3 : (u0 * 1000000000 + u1) * 1000000000 + u2 + 1 ≤ U / V * v1 * 1000000000 + U / V * v2 := by
        generalize U / V * v1 = a at *; generalize U / V * v2 = b at *; omega
      have h4 := Nat.mul_le_mul_left P h3
      omega
    · exact h
  refine ⟨?_, hqv, hqB, fun l left hl ht => guess_down hP hq eV1 eU2 hl ht, fun l left hl hlB ht => ?_⟩
  · rcases Nat.lt_or_ge v1 u0 with h | h
    · exfalso
      have h1 : v1 * 1000000000 + v2 + 1 ≤ (v1 + 1) * 1000000000 := by omega
      have h2 : 1000000000 * ((v1 + 1) * 1000000000) ≤ (u0 * 1000000000 + u1) * 1000000000 + u2 := by omega
      have h3 := Nat.mul_le_mul_left P h2
      have h4 := Nat.mul_le_mul_left P h1
      have h5 : P * (1000000000 * ((v1 + 1) * 1000000000)) = 1000000000 * (P * ((v1 + 1) * 1000000000)) := Nat.mul_left_comm _ _ _
      omega
    · exact h
  · refine guess_up hq hr eV2 eU1 (by omega) hlB ?_
    rw [Nat.mul_add, ← Nat.mul_assoc]
    rcases ht with ht | ⟨h1, h2⟩
    · have h3 : l * v2 ≤ 1000000000 * 999999999 := Nat.mul_le_mul hlB (by omega)
      generalize l * v1 = a at *
      generalize l * v2 = b at *
      omega
    · generalize l * v1 = a at *
      generalize l * v2 = b at *
      omega
theorem split2 {ys : List Nat} {m : Nat} (h : ys.length = m + 2) : ∃ y0 v2 v1, ys = y0 ++ [v2, v1] ∧ y0.length = m ∧ ys[m]? = some v2 ∧ ys[m + 1]? = some v1 := by
  have h0 : ys[m]? = some ys[m] := List.getElem?_eq_getElem (by omega)
  have h1 : ys[m + 1]? = some ys[m + 1] := List.getElem?_eq_getElem (by omega)
  refine ⟨ys.take m, ys[m], ys[m + 1], ?_, by rw [List.length_take]; omega, h0, h1⟩
  have h2 : ys.drop (m + 1 + 1) = [] := List.drop_of_length_le (by omega)
  have e := List.take_append_drop m ys
  rw [drop_at h0, drop_at h1, h2] at e
  exact e.symm
theorem split3 {ys : List Nat} {m : Nat} (h : ys.length = m + 3) : ∃ y0 u2 u1 u0, ys = y0 ++ [u2, u1, u0] ∧ y0.length = m ∧ ys[m]? = some u2 ∧ ys[m + 1]? = some u1 ∧ ys[m + 2]? = some u0 := by
  have h0 : ys[m]? = some ys[m] := List.getElem?_eq_getElem (by omega)
  have h1 : ys[m + 1]? = some ys[m + 1] := List.getElem?_eq_getElem (by omega)
  have h2 : ys[m + 2]? = some ys[m + 2] := List.getElem?_eq_getElem (by omega)
  refine ⟨ys.take m, ys[m], ys[m + 1], ys[m + 2], ?_, by rw [List.length_take]; omega, h0, h1, h2⟩
  have h3 : ys.drop (m + 2 + 1) = [] := List.drop_of_length_le (by omega)
  have e := List.take_append_drop m ys
  rw [drop_at h0, drop_at h1, drop_at h2, h3] at e
  exact e.symm
/-- one step of the long division: the next limb, the next rest -/
theorem long_step {x S Q V r : Nat} (h : S = Q * V + r) (U : Nat) (hU : U = x + 1000000000 * r) : x + 1000000000 * S = (U / V + 1000000000 * Q) * V + U % V := by
  have h1 := Nat.div_add_mod U V
  rw [Nat.add_mul, Nat.mul_assoc, Nat.mul_comm (U / V) V]
  omega
theorem scale_top {t : Nat} (ht : t < 1000000000) (h0 : 0 < t) : 0 < 1000000000 / (t + 1) ∧ 1000000000 / (t + 1) < 1000000000 ∧ 500000000 ≤ t * (1000000000 / (t + 1)) ∧ (t + 1) * (1000000000 / (t + 1)) ≤ 1000000000 := by
  have h1 := Nat.div_add_mod 1000000000 (t + 1)
  have h2 := Nat.mod_lt 1000000000 (show 0 < t + 1 by omega)
  generalize 1000000000 / (t + 1) = s at *
  generalize 1000000000 % (t + 1) = r at *
  have hs : 0 < s := by
    rcases Nat.eq_zero_or_pos s with h | h
    · subst h; omega
    · exact h
  rw [Nat.add_mul, Nat.one_mul] at *
  have hts : s ≤ t * s := Nat.le_mul_of_pos_left s h0
  have htt : t ≤ t * s := Nat.le_mul_of_pos_right t hs
  refine ⟨hs, by omega, ?_, by omega⟩
  rcases Nat.lt_or_ge s 2 with h | h
  · obtain rfl : s = 1 := by omega
    omega
  · rcases Nat.lt_or_ge t 2 with h' | h'
    · obtain rfl : t = 1 := by omega
      omega
    · have h3 : t + s ≤ t * s + 1 := by
        obtain ⟨a, rfl⟩ : ∃ a, t = a + 1 := ⟨t - 1, by omega⟩
        obtain ⟨b, rfl⟩ : ∃ b, s = b + 1 := ⟨s - 1, by omega⟩
        rw [Nat.add_mul, Nat.mul_add]
        have := Nat.zero_le (a * b)
        omega
      omega
theorem scale_facts {xs ys : List Nat} {N m t s : Nat} (lx : xs.length = N) (ly : ys.length = m + 2) (hmN : m + 2 ≤ N) (bx : ∀ x ∈ xs, x < 1000000000) (by_ : ∀ y ∈ ys, y < 1000000000)
    (ht : ys[m + 1]? = some t) (ht0 : 0 < t) (hs : 1000000000 / (t + 1) = s) :
    lv (scl xs s (N + 1) 0) = lv xs * s ∧ lv (scl ys s (m + 2) 0) = lv ys * s ∧ lv ((scl xs s (N + 1) 0).drop (N - (m + 2) + 1)) < lv (scl ys s (m + 2) 0) ∧
      ∃ y0 v2 v1, scl ys s (m + 2) 0 = y0 ++ [v2, v1] ∧ y0.length = m ∧ (scl ys s (m + 2) 0)[m]? = some v2 ∧ (scl ys s (m + 2) 0)[m + 1]? = some v1 ∧ 500000000 ≤ v1 := by
  have htB := by_ t (mem_at ht)
  obtain ⟨hs0, hsB, hst, hsm⟩ := scale_top htB ht0
  rw [hs] at hs0 hsB hst hsm
  obtain ⟨y0, v2, v1, e1, e2, e3, e4⟩ := split2 ly
  obtain rfl : v1 = t := by rw [ht] at e4; injection e4 with e4; exact e4.symm
  have hlx := lv_lt xs bx
  rw [lx] at hlx
  have hy0 : lv y0 < 1000000000 ^ m := by
    have := lv_lt y0 (fun z hz => by_ z (by rw [e1]; exact List.mem_append_left _ hz))
    rwa [e2] at this
  have hlv : lv ys = lv y0 + 1000000000 ^ m * (v2 + 1000000000 * v1) := by rw [e1, lv_append, e2]; simp [lv]
  have hv2 := by_ v2 (mem_at e3)
  have hS : lv (scl xs s (N + 1) 0) = lv xs * s := by
    rw [lv_scl, Nat.add_zero]
    apply Nat.mod_eq_of_lt
    rw [Nat.pow_succ]
    exact Nat.mul_lt_mul'' hlx hsB
  have hP1 : lv ys < 1000000000 ^ (m + 1) * (v1 + 1) := by
    rw [hlv, Nat.pow_succ, Nat.mul_assoc]
    have h1 : v2 + 1000000000 * v1 + 1 ≤ 1000000000 * (v1 + 1) := by omega
    have h2 := Nat.mul_le_mul_left (1000000000 ^ m) h1
    rw [Nat.mul_add _ _ 1, Nat.mul_one] at h2
    omega
  have hP0 : 1000000000 ^ (m + 1) * v1 ≤ lv ys := by
    rw [hlv, Nat.pow_succ, Nat.mul_assoc]
    have h2 := Nat.mul_le_mul_left (1000000000 ^ m) (show 1000000000 * v1 ≤ v2 + 1000000000 * v1 by omega)
    omega
  have hY : lv (scl ys s (m + 2) 0) = lv ys * s := by
    rw [lv_scl, Nat.add_zero]
    apply Nat.mod_eq_of_lt
    have h1 : lv ys * s < 1000000000 ^ (m + 1) * (v1 + 1) * s := Nat.mul_lt_mul_of_pos_right hP1 hs0
    rw [Nat.mul_assoc] at h1
    have h2 := Nat.mul_le_mul_left (1000000000 ^ (m + 1)) hsm
    rw [show m + 2 = (m + 1) + 1 from rfl, Nat.pow_succ]
    omega
  refine ⟨hS, hY, ?_, ?_⟩
  · have e := List.take_append_drop (N - (m + 2) + 1) (scl xs s (N + 1) 0)
    have h1 : lv (scl xs s (N + 1) 0) = lv ((scl xs s (N + 1) 0).take (N - (m + 2) + 1)) + 1000000000 ^ (N - (m + 2) + 1) * lv ((scl xs s (N + 1) 0).drop (N - (m + 2) + 1)) := by
      conv => lhs; rw [← e]
      rw [lv_append, List.length_take, scl_len, Nat.min_eq_left (by omega)]
    rw [hS] at h1
    rw [hY]
    generalize (scl xs s (N + 1) 0).drop (N - (m + 2) + 1) = r at *
    generalize lv ((scl xs s (N + 1) 0).take (N - (m + 2) + 1)) = a at *
    have h2 : 1000000000 ^ (N - (m + 2) + 1) * lv r < 1000000000 ^ (N - (m + 2) + 1) * (1000000000 ^ (m + 1) * s) := by
      have h3 : lv xs * s < 1000000000 ^ N * s := Nat.mul_lt_mul_of_pos_right hlx hs0
      rw [← Nat.mul_assoc, ← Nat.pow_add, show N - (m + 2) + 1 + (m + 1) = N by omega]
      omega
    have h4 := Nat.lt_of_mul_lt_mul_left h2
    have h5 : 1000000000 ^ (m + 1) * 1 ≤ lv ys := Nat.le_trans (Nat.mul_le_mul_left _ ht0) hP0
    rw [Nat.mul_one] at h5
    exact Nat.lt_of_lt_of_le h4 (Nat.mul_le_mul_right s h5)
  · obtain ⟨z0, z2, z1, f1, f2, f3, f4⟩ := split2 (scl_len (m + 2) ys s 0)
    refine ⟨z0, z2, z1, f1, f2, f3, f4, ?_⟩
    have hz0 : lv z0 < 1000000000 ^ m := by
      have := lv_lt z0 (fun z hz => scl_lt _ _ _ _ z (by rw [f1]; exact List.mem_append_left _ hz))
      rwa [f2] at this
    have hz2 := scl_lt _ _ _ _ z2 (mem_at f3)
    have hlz : lv (scl ys s (m + 2) 0) = lv z0 + 1000000000 ^ m * (z2 + 1000000000 * z1) := by rw [f1, lv_append, f2]; simp [lv]
    rcases Nat.lt_or_ge z1 500000000 with h | h
    · exfalso
      have h1 : 1000000000 ^ (m + 1) * 500000000 ≤ lv ys * s := by
        have a1 := Nat.mul_le_mul_right s hP0
        have a2 := Nat.mul_le_mul_left (1000000000 ^ (m + 1)) hst
        rw [← Nat.mul_assoc] at a2
        omega
      rw [← hY, hlz, Nat.pow_succ, Nat.mul_assoc] at h1
      have h2 : z2 + 1000000000 * z1 + 1 ≤ 1000000000 * 500000000 := by omega
      have h3 := Nat.mul_le_mul_left (1000000000 ^ m) h2
      rw [Nat.mul_add _ _ 1, Nat.mul_one] at h3
      omega
    · exact h
end Go.Proofs.YtbmmilhinbfahaaDoor
/- num.guess -/
namespace Go.Proofs.YtbmmilhinbfahaaDoor
open Go.RowKit
def GuessPost (H v1 v2 u2 q : Nat) (w : World) (e : Ending) (w' : World) : Prop :=
  ∃ l left : Nat, e = .returned (.int .u64 (l : Int)) ∧ Drew w w' ∧ l * v1 + left = H ∧ q ≤ l ∧ l ≤ 1000000000 ∧ (1000000000 ≤ left ∨ (l < 1000000000 ∧ l * v2 ≤ left * 1000000000 + u2))
def GuessInv (H v1 q : Nat) (w : World) (lv lf : Value) (wr : World) : Prop :=
  ∃ l left : Nat, lv = .int .u64 l ∧ lf = .int .u64 left ∧ l * v1 + left = H ∧ q ≤ l ∧ l ≤ 1000000001 ∧ (l = 1000000001 → left < 1000000000) ∧ left < 2000000000 ∧ Drew w wr
end Go.Proofs.YtbmmilhinbfahaaDoor
/- (natural).times -/
namespace Go.Proofs.YtbmmilhinbfahaaDoor
open Go.RowKit
theorem mid_at {a b rest : List Nat} {x k j : Nat} (ha : a.length = k) (hb : b.length = j) : (U64s (a ++ b ++ x :: rest))[k + j]? = some (.int .u64 (x : Int)) := by
  have h := U64s_mid (done := a ++ b) (rest := rest) (sp := []) (x := x) (k := k + j) (by simp [ha, hb])
  simpa using h
theorem mid_put {w : World} {g : Nat} {t : TypeId} {a b rest : List Nat} {x k j : Nat} (h : Row w g t (U64s (a ++ b ++ x :: rest))) (ha : a.length = k) (hb : b.length = j) (v : Nat) :
    Row (w.setCell ⟨g, k + j, none⟩ (.int .u64 (v : Int))) g t (U64s (a ++ (b ++ [v]) ++ rest)) := by
  have h1 := Row.step1 (done := a ++ b) (rest := rest) (sp := []) (x := x) (k := k + j) (by simpa using h) (by simp [ha, hb]) v
  simpa using h1

end Go.Proofs.YtbmmilhinbfahaaDoor
/- num.takeAway, num.putBack -/
namespace Go.Proofs.YtbmmilhinbfahaaDoor
open Go.RowKit
theorem only_refl (w : World) (g : Nat) : w.grownBy w (some g) := World.grownBy.refl w _
theorem only_set {a b : World} {g : Nat} (h : a.grownBy b (some g)) (i : Nat) (u : Value) : a.grownBy (b.setCell ⟨g, i, none⟩ u) (some g) :=
  ⟨h.os, h.tape, h.output, by simpa [World.setCell] using h.size, fun k hk hne => (Below.heap_setCell b _ u k (fun e => hne (by rw [e]))).trans (h.block k hk hne)⟩
theorem only_step {a b c : World} {g : Nat} (h : a.grownBy b (some g)) (k : b.grownBy c (some g)) : a.grownBy c (some g) :=
  ⟨k.os.trans h.os, k.tape.trans h.tape, k.output.trans h.output, Nat.le_trans h.size k.size, fun i hi hne => (k.block i (Nat.lt_of_lt_of_le hi h.size) hne).trans (h.block i hi hne)⟩
theorem only_drew {a b : World} {g : Nat} (h : Drew a b) : a.grownBy b (some g) := by
  obtain ⟨n, rfl⟩ := h
  exact ⟨rfl, rfl, rfl, Nat.le_refl _, fun _ _ _ => rfl⟩
theorem only_ext {a b : World} {g : Nat} (h : Ext a b) : a.grownBy b (some g) := ⟨h.os, h.tape, h.output, h.size, fun k hk _ => h.block k hk⟩
theorem Ext.only {a b c : World} {g : Nat} (h : Ext a b) (k : b.grownBy c (some g)) (hg : a.heap.size ≤ g) : Ext a c :=
  ⟨k.os.trans h.os, k.tape.trans h.tape, k.output.trans h.output, Nat.le_trans h.size k.size, fun i hi => (k.block i (Nat.lt_of_lt_of_le hi h.size) (fun e => by injection e with e; omega)).trans (h.block i hi)⟩
theorem Row.only {w w' : World} {g g' : Nat} {t : TypeId} {vs : List Value} (h : Row w g' t vs) (e : w.grownBy w' (some g)) (hne : g' ≠ g) : Row w' g' t vs :=
  (e.block g' h.lt (fun x => hne (by injection x))).trans h
theorem mid_put2 {w : World} {g : Nat} {t : TypeId} {a b rest : List Nat} {x k j : Nat} (h : Row w g t (U64s (a ++ b ++ x :: rest))) (ha : a.length = k) (hb : b.length = j) (u : Value) (v : Nat) :
    Row ((w.setCell ⟨g, k + j, none⟩ u).setCell ⟨g, k + j, none⟩ (.int .u64 (v : Int))) g t (U64s (a ++ (b ++ [v]) ++ rest)) := by
  have h1 := Row.step2 (done := a ++ b) (rest := rest) (sp := []) (x := x) (k := k + j) (by simpa using h) (by simp [ha, hb]) u v
  simpa using h1
def TakePost (g : Nat) (lo ws hi ys : List Nat) (u0 l : Nat) (w : World) (e : Ending) (w' : World) : Prop :=
  e = .returned (.bool (decide (u0 < tkc ws ys l 0))) ∧ Row w' g 75 (U64s (lo ++ tkl ws ys l 0 ++ 0 :: hi)) ∧ w.grownBy w' (some g)

def PutPost (g : Nat) (lo ws hi ys : List Nat) (w : World) (e : Ending) (w' : World) : Prop :=
  e = .returned (.tuple #[]) ∧ Row w' g 75 (U64s (lo ++ pbl ws ys 0 ++ hi)) ∧ w.grownBy w' (some g)
end Go.Proofs.YtbmmilhinbfahaaDoor
/- (natural).divideLong -/
namespace Go.Proofs.YtbmmilhinbfahaaDoor
open Go.RowKit
def ScaleP (s : List Nat) (m : Nat) (w : World) (e : Ending) (w' : World) : Prop := ∃ g, e = .returned (.slice (some ⟨g, 0, none⟩) m m) ∧ w.heap.size ≤ g ∧ Row w' g 75 (U64s s) ∧ Ext w w'
def DivLPost (q r : Nat) (w : World) (e : Ending) (w' : World) : Prop := ∃ v1 v2, e = .returned (.tuple #[v1, v2]) ∧ NatV w' v1 q ∧ NatV w' v2 r ∧ Ext w w'

/-- what holds at the head of the long division's loop: k digits are still to come -/
def LongInv (S ys : List Nat) (N n g gv gq : Nat) (w : World) (k : Nat) (wr : World) : Prop :=
  ∃ rl ql : List Nat, Row wr g 75 (U64s (S.take k ++ rl ++ List.replicate (N + 1 - k - n) 0)) ∧ rl.length = n ∧ (∀ x ∈ rl, x < 1000000000) ∧ K.lv rl < K.lv ys ∧
    Row wr gq 75 (U64s (List.replicate k 0 ++ ql)) ∧ ql.length = N - n + 1 - k ∧ (∀ x ∈ ql, x < 1000000000) ∧ K.lv (S.drop k) = K.lv ql * K.lv ys + K.lv rl ∧ Row wr gv 75 (U64s ys) ∧ Ext w wr

end Go.Proofs.YtbmmilhinbfahaaDoor
/- (natural).divide -/
namespace Go.Proofs.YtbmmilhinbfahaaDoor
open Go.RowKit
theorem NatV.zero (w : World) : NatV w (.slice none 0 0) 0 := ⟨none, 0, 0, [], rfl, rfl, Nat.le_refl _, Rd.nil _ _, K.Lim.nil, rfl⟩
end Go.Proofs.YtbmmilhinbfahaaDoor
/- numbers with a sign -/
namespace Go.Proofs.YtbmmilhinbfahaaDoor
open Go.RowKit
/-- an integer in memory -/
def NumV (w : World) (v : Value) (n : Int) : Prop := ∃ sz b, v = .agg #[.bool b, sz] ∧ Hid (b = decide (n < 0)) ∧ NatV w sz n.natAbs
theorem NumV.ext {w w' : World} {v : Value} {n : Int} (h : NumV w v n) (e : Ext w w') : NumV w' v n := by
  obtain ⟨sz, b, h1, hb, h2⟩ := h
  exact ⟨sz, b, h1, hb, h2.ext e⟩
def NumPost (n : Int) (w : World) (e : Ending) (w' : World) : Prop := ∃ v, e = .returned v ∧ NumV w' v n ∧ Ext w w'
theorem NatV.len_zero {w : World} {A : Option Addr} {k c m : Nat} (h : NatV w (.slice A k c) m) : (0 < k) ↔ 0 < m := by
  obtain ⟨A', k', c', xs, hv, hl, _, _, hL, hm⟩ := h
  injection hv with _ hk _
  subst hk hm
  have := hL.zero_iff
  rcases Nat.eq_zero_or_pos k with h0 | h0
  · have : xs = [] := List.eq_nil_of_length_eq_zero (by omega)
    subst this; simp [K.lv]; omega
  · have : xs ≠ [] := by intro e; subst e; simp at hl; omega
    have := hL.pos this
    omega
/-- a block of two cells of the call's own, behind a call -/
theorem two_facts {W w' : World} {a b : Value} {t : TypeId} {H : Nat} (e : Ext (W.alloc (.cells #[a, b] t)) w') (hH : W.heap.size = H) :
    w'.cell? ⟨H, 0, none⟩ = some a ∧ w'.cell? ⟨H, 1, none⟩ = some b ∧ w'.frozen? ⟨H, 0, none⟩ = false ∧ w'.frozen? ⟨H, 1, none⟩ = false ∧ H < w'.heap.size ∧ Row w' H t [a, b] := by
  subst hH
  have h : Row w' W.heap.size t [a, b] := (Row.new W t [a, b]).ext e
  exact ⟨by rw [h.cell]; rfl, by rw [h.cell]; rfl, h.free 0, h.free 1, h.lt, h⟩
theorem NatV.slice {w : World} {v : Value} {n : Nat} (h : NatV w v n) : ∃ A k c, v = .slice A k c := by
  obtain ⟨A, k, c, _, rfl, _⟩ := h
  exact ⟨A, k, c, rfl⟩
/-- a row of numbers stands while a block that holds none is written -/
theorem Rd.two {w : World} {A A1 : Option Addr} {vs : List Value} {H k1 c1 : Nat} {t : TypeId} {x : Bool} {a b : Value} (h : Rd w A vs) (hv : ∀ u ∈ vs, ∃ k q, u = .int k q)
    (r : Row w H t [.bool x, .slice A1 k1 c1]) : Rd ((w.setCell ⟨H, 0, none⟩ a).setCell ⟨H, 1, none⟩ b) A vs := by
  rcases h with h | ⟨b1, o, hA, hb, hc⟩
  · exact .inl h
  · by_cases hH : b1 = H
    · subst hH
      refine .inl ?_
      cases vs with
      | nil => rfl
      | cons u vs =>
        exfalso
        have h0 := hc 0 u rfl
        obtain ⟨k, q, rfl⟩ := hv u (List.mem_cons_self ..)
        rw [r.cell] at h0
        match o, h0 with
        | 0, h0 => simp at h0
        | 1, h0 => simp at h0
        | o + 2, h0 => simp at h0
    · refine .inr ⟨b1, o, hA, by simpa [World.setCell] using hb, fun j u hu => ?_⟩
      rw [World.cell?_of_block (Below.heap_setCell _ _ _ _ (by exact hH)), World.cell?_of_block (Below.heap_setCell _ _ _ _ (by exact hH))]
      exact hc j u hu
theorem NatV.two {w : World} {v : Value} {n : Nat} {A1 : Option Addr} {H k1 c1 : Nat} {t : TypeId} {x : Bool} {a b : Value} (h : NatV w v n) (r : Row w H t [.bool x, .slice A1 k1 c1]) :
    NatV ((w.setCell ⟨H, 0, none⟩ a).setCell ⟨H, 1, none⟩ b) v n := by
  obtain ⟨A, k, c, xs, h1, h2, h3, h4, h5⟩ := h
  exact ⟨A, k, c, xs, h1, h2, h3, h4.two (by intro u hu; obtain ⟨y, _, rfl⟩ := List.mem_map.1 hu; exact ⟨_, _, rfl⟩) r, h5⟩
/-- a number is stored into the result's cells -/
theorem NumPost.stored {w W w3 : World} {n : Int} {A3 : Option Addr} {k3 c3 H : Nat} {t : TypeId} (hx : Ext (W.alloc (.cells #[.bool false, .slice none 0 0] t)) w3) (hW : Ext w W) (hH : W.heap.size = H)
    (hz : NatV w3 (.slice A3 k3 c3) n.natAbs) (b : Bool) (hb : b = decide (n < 0)) :
    NumPost n w (.returned (.agg #[.bool b, .slice A3 k3 c3])) ((w3.setCell ⟨H, 0, none⟩ (.bool b)).setCell ⟨H, 1, none⟩ (.slice A3 k3 c3)) := by
  have r := (two_facts hx hH).2.2.2.2.2
  have hs := hW.size
  refine ⟨_, rfl, ⟨.slice A3 k3 c3, b, rfl, hid hb, hz.two r⟩, ((hW.alloc' _).step hx).set' (by show _ ≤ H; omega) _ |>.set' (by show _ ≤ H; omega) _⟩
end Go.Proofs.YtbmmilhinbfahaaDoor
/- Contracts of the library, laid over this dump's numbers. -/
namespace Go.Proofs.YtbmmilhinbfahaaDoor.Shelf
open Go.Shelf Go.Proofs
def l_lays125_ren : Go.Shelf.Ren := ⟨fun | 125 => 41 | 128 => 56 | 129 => 57 | n => n, fun | 46 => 80 | 3 => 3 | 51 => 94 | 53 => 75 | 4 => 4 | 5 => 5 | 9 => 9 | n => n, fun | n => n⟩
theorem l_lays125 : Go.Proofs.Lays.n125 Tryd.prog l_lays125_ren := {
  mixed := by kernel_rfl
  f125 := Tryd.func41.trans (congrArg some (by kernel_rfl))
  f128 := Tryd.func56.trans (congrArg some (by kernel_rfl))
  f129 := Tryd.func57.trans (congrArg some (by kernel_rfl))
  t3 := Tryd.underlying3
  a3 := Tryd.isAgg3
  z3 := Tryd.sizeOf3
  v3 := Tryd.zeroValue3
  t4 := Tryd.underlying4
  a4 := Tryd.isAgg4
  z4 := Tryd.sizeOf4
  v4 := Tryd.zeroValue4
  t5 := Tryd.underlying5
  a5 := Tryd.isAgg5
  z5 := Tryd.sizeOf5
  v5 := Tryd.zeroValue5
  t9 := Tryd.underlying9
  a9 := Tryd.isAgg9
  z9 := Tryd.sizeOf9
  v9 := Tryd.zeroValue9
  t46 := Tryd.underlying80
  a46 := Tryd.isAgg80
  z46 := Tryd.sizeOf80
  v46 := Tryd.zeroValue80
  t51 := Tryd.underlying94
  a51 := Tryd.isAgg94
  z51 := Tryd.sizeOf94
  v51 := Tryd.zeroValue94
  t53 := Tryd.underlying75
  a53 := Tryd.isAgg75
  z53 := Tryd.sizeOf75
  v53 := Tryd.zeroValue75 }
theorem l_bits_Len (x : Int) (w : World) (h0 : 0 ≤ x) (h1 : x ≤ 18446744073709551615) :
    Calls Tryd.prog 41 #[.int .u64 x] w fun e w' => e = .returned (.int .i64 (Lib.bitLen x.toNat)) ∧ w' = w := Any.bits_Len l_lays125 x w h0 h1
def l_lays101_ren : Go.Shelf.Ren := ⟨fun | 101 => 35 | 208 => 44 | 206 => 66 | n => n, fun | 9 => 9 | 4 => 4 | 3 => 3 | n => n, fun | n => n⟩
theorem l_lays101 : Go.Proofs.Lays.n101 Tryd.prog l_lays101_ren := {
  mixed := by kernel_rfl
  f101 := Tryd.func35.trans (congrArg some (by kernel_rfl))
  f206 := Tryd.func66.trans (congrArg some (by kernel_rfl))
  f208 := Tryd.func44.trans (congrArg some (by kernel_rfl))
  t3 := Tryd.underlying3
  a3 := Tryd.isAgg3
  z3 := Tryd.sizeOf3
  v3 := Tryd.zeroValue3
  t4 := Tryd.underlying4
  a4 := Tryd.isAgg4
  z4 := Tryd.sizeOf4
  v4 := Tryd.zeroValue4
  t9 := Tryd.underlying9
  a9 := Tryd.isAgg9
  z9 := Tryd.sizeOf9
  v9 := Tryd.zeroValue9 }
open Go.RowKit Go.Lib in
theorem l_strings_TrimPrefix (s p : ByteArray) (w : World) :
    Calls Tryd.prog 35 #[.string s, .string p] w fun e w' => e = .returned (.string ⟨(Lib.trimPrefix s.data.toList p.data.toList).toArray⟩) ∧ w' = w := Any.strings_TrimPrefix l_lays101 s p w
end Go.Proofs.YtbmmilhinbfahaaDoor.Shelf
/- appendLimb, (natural).digits, (number).text -/
namespace Go.Proofs.YtbmmilhinbfahaaDoor
open Go.RowKit
abbrev Bytes (l : List UInt8) : List Value := l.map fun b => Value.int .u8 (b.toNat : Int)
/-- the last k decimal digits -/
def pad : Nat → Nat → List UInt8
  | 0, _ => []
  | k + 1, x => pad k (x / 10) ++ [K.chr (x % 10)]
theorem pad_len : ∀ k x, (pad k x).length = k
  | 0, _ => rfl
  | k + 1, x => by simp [pad, pad_len k]
theorem pad_zero : ∀ k, pad k 0 = List.replicate k 48
  | 0 => rfl
  | k + 1 => by rw [pad, Nat.zero_div, pad_zero k, List.replicate_succ']; rfl
theorem dgs_pad : ∀ (k x y : Nat), x < 10 ^ k → 0 < y → K.dgs (x + 10 ^ k * y) = K.dgs y ++ pad k x
  | 0, x, y, h, _ => by
    have : x = 0 := by simpa using h
    subst this; simp [pad]
  | k + 1, x, y, h, hy => by
    have hp : 10 ^ (k + 1) * y = 10 * (10 ^ k * y) := by rw [Nat.pow_succ, Nat.mul_comm (10 ^ k) 10, Nat.mul_assoc]
    have h1 : 0 < 10 ^ k * y := Nat.mul_pos (Nat.pow_pos (by omega)) hy
    rw [Nat.pow_succ] at h
    rw [K.dgs_big (by omega), hp, show (x + 10 * (10 ^ k * y)) / 10 = x / 10 + 10 ^ k * y by omega, show (x + 10 * (10 ^ k * y)) % 10 = x % 10 by omega,
      dgs_pad k (x / 10) y (by omega) hy, pad, List.append_assoc]
theorem dgs_limb (x y : Nat) (h : x < 1000000000) (hy : 0 < y) : K.dgs (x + 1000000000 * y) = K.dgs y ++ pad 9 x := dgs_pad 9 x y h hy
theorem decDigits_dgs (n : Nat) : Lib.decDigits n = K.dgs n := by
  induction n using Nat.strongRecOn with
  | ind n ih =>
    by_cases h : n < 10
    · rw [K.dgs_small h, Lib.decDigits, dif_pos h]; rfl
    · rw [K.dgs_big h, Lib.decDigits, dif_neg h, ih _ (by omega)]; rfl
/-- the table that printing reads -/
def Tab (w : World) : Prop := Lib.TabIs Tryd.prog w "internal/strconv.uint64pow10" .u64 Lib.pow10Tab
theorem Tab.ext {w w' : World} (h : Tab w) (e : Ext w w') : Tab w' := by
  have hg : Tryd.prog.globalNamed "internal/strconv.uint64pow10" = some 0 := by kernel_rfl
  refine var?_below e hg ?_ h
  rcases Nat.lt_or_ge 0 w.heap.size with hl | hl
  · exact hl
  · exfalso
    unfold Tab Lib.TabIs World.var? at h
    rw [hg, Option.bind_some, Array.getElem?_eq_none hl] at h
    cases h
/-- what an owned row of bytes is: a block, its spare behind it -/
theorem own_form {w : World} {base n : Nat} {v : Value} {vs : List Value} {e : TypeId} (h : w.ownsRow base e 1 v n vs) (hn : 0 < n) :
    ∃ g cap sp, v = .slice (some ⟨g, 0, none⟩) n cap ∧ base ≤ g ∧ n ≤ cap ∧ cap ≤ maxLen ∧ Row w g e (vs ++ sp) ∧ vs.length = n ∧ sp.length = cap - n := by
  rcases h.2 with ⟨_, h0⟩ | ⟨g, cap, cur, hv, hg, hh, hc, hm, hs, ht⟩
  · omega
  · have hl : vs.length = n := by have := h.1; omega
    refine ⟨g, cap, cur.toList.drop (n * 1), hv, hg, hc, hm, ?_, hl, by simp; omega⟩
    unfold Row
    rw [hh, ← ht, List.take_append_drop]
theorem own_of_row {w : World} {base n g cap : Nat} {vs sp : List Value} {e : TypeId} (r : Row w g e (vs ++ sp)) (hb : base ≤ g) (hl : vs.length = n) (hc : n ≤ cap) (hm : cap ≤ maxLen) (hs : sp.length = cap - n) :
    w.ownsRow base e 1 (.slice (some ⟨g, 0, none⟩) n cap) n vs := by
  refine ⟨by omega, .inr ⟨g, cap, (vs ++ sp).toArray, rfl, hb, r, hc, hm, by simp; omega, ?_⟩⟩
  subst hl
  simp
/-- a row of the call's own from base on, and the world below base as it was -/
def BytesPost (base n : Nat) (vs : List Value) (w : World) (e : Ending) (w' : World) : Prop := ∃ v, e = .returned v ∧ w'.ownsRow base 5 1 v n vs ∧ Below base w w' ∧ base ≤ w'.heap.size
end Go.Proofs.YtbmmilhinbfahaaDoor
/- (natural).digits, (number).text, num.write -/
namespace Go.Proofs.YtbmmilhinbfahaaDoor
open Go.RowKit
theorem below_drewN' {B : Nat} {a w : World} (h : Below B a w) (n : Nat) : Below B a (w.drewN n) := ⟨h.os, h.tape, h.output, h.size, h.block⟩
theorem lim_drop_pos {xs : List Nat} (h : K.Lim xs) {k : Nat} (hk : k < xs.length) : 0 < K.lv (xs.drop k) := by
  have hl : K.Lim (xs.drop k) := by
    refine ⟨fun x hx => h.1 x (List.mem_of_mem_drop hx), ?_⟩
    rw [List.getLast?_drop, if_neg (by omega)]
    exact h.2
  exact hl.pos (by intro e; have := congrArg List.length e; simp at this; omega)
end Go.Proofs.YtbmmilhinbfahaaDoor
/- (number).plus, (number).minus -/
namespace Go.Proofs.YtbmmilhinbfahaaDoor
open Go.RowKit
theorem Ext.undrew {w w' : World} (h : Ext w.drew w') : Ext w w' := ⟨h.os, h.tape, h.output, h.size, h.block⟩
theorem Ext.undrewN {w w' : World} {n : Nat} (h : Ext (w.drewN n) w') : Ext w w' := ⟨h.os, h.tape, h.output, h.size, h.block⟩
theorem Ext.drew' {a b : World} (h : Ext a b) : Ext a b.drew := ⟨h.os, h.tape, h.output, h.size, h.block⟩
end Go.Proofs.YtbmmilhinbfahaaDoor
/- (number).times, (number).minus -/
namespace Go.Proofs.YtbmmilhinbfahaaDoor
open Go.RowKit
end Go.Proofs.YtbmmilhinbfahaaDoor
/- (number).compare, positive, rest, divide -/
namespace Go.Proofs.YtbmmilhinbfahaaDoor
open Go.RowKit
def sgnI (a b : Int) : Int := if a < b then -1 else if b < a then 1 else 0
/-- two boxed numbers, read through whatever is laid behind them -/
theorem boxes {w w' : World} {a0 a1 b0 b1 : Value} {t : TypeId} (e : Ext ((w.alloc (.cells #[a0, a1] t)).alloc (.cells #[b0, b1] t)) w') :
    w'.cell? ⟨w.heap.size, 0, none⟩ = some a0 ∧ w'.cell? ⟨w.heap.size, 1, none⟩ = some a1 ∧ w'.cell? ⟨w.heap.size + 1, 0, none⟩ = some b0 ∧ w'.cell? ⟨w.heap.size + 1, 1, none⟩ = some b1 := by
  have h1 := two_facts (W := w) (H := w.heap.size) (t := t) (a := a0) (b := a1) (Ext.step ((Ext.rfl' _).alloc' _) e) rfl
  have h2 := two_facts (W := w.alloc (.cells #[a0, a1] t)) (H := w.heap.size + 1) (t := t) (a := b0) (b := b1) e (by simp)
  exact ⟨h1.1, h1.2.1, h2.1, h2.2.1⟩
/-- division of a negative number -/
theorem div_neg {m n : Int} (hm : m < 0) (hn : 0 < n) (h0 : m.natAbs % n.natAbs = 0) : m / n = -((m.natAbs / n.natAbs : Nat) : Int) ∧ m % n = 0 := by
  have h := Nat.div_add_mod m.natAbs n.natAbs
  refine (Int.ediv_emod_unique hn).2 ⟨?_, by omega, hn⟩
  rw [h0, Nat.add_zero] at h
  have h' : ((n.natAbs * (m.natAbs / n.natAbs) : Nat) : Int) = (m.natAbs : Int) := by rw [h]
  rw [Int.natCast_mul] at h'
  rw [Int.mul_neg]
  have e1 : (n.natAbs : Int) = n := by omega
  rw [e1] at h'
  omega
theorem div_neg' {m n : Int} (hm : m < 0) (hn : 0 < n) (h0 : 0 < m.natAbs % n.natAbs) : m / n = -(((m.natAbs / n.natAbs + 1 : Nat)) : Int) ∧ m % n = ((n.natAbs - m.natAbs % n.natAbs : Nat) : Int) := by
  have h := Nat.div_add_mod m.natAbs n.natAbs
  have hlt := Nat.mod_lt m.natAbs (show 0 < n.natAbs by omega)
  refine (Int.ediv_emod_unique hn).2 ⟨?_, by omega, by omega⟩
  have h' : ((n.natAbs * (m.natAbs / n.natAbs) + m.natAbs % n.natAbs : Nat) : Int) = (m.natAbs : Int) := by rw [h]
  rw [Int.natCast_add, Int.natCast_mul] at h'
  rw [Int.mul_neg, Int.natCast_add, Int.mul_add]
  have e1 : (n.natAbs : Int) = n := by omega
  rw [e1] at h'
  omega
theorem div_pos' {m n : Int} (hm : ¬ m < 0) (hn : 0 < n) : m / n = ((m.natAbs / n.natAbs : Nat) : Int) ∧ m % n = ((m.natAbs % n.natAbs : Nat) : Int) := by
  have h := Nat.div_add_mod m.natAbs n.natAbs
  have hlt := Nat.mod_lt m.natAbs (show 0 < n.natAbs by omega)
  refine (Int.ediv_emod_unique hn).2 ⟨?_, by omega, by omega⟩
  have h' : ((n.natAbs * (m.natAbs / n.natAbs) + m.natAbs % n.natAbs : Nat) : Int) = (m.natAbs : Int) := by rw [h]
  rw [Int.natCast_add, Int.natCast_mul] at h'
  have e1 : (n.natAbs : Int) = n := by omega
  rw [e1] at h'
  omega
set_option maxHeartbeats 800000 in
theorem nrest_any (va : Value) (m : Int) (d : Nat) (w : World) (ha : NumV w va m) (la : m.natAbs ≤ BIG) (hd : 0 < d) (hd2 : d ≤ 2147483648) :
    Calls Tryd.prog 37 #[va, .int .u64 (d : Int)] w fun e w' => e = .returned (.int .u64 (m % d)) ∧ Ext w w' := by
  obtain ⟨sa, ba, rfl, hba, hza⟩ := ha
  obtain ⟨A, ka, ca, rfl⟩ := hza.slice
  have eba := hba.out
  subst eba
  have hlt := Nat.mod_lt m.natAbs hd
  have hE : ∀ x, Ext w (w.alloc x) := fun x => (Ext.rfl' w).alloc' x
  by_cases h1 : m < 0
  · rw [decide_eq_true h1]
    by_cases h0 : m.natAbs % d = 0
    · have hv : m % (d : Int) = 0 := (div_neg (n := d) h1 (by omega) (by simpa using h0)).2
      have HV := hid hv
      have H0 := hid h0
      clear hv h0 hba
      go_enter Tryd.func37, Tryd.ntmps37
      go_wp2_with fail
      refine (divS_any _ m.natAbs d _ (hza.ext (hE _)) la hd hd2).mono ?_
      rintro e w3 ⟨v3, rfl, hz3, hx3⟩
      obtain ⟨c0, c1, -, -, -, -⟩ := two_facts hx3 rfl
      rw [H0.out]
      go_wp2
      go_ret
      exact ⟨by rw [HV.out]; rfl, (hE _).step hx3⟩
    · have hv : m % (d : Int) = ((d - m.natAbs % d : Nat) : Int) := by
        have := (div_neg' (n := d) h1 (by omega) (by simp; omega)).2
        simpa using this
      have HV := hid hv
      have hr0 : 0 < m.natAbs % d := by omega
      clear hv hba h0
      go_enter Tryd.func37, Tryd.ntmps37
      go_wp2_with fail
      refine (divS_any _ m.natAbs d _ (hza.ext (hE _)) la hd hd2).mono ?_
      rintro e w3 ⟨v3, rfl, hz3, hx3⟩
      obtain ⟨c0, c1, -, -, -, -⟩ := two_facts hx3 rfl
      generalize m.natAbs % d = r at *
      go_wp2
      go_ret
      exact ⟨by rw [HV.out, Int.ofNat_sub (by omega)]; rfl, (hE _).step hx3⟩
  · rw [decide_eq_false h1]
    have hv : m % (d : Int) = ((m.natAbs % d : Nat) : Int) := by
      have := (div_pos' (n := d) h1 (by omega)).2
      simpa using this
    have HV := hid hv
    clear hv hba
    go_enter Tryd.func37, Tryd.ntmps37
    go_wp2_with fail
    refine (divS_any _ m.natAbs d _ (hza.ext (hE _)) la hd hd2).mono ?_
    rintro e w3 ⟨v3, rfl, hz3, hx3⟩
    obtain ⟨c0, c1, -, -, -, -⟩ := two_facts hx3 rfl
    generalize m.natAbs % d = r at *
    go_wp2
    go_ret
    exact ⟨by rw [HV.out]; rfl, (hE _).step hx3⟩
end Go.Proofs.YtbmmilhinbfahaaDoor
/- (number).divide -/
namespace Go.Proofs.YtbmmilhinbfahaaDoor
open Go.RowKit
theorem NatV.one (w : World) : NatV (w.alloc (.cells #[.int .u64 1] 75)) (.slice (some ⟨w.heap.size, 0, none⟩) 1 1) 1 :=
  ⟨_, 1, 1, [1], rfl, rfl, Nat.le_refl _, (Row.new w 75 [.int .u64 1]).rd0, ⟨by simp, by simp⟩, rfl⟩
theorem abs_neg (q : Nat) : (-(q : Int)).natAbs = q := by omega
theorem abs_cast (q : Nat) : ((q : Int)).natAbs = q := by omega
theorem dec_neg (q : Nat) : (true && decide (0 < q)) = decide (-(q : Int) < 0) := by rw [Bool.eq_iff_iff]; simp
theorem dec_cast (q : Nat) : false = decide ((q : Int) < 0) := by symm; simp
/-- two boxes and two results -/
theorem four {w w' : World} {a0 a1 b0 b1 c0 c1 d0 d1 : Value} {t : TypeId} (e : Ext ((((w.alloc (.cells #[a0, a1] t)).alloc (.cells #[b0, b1] t)).alloc (.cells #[c0, c1] t)).alloc (.cells #[d0, d1] t)) w') :
    (w'.cell? ⟨w.heap.size, 0, none⟩ = some a0 ∧ w'.cell? ⟨w.heap.size, 1, none⟩ = some a1 ∧ w'.cell? ⟨w.heap.size + 1, 0, none⟩ = some b0 ∧ w'.cell? ⟨w.heap.size + 1, 1, none⟩ = some b1) ∧
      Row w' (w.heap.size + 1 + 1) t [c0, c1] ∧ Row w' (w.heap.size + 1 + 1 + 1) t [d0, d1] ∧ w.heap.size + 1 + 1 + 1 < w'.heap.size := by
  have h3 := two_facts (W := (w.alloc (.cells #[a0, a1] t)).alloc (.cells #[b0, b1] t)) (H := w.heap.size + 1 + 1) (t := t) (a := c0) (b := c1) (Ext.step ((Ext.rfl' _).alloc' _) e) (by simp)
  have h4 := two_facts (H := w.heap.size + 1 + 1 + 1) e (by simp)
  exact ⟨boxes (Ext.step (((Ext.rfl' _).alloc' _).alloc' _) e), h3.2.2.2.2.2, h4.2.2.2.2.2, h4.2.2.2.2.1⟩
theorem Row.facts {w : World} {g : Nat} {t : TypeId} {a b : Value} (h : Row w g t [a, b]) : w.cell? ⟨g, 0, none⟩ = some a ∧ w.cell? ⟨g, 1, none⟩ = some b ∧ w.frozen? ⟨g, 0, none⟩ = false ∧ w.frozen? ⟨g, 1, none⟩ = false :=
  ⟨by rw [h.cell]; rfl, by rw [h.cell]; rfl, h.free 0, h.free 1⟩
def PairPost (q r : Int) (w : World) (e : Ending) (w' : World) : Prop := ∃ v1 v2, e = .returned (.tuple #[v1, v2]) ∧ NumV w' v1 q ∧ NumV w' v2 r ∧ Ext w w'
/-- two numbers stored into the results' cells -/
theorem PairPost.stored {w w3 : World} {q r : Int} {A1 A2 : Option Addr} {k1 c1 k2 c2 H : Nat} {t : TypeId} (r1 : Row w3 H t [.bool false, .slice none 0 0]) (r2 : Row w3 (H + 1) t [.bool false, .slice none 0 0])
    (hw : Ext w w3) (hH : w.heap.size ≤ H) {b1 b2 : Bool} (h1 : Hid (b1 = decide (q < 0))) (h2 : Hid (b2 = decide (r < 0))) (z1 : NatV w3 (.slice A1 k1 c1) q.natAbs) (z2 : NatV w3 (.slice A2 k2 c2) r.natAbs) :
    PairPost q r w (.returned (.tuple #[.agg #[.bool b1, .slice A1 k1 c1], .agg #[.bool b2, .slice A2 k2 c2]]))
      ((((w3.setCell ⟨H, 0, none⟩ (.bool b1)).setCell ⟨H, 1, none⟩ (.slice A1 k1 c1)).setCell ⟨H + 1, 0, none⟩ (.bool b2)).setCell ⟨H + 1, 1, none⟩ (.slice A2 k2 c2)) := by
  have r2' : Row ((w3.setCell ⟨H, 0, none⟩ (.bool b1)).setCell ⟨H, 1, none⟩ (.slice A1 k1 c1)) (H + 1) t [.bool false, .slice none 0 0] :=
    (r2.far (by show H + 1 ≠ H; omega) _).far (by show H + 1 ≠ H; omega) _
  exact ⟨_, _, rfl, ⟨_, _, rfl, h1, (z1.two r1).two r2'⟩, ⟨_, _, rfl, h2, (z2.two r1).two r2'⟩,
    (((hw.set' (by show _ ≤ H; omega) _).set' (by show _ ≤ H; omega) _).set' (by show _ ≤ H + 1; omega) _).set' (by show _ ≤ H + 1; omega) _⟩
end Go.Proofs.YtbmmilhinbfahaaDoor
/- (number).text, num.write -/
namespace Go.Proofs.YtbmmilhinbfahaaDoor
open Go.RowKit
/-- the string of bytes -/
def Str (l : List UInt8) : ByteArray := ⟨l.toArray⟩
theorem conv_bytes {w : World} {base n : Nat} {v : Value} {l : List UInt8} (h : w.ownsRow base 5 1 v n (Bytes l)) (hl : 0 < l.length) :
    (convert 105 9 v).run Tryd.prog w = .ok (.string (Str l)) w := by
  have hn : l.length = n := by have := h.1; simpa using this
  obtain ⟨g, cap, sp, rfl, _, _, _, hrow, hvl, _⟩ := own_form h (by omega)
  have hc : ∀ i, i < n → w.cell? ⟨g, 0 + i, none⟩ = some (.int .u8 ((l.map fun b => (b.toNat : Int)).getD i 0)) := by
    intro i hi
    rw [hrow.cell, Nat.zero_add, List.getElem?_append_left (by omega)]
    simp [Bytes, List.getD, List.getElem?_eq_getElem (show i < l.length by omega)]
  have := run_convert_bytes_arg (P := Tryd.prog) w 105 5 Tryd.underlying105 Tryd.underlying5 g 0 n cap (l.map fun b => (b.toNat : Int)) (by simpa using hn) hc 9 Tryd.underlying9
  have e : strOfNums (l.map fun b => (b.toNat : Int)) = Str l := by
    have e0 : ((l.map fun b => (b.toNat : Int)).map fun n => UInt8.ofNat n.toNat) = l := by
      rw [List.map_map]
      conv => rhs; rw [← List.map_id l]
      apply List.map_congr_left
      intro b _
      simp
    exact congrArg (fun l : List UInt8 => (⟨l.toArray⟩ : ByteArray)) e0
  rw [e] at this
  exact this
def StrPost (l : List UInt8) (w : World) (e : Ending) (w' : World) : Prop := e = .returned (.string (Str l)) ∧ Ext w w'
theorem trim_minus (l : List UInt8) : Lib.trimPrefix l [45] = K.body l := by
  unfold Lib.trimPrefix Lib.hasPrefix K.body
  cases l with
  | nil => simp
  | cons c r =>
    by_cases h : c = 45
    · subst h; simp
    · have h' : ¬ (45 = c) := fun e => h e.symm
      simp [h, h']
theorem trimPrefix_any (l : List UInt8) (w : World) :
    Calls Tryd.prog 35 #[.string (Str l), .string ⟨#[45]⟩] w fun e w' => e = .returned (.string (Str (K.body l))) ∧ w = w' :=
  (Shelf.l_strings_TrimPrefix (Str l) ⟨#[45]⟩ w).mono fun e w' ⟨he, hw⟩ => by
    have e1 : Lib.trimPrefix (Str l).data.toList (⟨#[45]⟩ : ByteArray).data.toList = K.body l := trim_minus l
    rw [e1] at he
    exact ⟨he, hw.symm⟩
theorem Str_size (l : List UInt8) : (Str l).size = l.length := by simp [Str, ByteArray.size]
/-- what Add and its kin return: the text, or ErrSize -/
def ToldPost (n : Int) (w : World) (e : Ending) (w' : World) : Prop :=
  (K.fits n → e = .returned (.tuple #[.string (Str (K.txt n)), .int .i64 0])) ∧ (¬ K.fits n → e = .returned (.tuple #[.string ⟨#[]⟩, .int .i64 3])) ∧ Ext w w'
end Go.Proofs.YtbmmilhinbfahaaDoor
/- num.Valid -/
namespace Go.Proofs.YtbmmilhinbfahaaDoor
open Go.RowKit
theorem Str_toList (l : List UInt8) : (Str l).toList = l := by rw [ByteArray.toList_eq]; simp [Str]
theorem Str_get (l : List UInt8) (i : Nat) (h : i < (Str l).size) : (Str l)[i]'h = l[i]'(by rw [Str_size] at h; exact h) := by
  show (Str l).data[i]'_ = _
  simp [Str]
theorem Str_at {l : List UInt8} {i : Nat} {c : UInt8} (h : l[i]? = some c) : ∃ hh : i < (Str l).size, (Str l)[i]'hh = c := by
  obtain ⟨hi, hc⟩ := List.getElem?_eq_some_iff.1 h
  exact ⟨by rw [Str_size]; exact hi, by rw [Str_get]; exact hc⟩
theorem all_take {l : List UInt8} {k : Nat} {c : UInt8} (h : l[k]? = some c) (ha : (l.take k).all K.dig = true) (hc : K.dig c = true) : (l.take (k + 1)).all K.dig = true := by
  obtain ⟨hk, e⟩ := List.getElem?_eq_some_iff.1 h
  rw [List.take_succ_eq_append_getElem hk, e, List.all_append, ha]
  simp [hc]
theorem all_false {l : List UInt8} {k : Nat} {c : UInt8} (h : l[k]? = some c) (hc : K.dig c = false) : l.all K.dig = false := by
  rw [List.all_eq_false]
  exact ⟨c, List.mem_of_getElem? h, by simp [hc]⟩
theorem Ext.iter (w : World) (s : ByteArray) (pos : Nat) : Ext w (w.iter s pos) := (Ext.rfl' w).alloc' _
set_option maxRecDepth 100000 in
set_option maxHeartbeats 800000 in
theorem valid_any (l : List UInt8) (w : World) (hl : l.length ≤ 140737488351232) :
    Calls Tryd.prog 24 #[.string (Str l)] w fun e w' => e = .returned (.bool (K.validL l)) ∧ Ext w w' := by
  have hbl : (K.body l).length ≤ l.length := by unfold K.body; split <;> simp
  have hv : K.validL l = (!(K.body l).isEmpty && decide ((K.body l).length ≤ 2000) && (if (K.body l).head? = some 48 then l == [48] else (K.body l).all K.dig)) := rfl
  have t1 := Str_toList l
  obtain ⟨b, hb⟩ : ∃ b, K.body l = b := ⟨_, rfl⟩
  rw [hb] at hv hbl
  have HB := hid hb
  have HV := hid hv
  have t2 := Str_toList b
  have s2 := Str_size b
  clear hv hb
  cases b with
  | nil =>
    have hv : K.validL l = false := by rw [HV.out]; rfl
    rw [hv]
    go_enter Tryd.func24, Tryd.ntmps24
    go_wp2_with fail
    refine (trimPrefix_any _ _).mono ?_
    rintro e w2 ⟨rfl, rfl⟩
    rw [HB.out]
    go_wp2
    go_ret
    exact ⟨rfl, Ext.rfl' _⟩
  | cons c r =>
    by_cases h2000 : (c :: r).length ≤ 2000
    · by_cases h48 : c = 48
      · have hv : K.validL l = (l == [48]) := by rw [HV.out, h48]; simp; intro _; simpa using h2000
        obtain ⟨h0, e0⟩ := Str_at (l := c :: r) (i := 0) (c := c) rfl
        have hc : ((((Str (c :: r))[0]'h0).toNat : Int) == 48) = true := by rw [e0, h48]; rfl
        rw [hv]
        have hn1 : r.length + 1 ≤ 2000 := by simpa using h2000
        clear hv e0 h48
        go_enter Tryd.func24, Tryd.ntmps24
        go_wp2_with fail
        refine (trimPrefix_any _ _).mono ?_
        rintro e w2 ⟨rfl, rfl⟩
        rw [HB.out]
        go_wp2
        go_ret
        exact ⟨rfl, Ext.rfl' _⟩
      · have hv : K.validL l = (c :: r).all K.dig := by
          rw [HV.out, if_neg (by simpa using h48)]
          simp only [List.isEmpty_cons, Bool.not_false, Bool.true_and, h2000, decide_true]
        obtain ⟨h0, e0⟩ := Str_at (l := c :: r) (i := 0) (c := c) rfl
        have hc : ((((Str (c :: r))[0]'h0).toNat : Int) == 48) = false := by
          rw [e0]; simp; intro e; apply h48
          exact UInt8.toNat.inj (by simp; omega)
        have HVV := hid hv
        have hn1 : r.length + 1 ≤ 2000 := by simpa using h2000
        have hn : (Str (c :: r)).size ≤ 2000 := by rw [Str_size]; exact h2000
        have HN := hid hn
        clear hv e0 h48
        go_enter Tryd.func24, Tryd.ntmps24
        go_wp2_with fail
        refine (trimPrefix_any _ _).mono ?_
        rintro e w2 ⟨rfl, rfl⟩
        rw [HB.out]
        go_wp2_with fail
        generalize (Str (c :: r))[0]'h0 = x0 at *
        clear t1 t2 s2 h2000 hbl hn hn1 hc h0
        generalize hbb : c :: r = b at *
        go_loopw [] (fun wr => ∃ pos : Nat, pos ≤ (Str b).size ∧ wr = w.iter (Str b) pos ∧ (b.take pos).all K.dig = true) (fun wr => (Str b).size - wr.iterPos w.heap.size)
        case atStart => exact ⟨0, by omega, rfl, by simp⟩
        case round =>
          obtain ⟨pos, hp, rfl, hall⟩ := hrel
          have HA := hid hall
          clear hall hbb
          by_cases hlt : pos < (Str b).size
          · obtain ⟨x, ex⟩ : ∃ x, b[pos]? = some x := ⟨_, List.getElem?_eq_getElem (by rw [Str_size] at hlt; exact hlt)⟩
            obtain ⟨hh, e0⟩ := Str_at ex
            have HX := hid ex
            clear ex
            by_cases hx : x.toNat < 128
            · have hnx : ∀ ty, (Instr.next (.pointer (some ⟨w.heap.size, 0, none⟩)) true ty).run Tryd.prog (w.iter (Str b) pos) = .ok (.tuple #[.bool true, .int .i64 pos, .int .i32 x.toNat]) (w.iter (Str b) (pos + 1)) := fun ty => by
                have h := run_next_ascii (P := Tryd.prog) w (Str b) pos ty hlt (by rw [e0]; exact hx)
                rw [e0] at h
                exact h
              have h48 : (c :: r).length = (c :: r).length := rfl
              clear e0 h48
              by_cases hd1 : x.toNat < 48
              · have HF : Hid (b.all K.dig = false) := hid <| all_false HX.out (by unfold K.dig; simp; omega)
                go_wp2
                go_ret
                exact ⟨by rw [HVV.out, HF.out]; rfl, Ext.iter _ _ _⟩
              · by_cases hd2 : 57 < x.toNat
                · have HF : Hid (b.all K.dig = false) := hid <| all_false HX.out (by unfold K.dig; simp; omega)
                  go_wp2
                  go_ret
                  exact ⟨by rw [HVV.out, HF.out]; rfl, Ext.iter _ _ _⟩
                · have hdg : Hid (K.dig x = true) := by unfold K.dig Hid; simp; omega
                  go_wp2
                  go_roundw
                  case rel => exact ⟨pos + 1, by omega, rfl, all_take HX.out HA.out hdg.out⟩
                  case measure => simp; omega
            · have hhigh := decode_high (Str b) pos hlt (by rw [e0]; omega)
              have hnx : ∀ ty, (Instr.next (.pointer (some ⟨w.heap.size, 0, none⟩)) true ty).run Tryd.prog (w.iter (Str b) pos) = _ := fun ty => run_next_any w (Str b) pos ty hlt
              have HF : Hid (b.all K.dig = false) := hid <| all_false HX.out (by unfold K.dig; simp; omega)
              have hge : ¬ ((Utf8.decode (Str b) pos).1 : Int) < 48 := by omega
              have hgt : (57 : Int) < ((Utf8.decode (Str b) pos).1 : Int) := by omega
              clear e0 hhigh
              generalize Utf8.decode (Str b) pos = dd at *
              go_wp2
              go_ret
              exact ⟨by rw [HVV.out, HF.out]; rfl, Ext.iter _ _ _⟩
          · have hnx : ∀ ty, (Instr.next (.pointer (some ⟨w.heap.size, 0, none⟩)) true ty).run Tryd.prog (w.iter (Str b) pos) = _ := fun ty => run_next_end w (Str b) pos ty hlt
            have HF : Hid (b.all K.dig = true) := hid <| by
              have h := HA.out
              rwa [List.take_of_length_le (by rw [Str_size] at hlt; omega)] at h
            go_wp2
            go_ret
            exact ⟨by rw [HVV.out, HF.out]; rfl, Ext.iter _ _ _⟩
    · have hv : K.validL l = false := by rw [HV.out]; simp; intro h; simp at h2000; omega
      rw [hv]
      have hn : ¬ r.length + 1 ≤ 2000 := by simpa using h2000
      clear h2000
      go_enter Tryd.func24, Tryd.ntmps24
      go_wp2_with fail
      refine (trimPrefix_any _ _).mono ?_
      rintro e w2 ⟨rfl, rfl⟩
      rw [HB.out]
      go_wp2
      go_ret
      exact ⟨rfl, Ext.rfl' _⟩
end Go.Proofs.YtbmmilhinbfahaaDoor
/- Plain mathematics of reading: decimal digits in groups of nine. -/
namespace Go.Proofs.YtbmmilhinbfahaaDoor
open K
/-- the groups when the digits from 'left' on have been read (the lowest digit first) -/
def grp (e : List UInt8) (left j : Nat) : Nat := dvl ((e.take (9 * j + 9)).drop (max left (9 * j)))
def grps (e : List UInt8) (left m : Nat) : List Nat := (List.range m).map (grp e left)
theorem grps_len (e : List UInt8) (left m : Nat) : (grps e left m).length = m := by simp [grps]
theorem grps_at (e : List UInt8) (left m j : Nat) (h : j < m) : (grps e left m)[j]? = some (grp e left j) := by simp [grps, h]
theorem grps_start (e : List UInt8) (m : Nat) : grps e e.length m = List.replicate m 0 := by
  apply List.ext_getElem
  · simp [grps]
  · intro j h1 h2
    simp only [grps, List.getElem_map, List.getElem_range, List.getElem_replicate, grp]
    rw [List.drop_of_length_le (by rw [List.length_take]; omega)]
    rfl
theorem grps_step (e : List UInt8) (p m : Nat) (c : UInt8) (hc : e[p]? = some c) (hm : p / 9 < m) : (grps e (p + 1) m).set (p / 9) (grp e (p + 1) (p / 9) * 10 + (c.toNat - 48)) = grps e p m := by
  apply List.ext_getElem
  · simp [grps]
  · intro j h1 h2
    rw [List.getElem_set]
    obtain ⟨hp, hcc⟩ := List.getElem?_eq_some_iff.1 hc
    split
    · rename_i hj
      subst hj
      simp only [grps, List.getElem_map, List.getElem_range, grp]
      have e1 : max p (9 * (p / 9)) = p := by omega
      have e2 : (e.take (9 * (p / 9) + 9))[p]? = some c := by rw [List.getElem?_take, if_pos (by omega)]; exact hc
      rw [e1, drop_at e2, dvl]
      by_cases h9 : p + 1 = 9 * (p / 9) + 9
      · rw [List.drop_of_length_le (by rw [List.length_take]; omega), List.drop_of_length_le (by rw [List.length_take]; omega)]
        simp [dvl]
      · rw [show max (p + 1) (9 * (p / 9)) = p + 1 by omega]
        omega
    · rename_i hj
      simp only [grps, List.getElem_map, List.getElem_range, grp]
      rcases Nat.lt_or_ge j (p / 9) with h | h
      · rw [List.drop_of_length_le (by rw [List.length_take]; omega), List.drop_of_length_le (by rw [List.length_take]; omega)]
      · rw [show max (p + 1) (9 * j) = max p (9 * j) by omega]
theorem pow9 (m : Nat) : (10 : Nat) ^ (9 * m) = 1000000000 ^ m := by rw [Nat.pow_mul]
theorem lv_grps (e : List UInt8) : ∀ m, lv (grps e 0 m) = dvl (e.take (9 * m))
  | 0 => by simp [grps, lv, dvl]
  | m + 1 => by
    have h1 : grps e 0 (m + 1) = grps e 0 m ++ [grp e 0 m] := by simp [grps, List.range_succ]
    rw [h1, lv_append, lv_grps e m, grps_len]
    simp only [lv, Nat.mul_zero, Nat.add_zero]
    have h2 : e.take (9 * m + 9) = e.take (9 * m) ++ (e.take (9 * m + 9)).drop (9 * m) := by
      conv => lhs; rw [← List.take_append_drop (9 * m) (e.take (9 * m + 9))]
      rw [List.take_take, Nat.min_eq_left (by omega)]
    rw [show 9 * (m + 1) = 9 * m + 9 by omega]
    conv => rhs; rw [h2, dvl_append]
    unfold grp
    rw [show max 0 (9 * m) = 9 * m by omega]
    by_cases hl : 9 * m ≤ e.length
    · rw [List.length_take, Nat.min_eq_left hl, pow9]
    · rw [List.drop_of_length_le (by rw [List.length_take]; omega)]
      simp [dvl]
theorem grp_lt (e : List UInt8) (left j : Nat) (hd : e.all dig = true) : grp e left j < 1000000000 := by
  unfold grp
  have h1 := dvl_lt ((e.take (9 * j + 9)).drop (max left (9 * j))) (by
    rw [List.all_eq_true] at hd ⊢
    exact fun x hx => hd x (List.mem_of_mem_take (List.mem_of_mem_drop hx)))
  refine Nat.lt_of_lt_of_le h1 ?_
  rw [show (1000000000 : Nat) = 10 ^ 9 from rfl]
  apply Nat.pow_le_pow_right (by omega)
  rw [List.length_drop, List.length_take]
  omega
theorem grps_lt (e : List UInt8) (left m : Nat) (hd : e.all dig = true) : ∀ x ∈ grps e left m, x < 1000000000 := by
  intro x hx
  obtain ⟨j, _, rfl⟩ := List.mem_map.1 hx
  exact grp_lt e left j hd
/-- while a group is being read it is small enough for one digit more -/
theorem grp_open (e : List UInt8) (p : Nat) (hd : e.all dig = true) : grp e (p + 1) (p / 9) < 100000000 := by
  unfold grp
  have h1 := dvl_lt ((e.take (9 * (p / 9) + 9)).drop (max (p + 1) (9 * (p / 9)))) (by
    rw [List.all_eq_true] at hd ⊢
    exact fun x hx => hd x (List.mem_of_mem_take (List.mem_of_mem_drop hx)))
  refine Nat.lt_of_lt_of_le h1 ?_
  rw [show (100000000 : Nat) = 10 ^ 8 from rfl]
  apply Nat.pow_le_pow_right (by omega)
  rw [List.length_drop, List.length_take]
  omega
end Go.Proofs.YtbmmilhinbfahaaDoor
