/- Joined texts: words and rests: plain mathematics; the step law package's helpers: same, awake; the reference's Valid, of a map; the law StepParts; the law StepFirst; step.Orbit in the forms that the laws use; (number).power: the walk; Power and Rest, by contract; step.Orbit and step.Falls where the arguments are not valid; word.rests, word.Word; word.class: everyNumber, first, narrowed; package sieve: root, falls, stays, floor, decimal, restsOf; package sieve: child; the reference's Of, at negative numbers; the reference of layer 2: Rest, Step; the reference's Value of layer 3; append to a list of numbers of the reference's: rows of boxes; the reference's Is of layer 3; word.class.narrowed; word.Rest; word.timesPlus, word.Apply; word.Apply; the word law package's awake; the word law package's awake; the law WordPowers. -/
import Derived.Test.YtbmmilhinbfahaaDoorJG05
import Derived.Test.YtbmmilhinbfahaaDoorJG03
import Derived.Deep.RegionHeldLaw
import Derived.IntWalk
import Derived.Deep.RegionHeld3
import Derived.Deep.DeepCutAuto
import Derived.StillTailTactics
set_option linter.unusedSimpArgs false
set_option linter.unusedVariables false
/- words and rests: plain mathematics -/
namespace Go.Proofs.YtbmmilhinbfahaaDoor
/-- the word of a number begins so -/
def IsWord (m : Int) (us ad : List Int) (ws : List Int) (x : Int) : Prop := ∀ i, i < ws.length → orbN m us ad i x % m = ws.getD i 0
theorem IsWord.nil (m : Int) (us ad : List Int) (x : Int) : IsWord m us ad [] x := fun i hi => absurd hi (by simp)
theorem getD_take {ws : List Int} {j i : Nat} (h : i < j) : (ws.take j).getD i 0 = ws.getD i 0 := by
  rw [List.getD_eq_getElem?_getD, List.getElem?_take_of_lt h, List.getD_eq_getElem?_getD]
theorem growN_line {m : Int} {us ad : List Int} {x : Int} : ∀ (k : Nat) (ws : List Int), ws.length = k → IsWord m us ad ws x → growN m us ad k x = (lineI m us ad ws).1
  | 0, ws, h, _ => by rw [List.eq_nil_of_length_eq_zero h]; rfl
  | k + 1, ws, h, hw => by
    rcases List.eq_nil_or_concat ws with rfl | ⟨p, r, rfl⟩
    · simp at h
    · rw [List.concat_eq_append] at *
      have hp : p.length = k := by simpa using h
      have ih := growN_line k p hp (fun i hi => by
        have := hw i (by simp; omega)
        rwa [List.getD_eq_getElem?_getD, List.getElem?_append_left hi, ← List.getD_eq_getElem?_getD] at this)
      have hr := hw k (by simp; omega)
      rw [List.getD_eq_getElem?_getD, List.getElem?_append_right (by omega), hp, Nat.sub_self] at hr
      have hr2 : orbN m us ad k x % m = r := hr
      rw [growN, ih, lineI_snoc, mulAt, rOf, hr2]
      show _ = us.getD r.toNat 0 * (lineI m us ad p).1
      rw [Int.mul_comm]
/-- one rest more: a number of the class, t places on -/
theorem IsWord.next {m : Int} {us ad : List Int} {ws : List Int} {x t r : Int} (hm : 0 < m) (h : IsWord m us ad ws x) (hr : (orbN m us ad ws.length x + t * (lineI m us ad ws).1) % m = r) :
    IsWord m us ad (ws ++ [r]) (x + t * m ^ ws.length) ∧ orbN m us ad ws.length (x + t * m ^ ws.length) = orbN m us ad ws.length x + t * (lineI m us ad ws).1 := by
  have h2 : orbN m us ad ws.length (x + t * m ^ ws.length) = orbN m us ad ws.length x + t * (lineI m us ad ws).1 := by
    rw [alike_orb hm ws.length x t ws.length (Nat.le_refl _), Nat.sub_self, Int.pow_zero, Int.mul_one, growN_line ws.length ws rfl h]
  refine ⟨fun i hi => ?_, h2⟩
  by_cases hi2 : i < ws.length
  · rw [alike_rest hm ws.length x t i hi2, h i hi2, List.getD_eq_getElem?_getD, List.getD_eq_getElem?_getD, List.getElem?_append_left hi2]
  · obtain rfl : i = ws.length := by simp at hi; omega
    rw [h2, hr, List.getD_eq_getElem?_getD, List.getElem?_append_right (by omega), Nat.sub_self]; rfl
def solB : Bool := (List.range 13).all fun m => (List.range m).all fun a => (List.range m).all fun h => (List.range m).all fun r => decide (m < 2) || !(Nat.gcd a m == 1) || (List.range m).any fun t => (h + t * a) % m == r
theorem solB_ok : solB = true := by decide +kernel
theorem sol_nat {m a h r : Nat} (hm : 2 ≤ m) (hm2 : m ≤ 12) (ha : a < m) (hh : h < m) (hr : r < m) (hg : Nat.gcd a m = 1) : ∃ t, t < m ∧ (h + t * a) % m = r := by
  have h0 := solB_ok
  unfold solB at h0
  have h1 := List.all_eq_true.1 h0 m (List.mem_range.2 (by omega))
  have h2 := List.all_eq_true.1 h1 a (List.mem_range.2 ha)
  have h3 := List.all_eq_true.1 h2 h (List.mem_range.2 hh)
  have h4 := List.all_eq_true.1 h3 r (List.mem_range.2 hr)
  rw [Bool.or_eq_true, Bool.or_eq_true] at h4
  rcases h4 with (h4 | h4) | h4
  · have := of_decide_eq_true h4; omega
  · rw [hg] at h4; cases h4
  · obtain ⟨t, ht, he⟩ := List.any_eq_true.1 h4
    exact ⟨t, List.mem_range.1 ht, by simpa using he⟩
/-- a rest that is sought is found -/
theorem sol_int {m a x r : Int} (hm : 2 ≤ m) (hm2 : m ≤ 12) (ha : 0 ≤ a) (hg : Nat.gcd a.natAbs m.natAbs = 1) (hr : 0 ≤ r) (hr2 : r < m) : ∃ t : Nat, (t : Int) < m ∧ (x + (t : Int) * a) % m = r := by
  obtain ⟨d, rfl⟩ : ∃ d : Nat, m = (d : Int) := ⟨m.toNat, by omega⟩
  obtain ⟨q, rfl⟩ : ∃ q : Nat, a = (q : Int) := ⟨a.toNat, by omega⟩
  obtain ⟨s, rfl⟩ : ∃ s : Nat, r = (s : Int) := ⟨r.toNat, by omega⟩
  have hx := Int.emod_nonneg x (show (d : Int) ≠ 0 by omega)
  have hx2 := Int.emod_lt_of_pos x (show (0 : Int) < (d : Int) by omega)
  obtain ⟨h, hh⟩ : ∃ h : Nat, x % (d : Int) = (h : Int) := ⟨(x % (d : Int)).toNat, by omega⟩
  have hg2 : Nat.gcd (q % d) d = 1 := by
    rw [← Nat.gcd_rec d q, Nat.gcd_comm]; simpa using hg
  obtain ⟨t, ht, he⟩ := sol_nat (m := d) (a := q % d) (h := h) (r := s) (by omega) (by omega) (Nat.mod_lt _ (by omega)) (by omega) (by omega) hg2
  refine ⟨t, by omega, ?_⟩
  rw [Int.add_emod, hh, Int.mul_emod, ← Int.natCast_emod, ← Int.natCast_emod, ← Int.natCast_mul, ← Int.natCast_emod, ← Int.natCast_add, ← Int.natCast_emod]
  congr 1
  rw [← he, Nat.add_mod h (t * (q % d)), Nat.mul_mod t (q % d), Nat.mod_mod, Nat.add_mod h]
  simp [Nat.mul_mod]
/-- the factors of a word of a regular map -/
theorem line_cop {m : Int} {us ad : List Int} (hM : mapP m us ad) (hR : regB m us = true) (ws : List Int) (hw : ∀ r ∈ ws, 0 ≤ r ∧ r < m) : Nat.gcd (lineI m us ad ws).1.natAbs m.natAbs = 1 ∧ 1 ≤ (lineI m us ad ws).1 := by
  obtain ⟨k, hk⟩ : ∃ k, ws.length = k := ⟨_, rfl⟩
  induction k generalizing ws with
  | zero => rw [List.eq_nil_of_length_eq_zero hk]; exact ⟨Nat.gcd_one_left _, Int.le_refl _⟩
  | succ k ih =>
    rcases List.eq_nil_or_concat ws with rfl | ⟨p, r, rfl⟩
    · simp at hk
    · rw [List.concat_eq_append] at *
      have hr := hw r (by simp)
      have ihp := ih p (fun x hx => hw x (by simp [hx])) (by simpa using hk)
      obtain ⟨u1, u2, -, -, l1, -⟩ := rule_of hM hr.1 hr.2
      have hu : Nat.gcd (us.getD r.toNat 0).natAbs m.natAbs = 1 := by
        have h1 := List.all_eq_true.1 hR (us.getD r.toNat 0) (by rw [List.getD_eq_getElem?_getD, List.getElem?_eq_getElem l1]; exact List.getElem_mem l1)
        have h2 := of_decide_eq_true h1
        have h3 := Nat.gcd_pos_of_pos_left m.natAbs (show 0 < (us.getD r.toNat 0).natAbs by omega)
        omega
      rw [lineI_snoc]
      show Nat.gcd (us.getD r.toNat 0 * (lineI m us ad p).1).natAbs m.natAbs = 1 ∧ 1 ≤ us.getD r.toNat 0 * (lineI m us ad p).1
      refine ⟨?_, ?_⟩
      · rw [Int.natAbs_mul]
        exact Nat.Coprime.mul_left hu ihp.1
      · have : 1 * 1 ≤ us.getD r.toNat 0 * (lineI m us ad p).1 := Int.mul_le_mul u1 ihp.2 (by omega) (by omega)
        omega
/-- the numbers on the way are small -/
def ClassB (k : Nat) (x : Int) : Prop := x.natAbs ≤ k * 2000000 * 1000 ^ k
theorem stepI_le {m x : Int} {us ad : List Int} (hM : mapP m us ad) : (stepI m us ad x).natAbs ≤ 999 * x.natAbs + 999999 := by
  have hu := rule_at hM x
  have hm := hM.1
  unfold stepI
  generalize us.getD (rOf m x) 0 = u at *
  generalize ad.getD (rOf m x) 0 = a at *
  have h1 : (u * x).natAbs ≤ 999 * x.natAbs := by rw [Int.natAbs_mul]; exact Nat.mul_le_mul_right _ (by have h1 := hu.1; have h2 := hu.2.1; omega)
  have h2 : (u * x + a).natAbs ≤ (u * x).natAbs + a.natAbs := Int.natAbs_add_le _ _
  have h3 : a.natAbs ≤ 999999 := by have h1 := hu.2.2.1; have h2 := hu.2.2.2.1; omega
  have h4 : ((u * x + a) / m).natAbs ≤ (u * x + a).natAbs := by
    generalize u * x + a = t
    obtain ⟨d, rfl⟩ : ∃ d : Nat, m = (d : Int) := ⟨m.toNat, by omega⟩
    rcases Int.lt_or_le t 0 with h0 | h0
    · have h2 : t / (d : Int) < 0 := Int.ediv_lt_of_lt_mul (by omega) (by omega)
      have h4 := Int.lt_ediv_add_one_mul_self t (show (0 : Int) < (d : Int) by omega)
      have h5 : (t / (d : Int) + 1) * (d : Int) ≤ (t / (d : Int) + 1) * 1 := Int.mul_le_mul_of_nonpos_left (by omega) (by omega)
      omega
    · have h1 : 0 ≤ t / (d : Int) := Int.ediv_nonneg h0 (by omega)
      have h2 : t / (d : Int) ≤ t := Int.ediv_le_self _ h0
      omega
  omega
theorem ClassB.next {m : Int} {us ad : List Int} (hM : mapP m us ad) {k : Nat} {x t M : Int} (h : ClassB k x) (ht : 0 ≤ t) (ht2 : t ≤ 11) (hMu : M.natAbs ≤ 1000 ^ k) :
    (x + t * M).natAbs ≤ (k * 2000000 + 11) * 1000 ^ k ∧ ClassB (k + 1) (stepI m us ad (x + t * M)) := by
  unfold ClassB at *
  have h1 : (t * M).natAbs ≤ 11 * 1000 ^ k := by rw [Int.natAbs_mul]; exact Nat.mul_le_mul (by omega) hMu
  have h2 : (x + t * M).natAbs ≤ x.natAbs + (t * M).natAbs := Int.natAbs_add_le _ _
  have h3 := stepI_le (x := x + t * M) hM
  have hp : 0 < 1000 ^ k := Nat.pow_pos (by omega)
  rw [Nat.pow_succ]
  generalize 1000 ^ k = P at *
  have e1 : (k * 2000000 + 11) * P = k * 2000000 * P + 11 * P := Nat.add_mul _ _ _
  have e2 : (k + 1) * 2000000 * (P * 1000) = (k * 2000000 * P + 2000000 * P) * 1000 := by
    rw [← Nat.mul_assoc, Nat.add_mul k 1, Nat.one_mul, Nat.add_mul (k * 2000000)]
  rw [e1, e2]
  obtain ⟨R, hR⟩ : ∃ R, k * 2000000 * P = R := ⟨_, rfl⟩
  rw [hR] at h ⊢
  clear e1 e2 hR
  exact ⟨by omega, by omega⟩
end Go.Proofs.YtbmmilhinbfahaaDoor
/- the step law package's helpers: same, awake -/
namespace Go.Proofs.YtbmmilhinbfahaaDoor
open Go.RowKit
abbrev Ss (l : List ByteArray) : List Value := l.map fun s => Value.string s
theorem Rd.atS {w : World} {A : Option Addr} {l : List ByteArray} (h : Rd w A (Ss l)) {k : Nat} (hk : k < l.length) :
    ∃ b o s, A = some ⟨b, o, none⟩ ∧ l[k]? = some s ∧ w.cell? ⟨b, o + k, none⟩ = some (.string s) := by
  rcases h with h | ⟨b, o, ha, hb, hc⟩
  · rw [List.map_eq_nil_iff] at h; subst h; cases hk
  · exact ⟨b, o, l[k], ha, List.getElem?_eq_getElem hk, hc k _ (by rw [List.getElem?_map, List.getElem?_eq_getElem hk]; rfl)⟩
theorem coll_ok : mapP 2 [1, 3] [0, 1] := (mapB_iff _ _ _).1 (by decide +kernel)
theorem seven_ok : K.validL [55] = true := by decide +kernel
theorem seven_num : K.numL [55] = 7 := by decide +kernel
def Orb7 : List ByteArray := [⟨#[55]⟩, ⟨#[49, 49]⟩, ⟨#[49, 55]⟩, ⟨#[50, 54]⟩, ⟨#[49, 51]⟩, ⟨#[50, 48]⟩]
theorem seq7 : seqO 2 [1, 3] [0, 1] 5 7 = [some 11, some 17, some 26, some 13, some 20] := by decide +kernel
theorem strO_lit (l : List UInt8) (n : Int) (h : K.validL l = true) (e : K.numL l = n) : strO (some n) = Str l := by
  show Str (K.txt n) = _
  rw [K.txt_of_lit l n h e]
theorem orb7_eq : Txs (some 7 :: [some 11, some 17, some 26, some 13, some 20]) = Ss Orb7 := by
  simp only [Txs, List.map_cons, List.map_nil, strO_lit [55] 7 (by decide +kernel) (by decide +kernel), strO_lit [49, 49] 11 (by decide +kernel) (by decide +kernel), strO_lit [49, 55] 17 (by decide +kernel) (by decide +kernel), strO_lit [50, 54] 26 (by decide +kernel) (by decide +kernel), strO_lit [49, 51] 13 (by decide +kernel) (by decide +kernel), strO_lit [50, 48] 20 (by decide +kernel) (by decide +kernel)]
  rfl
theorem seq_step {m : Int} {us ad : List Int} {k : Nat} {x y : Int} (h : stepI m us ad x = y) (hf : fitsB y = true) : seqO m us ad (k + 1) x = some y :: seqO m us ad k y := by
  rw [seqO, h, if_pos hf]
theorem fall7 : fallL 7 0 (seqO 2 [1, 3] [0, 1] 100 7) = (7, Str [53], 0) := by
  rw [show (100 : Nat) = 93 + 1 + 1 + 1 + 1 + 1 + 1 + 1 from rfl, seq_step (y := 11) (by decide +kernel) (by decide +kernel), seq_step (y := 17) (by decide +kernel) (by decide +kernel), seq_step (y := 26) (by decide +kernel) (by decide +kernel),
    seq_step (y := 13) (by decide +kernel) (by decide +kernel), seq_step (y := 20) (by decide +kernel) (by decide +kernel), seq_step (y := 10) (by decide +kernel) (by decide +kernel), seq_step (y := 5) (by decide +kernel) (by decide +kernel)]
  rw [fallL, if_neg (by decide), fallL, if_neg (by decide), fallL, if_neg (by decide), fallL, if_neg (by decide), fallL, if_neg (by decide), fallL, if_neg (by decide), fallL, if_pos (by decide), K.txt_of_lit [53] 5 (by decide +kernel) (by decide +kernel)]
  rfl
end Go.Proofs.YtbmmilhinbfahaaDoor
/- the reference's Valid, of a map -/
namespace Go.Proofs.YtbmmilhinbfahaaDoor
open Go.RowKit
end Go.Proofs.YtbmmilhinbfahaaDoor
/- the law StepParts -/
namespace Go.Proofs.YtbmmilhinbfahaaDoor
open Go.RowKit
end Go.Proofs.YtbmmilhinbfahaaDoor
/- the law StepFirst -/
namespace Go.Proofs.YtbmmilhinbfahaaDoor
open Go.RowKit
theorem fall_cases (x : Int) : ∀ (L : List (Option Int)) (i : Nat),
    (none ∈ L ∧ fallL x i L = (0, ⟨#[]⟩, 3)) ∨ (none ∉ L ∧ (∀ y, some y ∈ L → ¬ y < x) ∧ fallL x i L = (0, ⟨#[]⟩, 4)) ∨
    (∃ (j : Nat) (y : Int), L[j]? = some (some y) ∧ y < x ∧ none ∉ L.take (j + 1) ∧ (∀ (a : Nat) z, a < j → L[a]? = some (some z) → ¬ z < x) ∧ fallL x i L = (((i + j + 1 : Nat) : Int), Str (K.txt y), 0))
  | [], i => .inr (.inl ⟨by simp, by simp, rfl⟩)
  | none :: r, i => .inl ⟨by simp, rfl⟩
  | some y :: r, i => by
    by_cases h : y < x
    · refine .inr (.inr ⟨0, y, rfl, h, by simp, fun a z ha => absurd ha (by omega), ?_⟩)
      rw [fallL, if_pos h]; rfl
    · rcases fall_cases x r (i + 1) with ⟨h1, h2⟩ | ⟨h1, h2, h3⟩ | ⟨j, z, h1, h2, h3, h4, h5⟩
      · exact .inl ⟨by simp [h1], by rw [fallL, if_neg h, h2]⟩
      · refine .inr (.inl ⟨by simp [h1], fun u hu => ?_, by rw [fallL, if_neg h, h3]⟩)
        rcases List.mem_cons.1 hu with e | e
        · cases e; exact h
        · exact h2 u e
      · refine .inr (.inr ⟨j + 1, z, by simpa using h1, h2, by simpa using h3, fun a u ha hu => ?_, ?_⟩)
        · cases a with
          | zero => simp at hu; subst hu; exact h
          | succ a => exact h4 a u (by omega) (by simpa using hu)
        · rw [fallL, if_neg h, h5, show i + 1 + j + 1 = i + (j + 1) + 1 by omega]
theorem seq_len (m : Int) (us ad : List Int) (k : Nat) : ∀ (x : Int), none ∉ seqO m us ad k x → (seqO m us ad k x).length = k := by
  induction k with
  | zero => intro x _; rfl
  | succ k ih =>
    intro x h
    rw [seqO] at h ⊢
    generalize fitsB (stepI m us ad x) = f at h ⊢
    cases f with
    | true =>
      rw [if_pos rfl] at h ⊢
      rw [List.length_cons, ih _ (fun e => h (by simp [e]))]
    | false => rw [if_neg (by simp)] at h; exact absurd (by simp) h
theorem seq_short (m : Int) (us ad : List Int) : ∀ (k : Nat) (x : Int), (seqO m us ad k x).length ≤ k
  | 0, x => Nat.le_refl _
  | k + 1, x => by
    rw [seqO]
    split
    · rw [List.length_cons]; have := seq_short m us ad k (stepI m us ad x); omega
    · simp
theorem seq_fit (m : Int) (us ad : List Int) (k : Nat) : ∀ (x y : Int), some y ∈ seqO m us ad k x → fitsB y = true := by
  induction k with
  | zero => intro x y h; cases h
  | succ k ih =>
    intro x y h
    rw [seqO] at h
    rcases hf : fitsB (stepI m us ad x) with _ | _
    · rw [hf, if_neg (by simp)] at h; simp at h
    · rw [hf, if_pos rfl] at h
      rcases List.mem_cons.1 h with e | e
      · rw [Option.some.inj e]; exact hf
      · exact ih _ y e
theorem seq_take (m : Int) (us ad : List Int) (k : Nat) : ∀ (j : Nat) (x : Int), j < (seqO m us ad k x).length → none ∉ (seqO m us ad k x).take (j + 1) → seqO m us ad (j + 1) x = (seqO m us ad k x).take (j + 1) := by
  induction k with
  | zero => intro j x h _; exact absurd h (by simp [seqO])
  | succ k ih =>
    intro j x h hn
    rw [seqO] at h hn
    rw [seqO, seqO]
    generalize fitsB (stepI m us ad x) = f at h hn ⊢
    cases f with
    | true =>
      rw [if_pos rfl] at h hn
      rw [if_pos rfl, if_pos rfl, List.take_succ_cons]
      cases j with
      | zero => simp [seqO]
      | succ j => rw [ih j _ (by simpa using h) (by simpa using hn)]
    | false => rw [if_neg (by simp)] at hn; exact absurd (by simp) hn
theorem item_at {m x : Int} {us ad : List Int} {k : Nat} (hn : none ∉ seqO m us ad k x) (hx : K.fits x) (j : Nat) (hj : j < k + 1) :
    ∃ (t : List UInt8) (z : Int), strO (some z) = Str t ∧ K.validL t = true ∧ K.numL t = z ∧ z.natAbs ≤ BIG ∧ (some x :: seqO m us ad k x)[j]? = some (some z) := by
  have hl : (some x :: seqO m us ad k x).length = k + 1 := by rw [List.length_cons, seq_len _ _ _ _ _ hn]
  have hm : (some x :: seqO m us ad k x)[j]? = some ((some x :: seqO m us ad k x)[j]'(by omega)) := List.getElem?_eq_getElem (by omega)
  generalize (some x :: seqO m us ad k x)[j]'(by omega) = o at hm
  have hmem := List.mem_of_getElem? hm
  have hz : ∃ z, o = some z ∧ K.fits z := by
    rcases List.mem_cons.1 hmem with e | e
    · exact ⟨x, e, hx⟩
    · cases o with
      | none => exact absurd e hn
      | some z => exact ⟨z, rfl, fitsB_iff.1 (seq_fit _ _ _ _ _ _ e)⟩
  obtain ⟨z, rfl, hf⟩ := hz
  exact ⟨K.txt z, z, rfl, K.valid_txt _ hf, K.numL_txt z, fits_big hf, hm⟩
theorem cell_item {W : World} {b o j : Nat} {l : List (Option Int)} {z : Int} {t : List UInt8} (h : Rd W (some ⟨b, o, none⟩) (Txs l)) (hj : l[j]? = some (some z)) (ht : strO (some z) = Str t) : W.cell? ⟨b, o + j, none⟩ = some (.string (Str t)) := by
  rcases h with h | ⟨b2, o2, e, -, hc⟩
  · rw [List.map_eq_nil_iff] at h; subst h; simp at hj
  · cases e
    exact hc j _ (by rw [List.getElem?_map, hj, Option.map_some, ht])
theorem box2 {w : World} {t : TypeId} {b : Bool} {A : Option Addr} {k c : Nat} {n : Int} (hv : RefV w (.agg #[.bool b, .slice A k c]) n) :
    Ext w (w.alloc (.cells #[.bool b, .slice A k c] t)) ∧ RefV (w.alloc (.cells #[.bool b, .slice A k c] t)) (.agg #[.bool b, .slice A k c]) n ∧ Row (w.alloc (.cells #[.bool b, .slice A k c] t)) w.heap.size t [.bool b, .slice A k c] :=
  ⟨(Ext.rfl' w).alloc' _, hv.ext ((Ext.rfl' w).alloc' _), Row.new w _ _⟩
end Go.Proofs.YtbmmilhinbfahaaDoor
/- step.Orbit in the forms that the laws use -/
namespace Go.Proofs.YtbmmilhinbfahaaDoor
open Go.RowKit
theorem rd_at {W : World} {b o j : Nat} {vs : List Value} {u : Value} (h : Rd W (some ⟨b, o, none⟩) vs) (hu : vs[j]? = some u) : W.cell? ⟨b, o + j, none⟩ = some u := by
  rcases h with h | ⟨b2, o2, e, -, hc⟩
  · subst h; simp at hu
  · cases e; exact hc j u hu
theorem item_orb {m x : Int} {us ad : List Int} {k : Nat} (hn : none ∉ seqO m us ad k x) (hx : K.fits x) (j : Nat) (hj : j < k + 1) :
    ∃ t : List UInt8, strO (some (orbN m us ad j x)) = Str t ∧ K.validL t = true ∧ K.numL t = orbN m us ad j x ∧ (orbN m us ad j x).natAbs ≤ BIG ∧ (some x :: seqO m us ad k x)[j]? = some (some (orbN m us ad j x)) := by
  obtain ⟨t, z, h1, h2, h3, h4, h5⟩ := item_at hn hx j hj
  have h6 := seq_orb0 hn j hj
  rw [h5] at h6
  obtain rfl : z = orbN m us ad j x := by simpa using h6
  exact ⟨t, h1, h2, h3, h4, h5⟩
end Go.Proofs.YtbmmilhinbfahaaDoor
/- (number).power: the walk -/
namespace Go.Proofs.YtbmmilhinbfahaaDoor
open Go.RowKit
theorem bitLen_le : ∀ (k x : Nat), x < 2 ^ k → k ≤ 60 → x < 2 ^ Lib.bitLen x ∧ Lib.bitLen x ≤ k
  | 0, x, h, _ => by
    have : x = 0 := by simpa using h
    subst this
    exact ⟨by decide, by decide⟩
  | k + 1, x, h, hk => by
    by_cases h0 : x = 0
    · subst h0
      exact ⟨by decide, Nat.le_trans (show Lib.bitLen 0 ≤ 0 by decide) (Nat.zero_le _)⟩
    · have h64 : x < 2 ^ 64 := Nat.lt_of_lt_of_le h (Nat.pow_le_pow_right (by omega) (by omega))
      have ih := bitLen_le k (x / 2) (by rw [Nat.pow_succ] at h; omega) (by omega)
      rw [Lib.bitLen_half x h0 h64, Nat.add_comm, Nat.pow_succ]
      omega
theorem bitLen_lt (n : Nat) (hn : n ≤ 10000) : n < 2 ^ Lib.bitLen n ∧ Lib.bitLen n ≤ 14 := bitLen_le 14 n (by omega) (by omega)
end Go.Proofs.YtbmmilhinbfahaaDoor
/- Power and Rest, by contract -/
namespace Go.Proofs.YtbmmilhinbfahaaDoor
open Go.RowKit
set_option maxRecDepth 100000 in
set_option maxHeartbeats 800000 in
theorem rest_ok (l : List UInt8) (d : Nat) (w : World) (h1 : l.length ≤ 140737488351232) (v1 : K.validL l = true) (hd : 1 ≤ d) (hd2 : d ≤ 2147483647) :
    Calls Tryd.prog 25 #[.string (Str l), .int .i64 (d : Int)] w (fun e w' => e = .returned (.tuple #[.int .i64 (K.numL l % d), .int .i64 0]) ∧ Ext w w') := by
  have g1 := fits_big (K.txt_numL l v1).2
  go_enter Tryd.func25, Tryd.ntmps25
  go_wp2_with fail
  refine (read_ok l w h1 v1).mono ?_
  rintro e w1 ⟨⟨y1, rfl, ⟨z1, b1, rfl, hb1, hz1⟩⟩, hx1⟩
  obtain ⟨A1, k1, c1, rfl⟩ := hz1.slice
  have hE : Ext w1 (w1.alloc (.cells #[.bool b1, .slice A1 k1 c1] 72)) := (Ext.rfl' w1).alloc' _
  have n1 := (NumV.mk' hb1 hz1).ext hE
  have hE2 := hx1.step hE
  clear hb1 hz1 hx1 hE
  go_wp2_with fail
  refine (nrest_any _ _ d _ n1 g1 (by omega) (by omega)).mono ?_
  rintro e w2 ⟨rfl, hx2⟩
  have hr0 : 0 ≤ K.numL l % (d : Int) := Int.emod_nonneg _ (by omega)
  have hr1 : K.numL l % (d : Int) < d := Int.emod_lt_of_pos _ (by omega)
  obtain ⟨r, hsg⟩ : ∃ r, K.numL l % (d : Int) = r := ⟨_, rfl⟩
  rw [hsg] at hr0 hr1 ⊢
  have HSG := hid hsg
  clear hsg
  go_wp2
  go_ret2
  exact ⟨by rw [HSG.out]; rfl, hE2.step hx2⟩
set_option maxRecDepth 100000 in
set_option maxHeartbeats 800000 in
theorem rest_form (l : List UInt8) (n : Int) (w : World) (h1 : l.length ≤ 140737488351232) (v1 : K.validL l = false) :
    Calls Tryd.prog 25 #[.string (Str l), .int .i64 n] w (fun e w' => e = .returned (.tuple #[.int .i64 0, .int .i64 1]) ∧ Ext w w') := by
  go_enter Tryd.func25, Tryd.ntmps25
  go_wp2_with fail
  refine (read_bad l w h1 v1).mono ?_
  rintro e w1 ⟨rfl, hx1⟩
  go_wp2
  go_ret2
  exact ⟨rfl, hx1.alloc' _⟩
set_option maxRecDepth 100000 in
set_option maxHeartbeats 800000 in
theorem rest_arg (l : List UInt8) (n : Int) (w : World) (h1 : l.length ≤ 140737488351232) (v1 : K.validL l = true) (hn : n < 1 ∨ 2147483647 < n) :
    Calls Tryd.prog 25 #[.string (Str l), .int .i64 n] w (fun e w' => e = .returned (.tuple #[.int .i64 0, .int .i64 2]) ∧ Ext w w') := by
  go_enter Tryd.func25, Tryd.ntmps25
  go_wp2_with fail
  refine (read_ok l w h1 v1).mono ?_
  rintro e w1 ⟨⟨y1, rfl, ⟨z1, b1, rfl, hb1, hz1⟩⟩, hx1⟩
  obtain ⟨A1, k1, c1, rfl⟩ := hz1.slice
  by_cases h : n < 1
  · clear hn
    go_wp2
    go_ret2
    exact ⟨rfl, hx1.alloc' _⟩
  · have hn2 : 2147483647 < n := by omega
    clear hn
    go_wp2
    go_ret2
    exact ⟨rfl, hx1.alloc' _⟩
end Go.Proofs.YtbmmilhinbfahaaDoor
/- step.Orbit and step.Falls where the arguments are not valid -/
namespace Go.Proofs.YtbmmilhinbfahaaDoor
open Go.RowKit
end Go.Proofs.YtbmmilhinbfahaaDoor
/- word.rests, word.Word -/
namespace Go.Proofs.YtbmmilhinbfahaaDoor
open Go.RowKit
/-- the word of a number -/
def wordI (m : Int) (us ad : List Int) (k : Nat) (x : Int) : List Int := (List.range k).map fun i => orbN m us ad i x % m
/-- what is written after j rounds -/
def partL (f : Nat → Int) (k j : Nat) : List Int := (List.range k).map fun i => if i < j then f i else 0
theorem partL_len (f : Nat → Int) (k j : Nat) : (partL f k j).length = k := by simp [partL]
theorem partL_zero (f : Nat → Int) (k : Nat) : Is (partL f k 0) = List.replicate k (.int .i64 0) := by
  apply List.ext_getElem
  · simp [partL]
  · intro i h1 h2
    simp [partL]
theorem partL_full (f : Nat → Int) (k : Nat) : partL f k k = (List.range k).map f := by
  unfold partL
  apply List.map_congr_left
  intro i hi
  rw [if_pos (List.mem_range.1 hi)]
theorem partL_set (f : Nat → Int) (k j : Nat) (hj : j < k) : (Is (partL f k j)).set j (.int .i64 (f j)) = Is (partL f k (j + 1)) := by
  apply List.ext_getElem
  · simp [partL]
  · intro i h1 h2
    rw [List.getElem_set]
    by_cases e : j = i
    · subst e; simp [partL]
    · rw [if_neg e]
      simp only [partL, List.map_map, List.getElem_map, List.getElem_range, Function.comp_apply]
      by_cases h3 : i < j
      · rw [if_pos h3, if_pos (by omega)]
      · rw [if_neg h3, if_neg (by omega)]
end Go.Proofs.YtbmmilhinbfahaaDoor
/- word.class: everyNumber, first, narrowed -/
namespace Go.Proofs.YtbmmilhinbfahaaDoor
open Go.RowKit
theorem row_facts4 {w : World} {g : Nat} {t : TypeId} {a b c d : Value} (h : Row w g t [a, b, c, d]) : w.cell? ⟨g, 0, none⟩ = some a ∧ w.cell? ⟨g, 1, none⟩ = some b ∧ w.cell? ⟨g, 2, none⟩ = some c ∧ w.cell? ⟨g, 3, none⟩ = some d ∧ w.frozen? ⟨g, 0, none⟩ = false ∧ w.frozen? ⟨g, 1, none⟩ = false ∧ w.frozen? ⟨g, 2, none⟩ = false ∧ w.frozen? ⟨g, 3, none⟩ = false :=
  ⟨by rw [h.cell]; rfl, by rw [h.cell]; rfl, by rw [h.cell]; rfl, by rw [h.cell]; rfl, h.free 0, h.free 1, h.free 2, h.free 3⟩
theorem rest_s (x m : Int) (s : ByteArray) (w : World) (hs : Hid (Str (K.txt x) = s)) (hf : K.fits x) (hm : 1 ≤ m) (hm2 : m ≤ 2147483647) :
    Calls Tryd.prog 25 #[.string s, .int .i64 m] w (fun e w' => e = .returned (.tuple #[.int .i64 (x % m), .int .i64 0]) ∧ Ext w w') := by
  obtain ⟨d, rfl⟩ : ∃ d : Nat, m = (d : Int) := ⟨m.toNat, by omega⟩
  have h := rest_ok (K.txt x) d w (len_of (K.txt_len _ hf)) (K.valid_txt _ hf) (by omega) (by omega)
  rwa [hs.out, K.numL_txt] at h
theorem mod_form {x a m : Int} (t : Nat) : (x % m + (t : Int) * (a % m)) % m = (x + (t : Int) * a) % m := by
  rw [Int.add_emod, Int.emod_emod_of_dvd _ (Int.dvd_refl m), Int.mul_emod, Int.emod_emod_of_dvd _ (Int.dvd_refl m), ← Int.mul_emod, ← Int.add_emod]
end Go.Proofs.YtbmmilhinbfahaaDoor
/- package sieve: root, falls, stays, floor, decimal, restsOf -/
namespace Go.Proofs.YtbmmilhinbfahaaDoor
open Go.RowKit
/-- a place: steps, rest, the linear map of its word -/
def PlV (s r mu ad di : Int) : Value := .agg #[.int .i64 s, .int .i64 r, .int .i64 mu, .int .i64 ad, .int .i64 di]
theorem row_facts5 {w : World} {g : Nat} {t : TypeId} {a b c d e : Value} (h : Row w g t [a, b, c, d, e]) :
    w.cell? ⟨g, 0, none⟩ = some a ∧ w.cell? ⟨g, 1, none⟩ = some b ∧ w.cell? ⟨g, 2, none⟩ = some c ∧ w.cell? ⟨g, 3, none⟩ = some d ∧ w.cell? ⟨g, 4, none⟩ = some e :=
  ⟨by rw [h.cell]; rfl, by rw [h.cell]; rfl, by rw [h.cell]; rfl, by rw [h.cell]; rfl, by rw [h.cell]; rfl⟩
set_option maxRecDepth 100000 in
set_option maxHeartbeats 800000 in
theorem root_any (w : World) : Calls Tryd.prog 18 #[] w (fun e w' => e = .returned (PlV 0 0 1 0 1) ∧ Ext w w') := by
  go_enter Tryd.func18, Tryd.ntmps18
  go_wp2
  refine bodyPost_ret (v := PlV 0 0 1 0 1) (by simp [results, Tryd.results18, go_sem, PlV]) rfl ⟨rfl, (Ext.rfl' w).alloc' _⟩
set_option maxRecDepth 100000 in
set_option maxHeartbeats 800000 in
theorem falls_any (s r mu ad di : Int) (w : World) {b : Bool} (hb : Hid (b = true ↔ mu < di)) :
    Calls Tryd.prog 13 #[PlV s r mu ad di] w (fun e w' => e = .returned (.bool b) ∧ Ext w w') := by
  unfold PlV
  have hx : Ext w (w.alloc (.cells #[.int .i64 s, .int .i64 r, .int .i64 mu, .int .i64 ad, .int .i64 di] 46)) := (Ext.rfl' w).alloc' _
  have hr : Row (w.alloc (.cells #[.int .i64 s, .int .i64 r, .int .i64 mu, .int .i64 ad, .int .i64 di] 46)) w.heap.size 46 [.int .i64 s, .int .i64 r, .int .i64 mu, .int .i64 ad, .int .i64 di] := Row.new w _ _
  obtain ⟨W1, hW1⟩ : ∃ W1, (w.alloc (.cells #[.int .i64 s, .int .i64 r, .int .i64 mu, .int .i64 ad, .int .i64 di] 46)) = W1 := ⟨_, rfl⟩
  rw [hW1] at hx hr
  have HX := hid hx
  have HW1 := hid hW1
  obtain ⟨p0, p1, p2, p3, p4⟩ := row_facts5 hr
  clear hW1 hx hr
  have hbb : decide (mu < di) = b := by
    cases b with
    | true => exact decide_eq_true (hb.out.1 rfl)
    | false => exact decide_eq_false (fun h => by have := hb.out.2 h; cases this)
  go_enter Tryd.func13, Tryd.ntmps13
  go_upto_region 1 with fail
  rw [HW1.out]
  go_wp2
  go_ret
  exact ⟨rfl, HX.out⟩
set_option maxRecDepth 100000 in
set_option maxHeartbeats 800000 in
theorem stays_any (s r mu ad di wh : Int) (w : World) {b : Bool} (hb : Hid (b = true ↔ (wh ≤ mu ∨ di = wh))) :
    Calls Tryd.prog 15 #[PlV s r mu ad di, .int .i64 wh] w (fun e w' => e = .returned (.bool b) ∧ Ext w w') := by
  unfold PlV
  have hx : Ext w (w.alloc (.cells #[.int .i64 s, .int .i64 r, .int .i64 mu, .int .i64 ad, .int .i64 di] 46)) := (Ext.rfl' w).alloc' _
  have hr : Row (w.alloc (.cells #[.int .i64 s, .int .i64 r, .int .i64 mu, .int .i64 ad, .int .i64 di] 46)) w.heap.size 46 [.int .i64 s, .int .i64 r, .int .i64 mu, .int .i64 ad, .int .i64 di] := Row.new w _ _
  obtain ⟨W1, hW1⟩ : ∃ W1, (w.alloc (.cells #[.int .i64 s, .int .i64 r, .int .i64 mu, .int .i64 ad, .int .i64 di] 46)) = W1 := ⟨_, rfl⟩
  rw [hW1] at hx hr
  have HX := hid hx
  have HW1 := hid hW1
  obtain ⟨p0, p1, p2, p3, p4⟩ := row_facts5 hr
  clear hW1 hx hr
  by_cases h1 : wh ≤ mu
  · obtain rfl : b = true := hb.out.2 (.inl h1)
    clear hb
    go_enter Tryd.func15, Tryd.ntmps15
    go_upto_region 1 with fail
    rw [HW1.out]
    go_wp2
    go_ret
    exact ⟨rfl, HX.out⟩
  · by_cases h2 : di = wh
    · obtain rfl : b = true := hb.out.2 (.inr h2)
      subst h2
      clear hb
      go_enter Tryd.func15, Tryd.ntmps15
      go_upto_region 1 with fail
      rw [HW1.out]
      go_wp2
      go_ret
      exact ⟨by simp, HX.out⟩
    · obtain rfl : b = false := by
        cases b with
        | false => rfl
        | true => rcases hb.out.1 rfl with h | h <;> contradiction
      have q1 : (di == wh) = false := beq_eq_false_iff_ne.2 h2
      clear hb
      go_enter Tryd.func15, Tryd.ntmps15
      go_upto_region 1 with fail
      rw [HW1.out]
      go_wp2
      go_ret
      exact ⟨by simp [q1], HX.out⟩
theorem floor_eq {a b : Int} (hb : 0 < b) : a / b = if Int.tmod a b < 0 then Int.tdiv a b - 1 else Int.tdiv a b := by
  obtain ⟨n, rfl⟩ := Int.eq_ofNat_of_zero_le (show 0 ≤ b by omega)
  rcases Int.le_total 0 a with h | h
  · obtain ⟨k, rfl⟩ := Int.eq_ofNat_of_zero_le h
    rw [Int.tmod_eq_emod_of_nonneg h, Int.tdiv_eq_ediv_of_nonneg h, if_neg (by have := Int.emod_nonneg (k : Int) (show (n : Int) ≠ 0 by omega); omega)]
  · obtain ⟨k, hk⟩ := Int.eq_ofNat_of_zero_le (show 0 ≤ -a by omega)
    obtain rfl : a = -(k : Int) := by omega
    rw [Int.neg_tmod, Int.neg_tdiv, Int.tmod_eq_emod_of_nonneg (by omega), Int.tdiv_eq_ediv_of_nonneg (by omega)]
    have h1 := Int.emod_nonneg (k : Int) (show (n : Int) ≠ 0 by omega)
    have h2 := Int.emod_lt_of_pos (k : Int) hb
    have h3 := Int.emod_add_mul_ediv (k : Int) (n : Int)
    by_cases h0 : (k : Int) % (n : Int) = 0
    · rw [if_neg (by omega)]
      have e : -(k : Int) = (n : Int) * (-((k : Int) / (n : Int))) := by rw [Int.mul_neg]; omega
      rw [e, Int.mul_ediv_cancel_left _ (by omega)]
    · rw [if_pos (by omega)]
      have e : -(k : Int) = ((n : Int) - (k : Int) % (n : Int)) + (n : Int) * (-((k : Int) / (n : Int)) - 1) := by rw [Int.mul_sub, Int.mul_neg, Int.mul_one]; omega
      rw [e, Int.add_mul_ediv_left _ _ (by omega), Int.ediv_eq_zero_of_lt (by omega) (by omega)]
      omega
set_option maxRecDepth 100000 in
set_option maxHeartbeats 1600000 in
theorem floor_any (a b : Int) (w : World) (hb : 0 < b) (h0 : -9223372036854775808 < a) (h1 : a ≤ 9223372036854775807) (h2 : b ≤ 9223372036854775807) :
    Calls Tryd.prog 29 #[.int .i64 a, .int .i64 b] w (fun e w' => e = .returned (.int .i64 (a / b)) ∧ Ext w w') := by
  have hb0 : ¬ b = 0 := by omega
  have hq : (Int.tdiv a b).natAbs ≤ a.natAbs := by rw [Int.natAbs_tdiv]; exact Nat.div_le_self _ _
  have e := floor_eq (a := a) hb
  have HQ : IntKind.i64.wrap (Int.tdiv a b) = Int.tdiv a b := IntWalk.i64_in _ (by omega)
  by_cases hn : Int.tmod a b < 0
  · rw [if_pos hn] at e
    have hlt : -9223372036854775808 ≤ Int.tdiv a b - 1 := by
      have h3 : Int.tdiv a b - 1 = a / b := e.symm
      omega
    have HQ2 : IntKind.i64.wrap (Int.tdiv a b - 1) = Int.tdiv a b - 1 := IntWalk.i64_in _ (by omega)
    have HE := hid e
    clear e hq hlt
    go_enter Tryd.func29, Tryd.ntmps29
    go_wp2
    go_ret
    exact ⟨by rw [HE.out]; rfl, Ext.rfl' _⟩
  · rw [if_neg hn] at e
    have HE := hid e
    clear e hq
    go_enter Tryd.func29, Tryd.ntmps29
    go_wp2
    go_ret
    exact ⟨by rw [HE.out]; rfl, Ext.rfl' _⟩
set_option maxRecDepth 100000 in
set_option maxHeartbeats 800000 in
theorem decimal_s (n : Int) (s : ByteArray) (w : World) (hs : Hid (Str (K.txt n) = s)) (h0 : -9223372036854775808 ≤ n) (h1 : n ≤ 9223372036854775807) (ht : Tab w) :
    Calls Tryd.prog 28 #[.int .i64 n] w (fun e w' => e = .returned (.string s) ∧ Ext w w') := by
  have HT := hid ht
  go_enter Tryd.func28, Tryd.ntmps28
  go_wp2_with fail
  refine (format_any n w h0 h1 HT.out).mono ?_
  rintro e w2 ⟨rfl, hx⟩
  rw [hs.out]
  have HX := hid hx
  clear hx
  go_wp2
  go_ret
  exact ⟨rfl, HX.out⟩
end Go.Proofs.YtbmmilhinbfahaaDoor
/- package sieve: child -/
namespace Go.Proofs.YtbmmilhinbfahaaDoor
open Go.RowKit
theorem mulB {a b : Int} {A B : Nat} (ha : a.natAbs ≤ A) (hb : b.natAbs ≤ B) : (a * b).natAbs ≤ A * B := by
  rw [Int.natAbs_mul]; exact Nat.mul_le_mul ha hb
theorem tmod_bd {q m : Int} (hm : 0 < m) : (Int.tmod q m).natAbs < m.natAbs := by
  rw [Int.natAbs_tmod]; exact Nat.mod_lt _ (by omega)
theorem tmod_up {q m : Int} (hm : 0 < m) : (Int.tmod q m + m).tmod m = q % m := by
  have h1 := tmod_bd (q := q) hm
  rw [Int.tmod_eq_emod_of_nonneg (by omega), Int.add_emod_right]
  have e : q = m * (Int.tdiv q m) + Int.tmod q m := (Int.mul_tdiv_add_tmod q m).symm
  conv => rhs; rw [e]
  rw [Int.add_comm, Int.add_mul_emod_self_left]
set_option maxRecDepth 100000 in
set_option maxHeartbeats 6400000 in
theorem child_l (ba oa bb ob n cc n2 d2 rr : Nat) (s r mu ad di m t q u a : Int) (us ads : List Int) (w : World) (hra : Rd w (some ⟨ba, oa, none⟩) (Is us)) (hrb : Rd w (some ⟨bb, ob, none⟩) (Is ads)) (hn1 : us.length = n) (hn2 : ads.length = n2)
    (hm : 2 ≤ m) (hm2 : m ≤ 12) (hs : 0 ≤ s) (hs2 : s ≤ 1000) (hr : 0 ≤ r) (hr2 : r < di) (hd : 1 ≤ di) (hd2 : di ≤ 65536) (ht : 0 ≤ t) (ht2 : t < m) (hu1 : 1 ≤ mu) (hu2 : mu ≤ 65536) (hA : ad.natAbs ≤ 4294967296000000)
    (hq : Hid (mu * (r + t * di) + ad = di * q)) (hrr : Hid ((rr : Int) = q % m)) (hrn : rr < n) (hrn2 : rr < n2) (hu : Hid (us.getD rr 0 = u)) (ha : Hid (ads.getD rr 0 = a)) (hw1 : 1 ≤ u) (hw2 : u ≤ 999) (ha1 : -999999 ≤ a) (ha2 : a ≤ 999999) :
    Calls Tryd.prog 17 #[PlV s r mu ad di, .agg #[.int .i64 m, .slice (some ⟨ba, oa, none⟩) n cc, .slice (some ⟨bb, ob, none⟩) n2 d2], .int .i64 t] w (fun e w' => e = .returned (PlV (s + 1) (r + t * di) (u * mu) (u * ad + a * di) (m * di)) ∧ Ext w w') := by
  have c1 := mulB (a := t) (b := di) (A := 11) (B := 65536) (by omega) (by omega)
  have c1p : 0 ≤ t * di := Int.mul_nonneg ht (by omega)
  have c2 := mulB (a := mu) (b := (r + t * di)) (A := 65536) (B := 786432) (by omega) (by omega)
  have c3 : q.natAbs ≤ 4294967296000000 + 65536 * 786432 := by
    have h1 : (di * q).natAbs ≤ 4294967296000000 + 65536 * 786432 := by rw [← hq.out]; omega
    rw [Int.natAbs_mul] at h1
    exact Nat.le_trans (Nat.le_mul_of_pos_left _ (by omega)) h1
  have c4 := mulB (a := u) (b := mu) (A := 999) (B := 65536) (by omega) (by omega)
  have c5 := mulB (a := u) (b := ad) (A := 999) (B := 4294967296000000) (by omega) (by omega)
  have c6 := mulB (a := a) (b := di) (A := 999999) (B := 65536) (by omega) (by omega)
  have c7 := mulB (a := m) (b := di) (A := 12) (B := 65536) (by omega) (by omega)
  have c8 : (Int.tmod q m).natAbs ≤ 12 := by
    have h1 := tmod_bd (q := q) (show 0 < m by omega)
    omega
  have W1 : IntKind.i64.wrap (t * di) = t * di := IntWalk.i64_in _ (by omega)
  have W2 : IntKind.i64.wrap (r + t * di) = (r + t * di) := IntWalk.i64_in _ (by omega)
  have W3 : IntKind.i64.wrap (mu * (r + t * di)) = mu * (r + t * di) := IntWalk.i64_in _ (by omega)
  have W4 : IntKind.i64.wrap (mu * (r + t * di) + ad) = mu * (r + t * di) + ad := IntWalk.i64_in _ (by omega)
  have W5 : (mu * (r + t * di) + ad).tdiv di = q := by rw [hq.out, Int.mul_tdiv_cancel_left _ (by omega)]
  have W5w : IntKind.i64.wrap q = q := IntWalk.i64_in _ (by omega)
  have W6 : IntKind.i64.wrap (Int.tmod q m + m) = Int.tmod q m + m := IntWalk.i64_in _ (by omega)
  have W7 : (Int.tmod q m + m).tmod m = (rr : Int) := by rw [tmod_up (by omega), hrr.out]
  have W8 : IntKind.i64.wrap (s + 1) = s + 1 := IntWalk.i64_in _ (by omega)
  have W9 : IntKind.i64.wrap (u * mu) = u * mu := IntWalk.i64_in _ (by omega)
  have W10 : IntKind.i64.wrap (u * ad) = u * ad := IntWalk.i64_in _ (by omega)
  have W11 : IntKind.i64.wrap (a * di) = a * di := IntWalk.i64_in _ (by omega)
  have W12 : IntKind.i64.wrap (u * ad + a * di) = u * ad + a * di := IntWalk.i64_in _ (by omega)
  have W13 : IntKind.i64.wrap (m * di) = m * di := IntWalk.i64_in _ (by omega)
  have D0 : ¬ di = 0 := by omega
  have M0 : ¬ m = 0 := by omega
  have i0 : (0 : Int) ≤ (rr : Int) := by omega
  have i1 : (rr : Int) < (n : Int) := by omega
  have i2 : (rr : Int) < (n2 : Int) := by omega
  unfold PlV
  have hx : Ext w (((w.alloc (.cells #[.int .i64 s, .int .i64 r, .int .i64 mu, .int .i64 ad, .int .i64 di] 46)).alloc (.cells #[.int .i64 m, .slice (some ⟨ba, oa, none⟩) n cc, .slice (some ⟨bb, ob, none⟩) n2 d2] 24)).alloc (.cells #[.int .i64 0, .int .i64 0, .int .i64 0, .int .i64 0, .int .i64 0] 46)) := (((Ext.rfl' w).alloc' _).alloc' _).alloc' _
  have h1 : Row (((w.alloc (.cells #[.int .i64 s, .int .i64 r, .int .i64 mu, .int .i64 ad, .int .i64 di] 46)).alloc (.cells #[.int .i64 m, .slice (some ⟨ba, oa, none⟩) n cc, .slice (some ⟨bb, ob, none⟩) n2 d2] 24)).alloc (.cells #[.int .i64 0, .int .i64 0, .int .i64 0, .int .i64 0, .int .i64 0] 46)) w.heap.size 46 [.int .i64 s, .int .i64 r, .int .i64 mu, .int .i64 ad, .int .i64 di] := ((Row.new w _ _).alloc _).alloc _
  have h2 : Row (((w.alloc (.cells #[.int .i64 s, .int .i64 r, .int .i64 mu, .int .i64 ad, .int .i64 di] 46)).alloc (.cells #[.int .i64 m, .slice (some ⟨ba, oa, none⟩) n cc, .slice (some ⟨bb, ob, none⟩) n2 d2] 24)).alloc (.cells #[.int .i64 0, .int .i64 0, .int .i64 0, .int .i64 0, .int .i64 0] 46)) (w.heap.size + 1) 24 [.int .i64 m, .slice (some ⟨ba, oa, none⟩) n cc, .slice (some ⟨bb, ob, none⟩) n2 d2] := by
    have := (Row.new (w.alloc (.cells #[.int .i64 s, .int .i64 r, .int .i64 mu, .int .i64 ad, .int .i64 di] 46)) 24 [.int .i64 m, .slice (some ⟨ba, oa, none⟩) n cc, .slice (some ⟨bb, ob, none⟩) n2 d2]).alloc (.cells #[.int .i64 0, .int .i64 0, .int .i64 0, .int .i64 0, .int .i64 0] 46)
    rwa [World.size_alloc] at this
  have h3 : Row (((w.alloc (.cells #[.int .i64 s, .int .i64 r, .int .i64 mu, .int .i64 ad, .int .i64 di] 46)).alloc (.cells #[.int .i64 m, .slice (some ⟨ba, oa, none⟩) n cc, .slice (some ⟨bb, ob, none⟩) n2 d2] 24)).alloc (.cells #[.int .i64 0, .int .i64 0, .int .i64 0, .int .i64 0, .int .i64 0] 46)) (w.heap.size + 1 + 1) 46 [.int .i64 0, .int .i64 0, .int .i64 0, .int .i64 0, .int .i64 0] := by
    have := Row.new ((w.alloc (.cells #[.int .i64 s, .int .i64 r, .int .i64 mu, .int .i64 ad, .int .i64 di] 46)).alloc (.cells #[.int .i64 m, .slice (some ⟨ba, oa, none⟩) n cc, .slice (some ⟨bb, ob, none⟩) n2 d2] 24)) 46 [.int .i64 0, .int .i64 0, .int .i64 0, .int .i64 0, .int .i64 0]
    rwa [World.size_alloc, World.size_alloc] at this
  obtain ⟨b1, o1, e1, -, hc1⟩ := (hra.ext hx).atI (k := rr) (by omega)
  obtain ⟨b2, o2, e2, -, hc2⟩ := (hrb.ext hx).atI (k := rr) (by omega)
  cases e1
  cases e2
  rw [hu.out] at hc1
  rw [ha.out] at hc2
  obtain ⟨W, hW⟩ : ∃ W, (((w.alloc (.cells #[.int .i64 s, .int .i64 r, .int .i64 mu, .int .i64 ad, .int .i64 di] 46)).alloc (.cells #[.int .i64 m, .slice (some ⟨ba, oa, none⟩) n cc, .slice (some ⟨bb, ob, none⟩) n2 d2] 24)).alloc (.cells #[.int .i64 0, .int .i64 0, .int .i64 0, .int .i64 0, .int .i64 0] 46)) = W := ⟨_, rfl⟩
  rw [hW] at hx h1 h2 h3 hc1 hc2
  have HX := hid hx
  have HW := hid hW
  have H3 := hid h3
  obtain ⟨p0, p1, p2, p3, p4⟩ := row_facts5 h1
  obtain ⟨f0, f1, f2, -, -, -⟩ := row_facts3 h2
  obtain ⟨z0, z1, z2, z3, z4⟩ := row_facts5 h3
  have y0 := h3.free 0
  have y1 := h3.free 1
  have y2 := h3.free 2
  have y3 := h3.free 3
  have y4 := h3.free 4
  clear hW hx h1 h2 h3 c1 c1p c2 c3 c4 c5 c6 c7 c8 hra hrb hn1 hn2 hr hr2 hs hs2 hd hd2 ht ht2 hu1 hu2 hA hw1 hw2 ha1 ha2 hm hm2 hrn hrn2
  go_enter Tryd.func17, Tryd.ntmps17
  go_upto_region 1 with fail
  rw [HW.out]
  go_upto_region 5 with fail
  go_quiet (fail)
  go_wp2
  refine bodyPost_ret (v := .agg #[.int .i64 (s + 1), .int .i64 (r + t * di), .int .i64 (u * mu), .int .i64 (u * ad + a * di), .int .i64 (m * di)]) (by simp [results, Tryd.results17, go_sem, z0, z1, z2, z3, z4]) rfl ⟨rfl, ?_⟩
  exact (((((HX.out.drewN _).set' (by show _ ≤ w.heap.size + 1 + 1; omega) _).set' (by show _ ≤ w.heap.size + 1 + 1; omega) _).set' (by show _ ≤ w.heap.size + 1 + 1; omega) _).set' (by show _ ≤ w.heap.size + 1 + 1; omega) _).set' (by show _ ≤ w.heap.size + 1 + 1; omega) _
end Go.Proofs.YtbmmilhinbfahaaDoor
/- the reference's Of, at negative numbers -/
namespace Go.Proofs.YtbmmilhinbfahaaDoor
open Go.RowKit
end Go.Proofs.YtbmmilhinbfahaaDoor
/- the reference of layer 2: Rest, Step -/
namespace Go.Proofs.YtbmmilhinbfahaaDoor
open Go.RowKit
theorem step_big {u a x : Int} (hu : 1 ≤ u) (hu2 : u ≤ 999) (ha : -999999 ≤ a) (ha2 : a ≤ 999999) (hx : K.fits x) : x.natAbs ≤ BIG ∧ (u * x).natAbs ≤ BIG ∧ (u * x + a).natAbs ≤ BIG := by
  have h := fits_top hx
  have h2 : TOP 224 = TOP 1 * TOP 223 := TOP_add 1 223
  have h1 : TOP 1 = 1000000000 := by decide
  have hp := TOP_pos 223
  have h3 : (u * x).natAbs = u.natAbs * x.natAbs := Int.natAbs_mul u x
  have h4 : u.natAbs * x.natAbs ≤ 999 * x.natAbs := Nat.mul_le_mul_right _ (by omega)
  have h5 : (u * x).natAbs < TOP 224 ∧ (u * x + a).natAbs < TOP 224 := by
    rw [h2, h1]
    generalize TOP 223 = t at *
    generalize u * x = y at *
    omega
  exact ⟨fits_big hx, le_big h5.1 (by omega), le_big h5.2 (by omega)⟩
theorem small_big {u : Int} (h : u.natAbs < 1000000000) : u.natAbs ≤ BIG := le_big (a := 1) (by rw [show TOP 1 = 1000000000 by decide]; exact h) (by omega)
theorem RefPost.put {w w3 : World} {q : Int} {b : Bool} {A : Option Addr} {k c H : Nat} {t : TypeId} (r1 : Row w3 H t [.bool false, .slice none 0 0]) (hw : Ext w w3) (hH : w.heap.size ≤ H) (hv : RefV w3 (.agg #[.bool b, .slice A k c]) q) :
    RefPost q w (.returned (.agg #[.bool b, .slice A k c])) ((w3.setCell ⟨H, 0, none⟩ (.bool b)).setCell ⟨H, 1, none⟩ (.slice A k c)) :=
  ⟨_, rfl, hv.box r1, (hw.set' (by show _ ≤ H; omega) _).set' (by show _ ≤ H; omega) _⟩
theorem stepI_big {m x : Int} {us ad : List Int} (hM : mapP m us ad) (hx : K.fits x) : (stepI m us ad x).natAbs ≤ BIG := by
  have hu := rule_at hM x
  have h := (step_big hu.1 hu.2.1 hu.2.2.1 hu.2.2.2.1 hx).2.2
  refine Nat.le_trans ?_ h
  have hm := hM.1
  unfold stepI
  generalize us.getD (rOf m x) 0 * x + ad.getD (rOf m x) 0 = t
  obtain ⟨d, rfl⟩ : ∃ d : Nat, m = (d : Int) := ⟨m.toNat, by omega⟩
  rcases Int.lt_or_le t 0 with h0 | h0
  · have h1 : t ≤ t / (d : Int) := by
      have := Int.ediv_mul_le t (show (d : Int) ≠ 0 by omega)
      have h2 : t / (d : Int) < 0 := Int.ediv_lt_of_lt_mul (by omega) (by omega)
      have h3 : t / (d : Int) * 1 ≥ t / (d : Int) * (d : Int) := Int.mul_le_mul_of_nonpos_left (by omega) (by omega)
      have h4 := Int.lt_ediv_add_one_mul_self t (show (0 : Int) < (d : Int) by omega)
      have h5 : (t / (d : Int) + 1) * (d : Int) ≤ (t / (d : Int) + 1) * 1 := Int.mul_le_mul_of_nonpos_left (by omega) (by omega)
      omega
    have h2 : t / (d : Int) < 0 := Int.ediv_lt_of_lt_mul (by omega) (by omega)
    omega
  · have h1 : 0 ≤ t / (d : Int) := Int.ediv_nonneg h0 (by omega)
    have h2 : t / (d : Int) ≤ t := Int.ediv_le_self _ h0
    omega
end Go.Proofs.YtbmmilhinbfahaaDoor
/- the reference's Value of layer 3 -/
namespace Go.Proofs.YtbmmilhinbfahaaDoor
open Go.RowKit
end Go.Proofs.YtbmmilhinbfahaaDoor
/- append to a list of numbers of the reference's: rows of boxes -/
namespace Go.Proofs.YtbmmilhinbfahaaDoor
open Go.RowKit
/-- block g holds no small number -/
def NoInt (l : List Value) : Prop := ∀ v ∈ l, ∀ k x, v ≠ .int k x
def NoIntB (w : World) (g : Nat) : Prop := ∃ cs t fr, w.heap[g]? = some (.cells cs t fr) ∧ NoInt cs.toList
theorem NoIntB.keep {w w' : World} {g : Nat} (h : NoIntB w g) (e : w'.heap[g]? = w.heap[g]?) : NoIntB w' g := by
  obtain ⟨cs, t, fr, h1, h2⟩ := h
  exact ⟨cs, t, fr, e.trans h1, h2⟩
theorem NoIntB.cell {w : World} {g o : Nat} {k : IntKind} {x : Int} (h : NoIntB w g) : w.cell? ⟨g, o, none⟩ ≠ some (.int k x) := by
  obtain ⟨cs, t, fr, h1, h2⟩ := h
  intro e
  have e2 : cs[o]? = some (.int k x) := by simpa [World.cell?, h1] using e
  obtain ⟨ho, e3⟩ := Array.getElem?_eq_some_iff.1 e2
  exact h2 _ (by rw [← e3]; simp) k x rfl
theorem Rd.not_at {w : World} {g : Nat} {A : Option Addr} {vs : List Nat} (h : Rd w A (I64s vs)) (hn : NoIntB w g) : vs = [] ∨ ∃ b o, A = some ⟨b, o, none⟩ ∧ b ≠ g ∧ b < w.heap.size ∧ ∀ j u, (I64s vs)[j]? = some u → w.cell? ⟨b, o + j, none⟩ = some u := by
  rcases h with h | ⟨b, o, ha, hb, hc⟩
  · exact .inl (List.map_eq_nil_iff.1 h)
  · cases vs with
    | nil => exact .inl rfl
    | cons x r =>
      refine .inr ⟨b, o, ha, ?_, hb, hc⟩
      intro e
      subst e
      exact hn.cell (hc 0 (.int .i64 (x : Int)) rfl)
/-- what a world keeps of the lists of parts -/
def KeepRd (w w' : World) : Prop := ∀ (A : Option Addr) (vs : List Nat), Rd w A (I64s vs) → Rd w' A (I64s vs)
theorem KeepRd.of_ext {w w' : World} (e : Ext w w') : KeepRd w w' := fun _ _ h => h.ext e
theorem KeepRd.trans {a b c : World} (h : KeepRd a b) (k : KeepRd b c) : KeepRd a c := fun A vs x => k A vs (h A vs x)
theorem KeepRd.but {w w' : World} {g : Nat} (hn : NoIntB w g) (hs : w.heap.size ≤ w'.heap.size) (hb : ∀ j, j < w.heap.size → j ≠ g → w'.heap[j]? = w.heap[j]?) : KeepRd w w' := by
  intro A vs h
  rcases h.not_at hn with h | ⟨b, o, ha, hne, hlt, hc⟩
  · subst h; exact Rd.nil _ _
  · refine .inr ⟨b, o, ha, by omega, fun j u hu => ?_⟩
    rw [World.cell?_of_block (hb b hlt hne)]
    exact hc j u hu
theorem RefV.kept {w w' : World} {v : Value} {z : Int} (h : RefV w v z) (k : KeepRd w w') : RefV w' v z := by
  obtain ⟨A, kk, c, xs, b, h1, h2, h3, h4, h5, h6, h7⟩ := h
  exact ⟨A, kk, c, xs, b, h1, h2, h3, h4, k A xs h5, h6, h7⟩
theorem noInt_zeros (n : Nat) : NoInt (Builtin.zeroCells (Value.agg #[.bool false, .slice none 0 0]).cells n).toList := by
  intro v hv k x e
  subst e
  simp only [Builtin.zeroCells, Array.toList_map, List.mem_map] at hv
  obtain ⟨i, -, hi⟩ := hv
  have hs : (Value.agg #[.bool false, .slice none 0 0]).cells.size = 2 := by rfl
  rw [hs] at hi
  rcases (show i % 2 = 0 ∨ i % 2 = 1 by omega) with h | h
  · rw [h] at hi; exact absurd hi (by simp [Value.cells])
  · rw [h] at hi; exact absurd hi (by simp [Value.cells])
section
variable {P : Program}
theorem run_append_boxes (w : World) (base : Nat) (t ty e : TypeId) (i : TypeInfo) (ht : P.underlying t = some (.slice e)) (hi : P.info? e = some i) (hz : i.zero = some (.agg #[.bool false, .slice none 0 0]))
    (hsize : i.size = 2) (hby : i.bytes = 32) (g n cap : Nat) (xs : List Value) (hown : w.ownsRow base e 2 (.slice (some ⟨g, 0, none⟩) n cap) n xs) (hno : NoIntB w g)
    (a : Addr) (c : Nat) (b1 : Bool) (P1 : Option Addr) (q1 c1 : Nat) (hnews : ∀ j u, [Value.bool b1, .slice P1 q1 c1][j]? = some u → w.cell? (a.add j) = some u)
    (h63 : n + 1 ≤ 1000000) (hbase : base ≤ w.heap.size) :
    ∃ g' cap' w', (Builtin.append_ #[t, t] ty #[.slice (some ⟨g, 0, none⟩) n cap, .slice (some a) 1 c]).run P w = .ok (.slice (some ⟨g', 0, none⟩) (n + 1) cap') w' ∧
      w'.ownsRow base e 2 (.slice (some ⟨g', 0, none⟩) (n + 1) cap') (n + 1) (xs ++ [.bool b1, .slice P1 q1 c1]) ∧ w.grownBy w' (some g) ∧ n + 1 ≤ cap' ∧ NoIntB w' g' ∧ KeepRd w w' := by
  have hl : [Value.bool b1, .slice P1 q1 c1].length = 1 * 2 := rfl
  have h1 : ∀ u ∈ [Value.bool b1, .slice P1 q1 c1], u.oneCell' = true := by
    intro u hu
    rcases List.mem_cons.1 hu with h | h
    · rw [h]; rfl
    · rw [List.mem_singleton.1 h]; rfl
  have hnn : NoInt [Value.bool b1, .slice P1 q1 c1] := by
    intro v hv k x e
    subst e
    simp at hv
  obtain ⟨v', w', hr0, h2, h3, -⟩ := run_append_own (P := P) w base t ty e i _ 2 32 ht hi hz hsize hby (by rfl) (by omega) _ n xs hown a 1 c _ hl hnews h1 (by unfold maxLen; omega) (by omega) hbase
  rcases hown.2 with ⟨hv, -⟩ | ⟨g0, cap0, cur, hv, hbg, hg, hnc, hcm, hcs, htake⟩
  · cases hv
  · cases hv
    obtain ⟨cs, ct, fr, hcs0, hcsn⟩ := hno
    rw [hg] at hcs0
    cases hcs0
    by_cases hroom : n + 1 ≤ cap
    · have hfit : n * i.size + [Value.bool b1, .slice P1 q1 c1].length ≤ cur.size := by rw [hl, hcs, hsize, ← Nat.add_mul]; exact Nat.mul_le_mul_right _ hroom
      have hr := run_append_room (P := P) w t ty e i ht hi g n cap cur hg a 1 c _ (by rw [hsize]; rfl) hnews h1 hroom hfit
      have hee := hr.symm.trans hr0
      injection hee with hv hw
      subst hv hw
      refine ⟨g, cap, _, hr, h2, h3, hroom, ⟨_, _, _, setRow_heap w g cur _ e _ hg, ?_⟩, KeepRd.but ⟨cur, e, (0, 0), hg, hcsn⟩ h3.size (fun j hj hne => h3.block j hj (by intro e2; cases e2; exact hne rfl))⟩
      intro v hv k x
      rcases List.mem_append.1 (by simpa using hv : v ∈ (cur.toList.take (n * i.size) ++ [Value.bool b1, .slice P1 q1 c1]) ++ cur.toList.drop (n * i.size + 2)) with h | h
      · rcases List.mem_append.1 h with h | h
        · exact hcsn v (List.mem_of_mem_take h) k x
        · exact hnn v h k x
      · exact hcsn v (List.mem_of_mem_drop h) k x
    · have holds : ∀ j u, xs[j]? = some u → w.cell? ((⟨g, 0, none⟩ : Addr).add j) = some u := hown.cells (g := g) rfl
      have hr := run_append_grow (P := P) w t ty e i _ ht hi hz ⟨g, 0, none⟩ n cap xs (by rw [hsize]; exact hown.1) holds a 1 c _ (by rw [hsize]; rfl) hnews (by omega) (by omega) (growslice_fits (by omega) (by rw [hby]; omega))
      have hee := hr.symm.trans hr0
      injection hee with hv hw
      subst hv hw
      refine ⟨w.heap.size, _, _, hr, h2, h3, grownCap_ge w (n + 1) cap e, ⟨_, _, _, heap_alloc_new w.drew _, ?_⟩, KeepRd.of_ext ((Ext.rfl' w).drew'.alloc' _)⟩
      intro v hv k x
      simp only [Array.toList_append, List.append_assoc] at hv
      rcases List.mem_append.1 hv with h | h
      · exact hcsn v (by rw [← htake] at h; exact List.mem_of_mem_take h) k x
      · rcases List.mem_append.1 h with h | h
        · exact hnn v h k x
        · exact noInt_zeros _ v h k x
theorem wpList_append_boxes {w : World} {ops : Array Oper} {rest : List Oper} {o : Oper} {a : Act} {Q : Exit → Act → World → Prop} (hgd : o.guard = none) (s x : Operand) (t : TypeId)
    (ho : o.op = .call { callee := .builtin .append, args := #[s, x], argTypes := #[t, t] })
    (base : Nat) (e : TypeId) (i : TypeInfo) (ht : P.underlying t = some (.slice e)) (hi : P.info? e = some i) (hz : i.zero = some (.agg #[.bool false, .slice none 0 0]))
    (hsize : i.size = 2) (hby : i.bytes = 32) (g n cap : Nat) (xs : List Value) (hs : a.eval s = .slice (some ⟨g, 0, none⟩) n cap) (hown : w.ownsRow base e 2 (.slice (some ⟨g, 0, none⟩) n cap) n xs) (hno : NoIntB w g)
    (ad : Addr) (c : Nat) (b1 : Bool) (P1 : Option Addr) (q1 c1 : Nat) (hx : a.eval x = .slice (some ad) 1 c) (hnews : ∀ j u, [Value.bool b1, .slice P1 q1 c1][j]? = some u → w.cell? (ad.add j) = some u)
    (h63 : n + 1 ≤ 1000000) (hbase : base ≤ w.heap.size)
    (h : ∀ g' cap' w', w'.ownsRow base e 2 (.slice (some ⟨g', 0, none⟩) (n + 1) cap') (n + 1) (xs ++ [.bool b1, .slice P1 q1 c1]) → w.grownBy w' (some g) → n + 1 ≤ cap' → NoIntB w' g' → KeepRd w w' → wpList P ops Q rest (a.put o.dst (.slice (some ⟨g', 0, none⟩) (n + 1) cap')) w') : wpList P ops Q (o :: rest) a w :=
  wpList_plain hgd fun _ hK => by
    obtain ⟨g', cap', w', hr, h2, h3, h4, h5, h6⟩ := run_append_boxes (P := P) w base t o.type e i ht hi hz hsize hby g n cap xs hown hno ad c b1 P1 q1 c1 hnews h63 hbase
    unfold Oper.wp execOp
    simp only [ho, resolve, invoke, builtin, Sem.run_bind, Sem.run_pure, Result.andThen_ok, List.map_toArray, List.map_cons, List.map_nil, hs, hx, hr]
    exact hK _ _ (h g' cap' w' h2 h3 h4 h5 h6)
end
theorem own_keep {w w' : World} {base e size n : Nat} {v : Value} {xs : List Value} (h : w.ownsRow base e size v n xs) (hk : ∀ g, base ≤ g → g < w.heap.size → w'.heap[g]? = w.heap[g]?) : w'.ownsRow base e size v n xs := by
  refine ⟨h.1, ?_⟩
  rcases h.2 with h2 | ⟨g, cap, cur, h1, h2, h3, h4⟩
  · exact .inl h2
  · refine .inr ⟨g, cap, cur, h1, h2, ?_, h4⟩
    rw [hk g h2 (by
      rcases Nat.lt_or_ge g w.heap.size with hl | hl
      · exact hl
      · rw [Array.getElem?_eq_none hl] at h3; cases h3)]
    exact h3
theorem own_ge {w : World} {base e size n : Nat} {g cap : Nat} {xs : List Value} (h : w.ownsRow base e size (.slice (some ⟨g, 0, none⟩) n cap) n xs) : base ≤ g ∧ g < w.heap.size ∧ n ≤ cap := by
  rcases h.2 with ⟨h2, -⟩ | ⟨g', cap', cur, h1, h2, h3, h4, -⟩
  · cases h2
  · cases h1
    refine ⟨h2, ?_, h4⟩
    rcases Nat.lt_or_ge g w.heap.size with hl | hl
    · exact hl
    · rw [Array.getElem?_eq_none hl] at h3; cases h3
theorem cell_two_new (w : World) (t : TypeId) (a b : Value) : ∀ j u, [a, b][j]? = some u → (w.alloc (.cells #[a, b] t)).cell? ((⟨w.heap.size, 0, none⟩ : Addr).add j) = some u := by
  intro j u hu
  have hadd : (⟨w.heap.size, 0, none⟩ : Addr).add j = ⟨w.heap.size, j, none⟩ := by unfold Addr.add; split <;> simp_all
  rw [hadd, (Row.new w t [a, b]).cell]
  exact hu
end Go.Proofs.YtbmmilhinbfahaaDoor
/- the reference's Is of layer 3 -/
namespace Go.Proofs.YtbmmilhinbfahaaDoor
open Go.RowKit
end Go.Proofs.YtbmmilhinbfahaaDoor
/- word.class.narrowed -/
namespace Go.Proofs.YtbmmilhinbfahaaDoor
open Go.RowKit
end Go.Proofs.YtbmmilhinbfahaaDoor
/- word.Rest -/
namespace Go.Proofs.YtbmmilhinbfahaaDoor
open Go.RowKit
theorem class_fits {m : Int} {us ad : List Int} (hM : mapP m us ad) {k : Nat} (hk : k ≤ 200) {R D x a u : Int} (h0 : 0 ≤ R) (hRD : R < D) (hD : D.natAbs ≤ 1000 ^ k) (ha : a.natAbs ≤ 1000 ^ k) (hx : ClassB k x) (hu1 : 1 ≤ u) (hu2 : u ≤ 999) :
    (K.fits R ∧ K.fits D ∧ K.fits x ∧ K.fits a ∧ K.fits (D * m) ∧ K.fits (a * u)) ∧ ∀ t : Int, 0 ≤ t → t < m → K.fits t ∧ K.fits (t * D) ∧ K.fits (R + t * D) ∧ K.fits (t * a) ∧ K.fits (x + t * a) ∧ K.fits (stepI m us ad (x + t * a)) := by
  have hm1 := hM.1
  have hm2 := hM.2.1
  have hnx := fun t (h1 : 0 ≤ t) (h2 : t ≤ 11) => hx.next hM h1 h2 ha
  have hx2 : x.natAbs ≤ k * 2000000 * 1000 ^ k := hx
  unfold ClassB at hnx
  have hp : 1 ≤ K.pw (3 * k) := K.pw_pos _
  rw [thousand_pw] at *
  have e1 : (D * m).natAbs ≤ K.pw (3 * k) * 12 := by rw [Int.natAbs_mul]; exact Nat.mul_le_mul hD (by omega)
  have e2 : (a * u).natAbs ≤ K.pw (3 * k) * 999 := by rw [Int.natAbs_mul]; exact Nat.mul_le_mul ha (by omega)
  refine ⟨⟨fits_pw (a := 1) (b := 3 * k) (by omega) (by rw [pw12]; omega) (by omega), fits_pw (a := 1) (b := 3 * k) (by omega) (by rw [pw12]; omega) (by omega), fits_pw (a := k * 2000000) (b := 3 * k) hx2 (by rw [pw12]; omega) (by omega), fits_pw (a := 1) (b := 3 * k) (by omega) (by rw [pw12]; omega) (by omega), fits_pw (a := 12) (b := 3 * k) (by omega) (by rw [pw12]; omega) (by omega), fits_pw (a := 999) (b := 3 * k) (by omega) (by rw [pw12]; omega) (by omega)⟩, fun t h1 h2 => ?_⟩
  have e3 : (t * D).natAbs ≤ 11 * K.pw (3 * k) := by rw [Int.natAbs_mul]; exact Nat.mul_le_mul (by omega) hD
  have e4 : (t * a).natAbs ≤ 11 * K.pw (3 * k) := by rw [Int.natAbs_mul]; exact Nat.mul_le_mul (by omega) ha
  have e5 := hnx t h1 (by omega)
  rw [thousand_pw] at e5
  exact ⟨fits_pw (a := 11) (b := 3 * k) (by omega) (by rw [pw12]; omega) (by omega), fits_pw (a := 11) (b := 3 * k) e3 (by rw [pw12]; omega) (by omega), fits_pw (a := 12) (b := 3 * k) (by omega) (by rw [pw12]; omega) (by omega), fits_pw (a := 11) (b := 3 * k) e4 (by rw [pw12]; omega) (by omega), fits_pw (a := k * 2000000 + 11) (b := 3 * k) e5.1 (by rw [pw12]; omega) (by omega), fits_pw (a := (k + 1) * 2000000) (b := 3 * (k + 1)) e5.2 (by rw [pw12]; omega) (by omega)⟩
def RestNo (c : Int) (w : World) (e : Ending) (w' : World) : Prop := e = .returned (.tuple #[.string ⟨#[]⟩, .string ⟨#[]⟩, .int .i64 c]) ∧ Ext w w'
def RestYes (m : Int) (us ad : List Int) (ws : List Int) (w : World) (e : Ending) (w' : World) : Prop := ∃ R : Int, e = .returned (.tuple #[.string (Str (K.txt R)), .string (Str (K.txt (m ^ ws.length))), .int .i64 0]) ∧ 0 ≤ R ∧ R < m ^ ws.length ∧ IsWord m us ad ws R ∧ Ext w w'
theorem Row.put4 {W : World} {H : Nat} {t : TypeId} {p q r s a b c d : Value} (h : Row W H t [p, q, r, s]) : Row ((((W.setCell ⟨H, 0, none⟩ a).setCell ⟨H, 1, none⟩ b).setCell ⟨H, 2, none⟩ c).setCell ⟨H, 3, none⟩ d) H t [a, b, c, d] :=
  (((h.set 0 a).set 1 b).set 2 c).set 3 d
theorem Row.set4 {W : World} {H g : Nat} {t : TypeId} {vs : List Value} {a b c d : Value} (h : Row W g t vs) (hne : g ≠ H) : Row ((((W.setCell ⟨H, 0, none⟩ a).setCell ⟨H, 1, none⟩ b).setCell ⟨H, 2, none⟩ c).setCell ⟨H, 3, none⟩ d) g t vs :=
  (((h.far (by show g ≠ H; exact hne) _).far (by show g ≠ H; exact hne) _).far (by show g ≠ H; exact hne) _).far (by show g ≠ H; exact hne) _
theorem Ext.set4 {w W : World} {H : Nat} {a b c d : Value} (h : Ext w W) (hH : w.heap.size ≤ H) : Ext w ((((W.setCell ⟨H, 0, none⟩ a).setCell ⟨H, 1, none⟩ b).setCell ⟨H, 2, none⟩ c).setCell ⟨H, 3, none⟩ d) :=
  (((h.set' (by show _ ≤ H; exact hH) _).set' (by show _ ≤ H; exact hH) _).set' (by show _ ≤ H; exact hH) _).set' (by show _ ≤ H; exact hH) _
end Go.Proofs.YtbmmilhinbfahaaDoor
/- word.timesPlus, word.Apply -/
namespace Go.Proofs.YtbmmilhinbfahaaDoor
open Go.RowKit
theorem body_txt2 (n : Int) : K.body (K.txt n) = K.txt (n.natAbs : Int) := by
  rw [K.body_txt]
  unfold K.txt
  rw [if_neg (by omega), Int.natAbs_natCast]
theorem rec_use {f f' r S : Int} {l : List UInt8} (h : l.length ≤ 2001 ∧ (f = 0 → (K.fits r → f' = 0 ∧ l = K.txt r) ∧ (¬ K.fits r → f' = 3)) ∧ (f = 3 → f' = 3)) (hf : f = 0 ∨ f = 3) (hr : f = 0 → r = S) :
    (f' = 0 → f = 0 ∧ K.fits S ∧ l = K.txt S) ∧ (f = 0 → K.fits S → f' = 0) := by
  refine ⟨fun h0 => ?_, fun h0 hs => ?_⟩
  · rcases hf with hf | hf
    · have h1 := h.2.1 hf
      rw [hr hf] at h1
      by_cases hs : K.fits S
      · exact ⟨hf, hs, (h1.1 hs).2⟩
      · have := h1.2 hs; omega
    · have := h.2.2 hf; omega
  · have h1 := h.2.1 h0
    rw [hr h0] at h1
    exact (h1.1 hs).1
/-- no number on the way is too long where the sum is not -/
theorem tp_way {P Q A : Int} {L : Nat} (hs : (0 ≤ P ∧ 0 ≤ Q) ∨ (P ≤ 0 ∧ Q ≤ 0)) (hA : A.natAbs < L) (hT : (P + A + P + Q).natAbs < L) : P.natAbs < L ∧ (P + A).natAbs < L ∧ (P + A + P).natAbs < L := by
  rcases hs with h | h <;> omega
theorem half_parts (M N : Int) (hN : 0 ≤ N) : (0 ≤ M * (N / 2) ∧ 0 ≤ M * (N % 2)) ∨ (M * (N / 2) ≤ 0 ∧ M * (N % 2) ≤ 0) := by
  have h1 : 0 ≤ N / 2 := Int.ediv_nonneg hN (by omega)
  have h2 : 0 ≤ N % 2 := Int.emod_nonneg _ (by omega)
  rcases Int.le_total 0 M with h | h
  · exact .inl ⟨Int.mul_nonneg h h1, Int.mul_nonneg h h2⟩
  · exact .inr ⟨Int.mul_nonpos_of_nonpos_of_nonneg h h1, Int.mul_nonpos_of_nonpos_of_nonneg h h2⟩
theorem half_sum (M N A : Int) : M * (N / 2) + A + M * (N / 2) + M * (N % 2) = M * N + A := by
  have h := Int.mul_ediv_add_emod N 2
  have : M * N = M * (N / 2) + M * (N / 2) + M * (N % 2) := by
    rw [← Int.mul_add, ← Int.mul_add]
    congr 1
    omega
  omega
theorem odd_fits {M N : Int} (hM : K.fits M) : K.fits (M * (N % 2)) := by
  have h2 : N % 2 = 0 ∨ N % 2 = 1 := by omega
  rcases h2 with h | h
  · rw [h, Int.mul_zero]; exact K.LIM_pos
  · rw [h, Int.mul_one]; exact hM
/-- what timesPlus returns: the text, or ErrSize -/
def TPPost (S : Int) (w : World) (e : Ending) (w' : World) : Prop := ∃ (s : ByteArray) (c : Int), e = .returned (.tuple #[.string s, .int .i64 c]) ∧ Hid (Told2 S s c) ∧ Ext w w'
theorem two_ok : K.validL [50] = true := by decide +kernel
theorem two_num : K.numL [50] = 2 := by decide +kernel
theorem zero_ok : K.validL [48] = true := by decide +kernel
theorem zero_num : K.numL [48] = 0 := by decide +kernel
theorem fits_neg {M : Int} (h : K.fits M) : K.fits (0 - M) := by
  show (0 - M).natAbs < K.LIM
  have h2 : M.natAbs < K.LIM := h
  omega
theorem fits_half {N : Int} (h0 : 0 ≤ N) (h : K.fits N) : K.fits (N / 2) ∧ K.fits (N % 2) := by
  have h2 : N.natAbs < K.LIM := h
  have h3 := K.LIM_pos
  refine ⟨?_, ?_⟩
  · show (N / 2).natAbs < K.LIM
    omega
  · show (N % 2).natAbs < K.LIM
    have h4 : (1 : Nat) < K.LIM := by
      have h5 : K.pw 1 ≤ K.pw 2000 := K.pw_mono (by omega)
      have h6 : K.pw 1 = 10 := by decide
      unfold K.LIM
      omega
    omega
end Go.Proofs.YtbmmilhinbfahaaDoor
/- word.Apply -/
namespace Go.Proofs.YtbmmilhinbfahaaDoor
open Go.RowKit
theorem txt_not_zero {z : Int} (h : z ≠ 0) : Str (K.txt z) ≠ ⟨#[48]⟩ := by
  intro e
  have h2 : K.txt z = [48] := by
    have := congrArg (fun b : ByteArray => b.data.toList) e
    simpa [Str] using this
  rw [← txt_zero2] at h2
  exact h (K.txt_inj h2)
end Go.Proofs.YtbmmilhinbfahaaDoor
/- the word law package's awake -/
namespace Go.Proofs.YtbmmilhinbfahaaDoor
open Go.RowKit
theorem line110 : lineI 2 [1, 3] [0, 1] [1, 1, 0] = (9, 5, 8) := by decide +kernel
theorem word110 : wordB 2 [1, 1, 0] = true := by decide +kernel
theorem reg13 : regB 2 [1, 3] = true := by decide +kernel
theorem rest3B : ((List.range 8).all fun n => !((List.range 3).all fun i => orbN 2 [1, 3] [0, 1] i (n : Int) % 2 == ([1, 1, 0] : List Int).getD i 0) || n == 3) = true := by decide +kernel
theorem rest3 {R : Int} (h0 : 0 ≤ R) (h8 : R < 2 ^ ([1, 1, 0] : List Int).length) (h : IsWord 2 [1, 3] [0, 1] [1, 1, 0] R) : R = 3 := by
  obtain ⟨n, rfl⟩ : ∃ n : Nat, R = (n : Int) := ⟨R.toNat, by omega⟩
  have h8' : (n : Int) < 8 := h8
  have h1 := List.all_eq_true.1 rest3B n (List.mem_range.2 (by omega))
  rw [Bool.or_eq_true] at h1
  rcases h1 with h1 | h1
  · exfalso
    rw [Bool.not_eq_true'] at h1
    rw [← Bool.not_eq_true] at h1
    exact h1 (List.all_eq_true.2 fun i hi => beq_iff_eq.2 (h i (List.mem_range.1 hi)))
  · rw [beq_iff_eq.1 h1]; rfl
theorem word7 : wordI 2 [1, 3] [0, 1] (3 + 1) 7 = [1, 1, 1, 0] := by decide +kernel
theorem seq73 : seqO 2 [1, 3] [0, 1] 3 7 = [some 11, some 17, some 26] := by decide +kernel
theorem txt3 : K.txt 3 = [51] := K.txt_of_lit [51] 3 (by decide +kernel) (by decide +kernel)
theorem txt5 : K.txt 5 = [53] := K.txt_of_lit [53] 5 (by decide +kernel) (by decide +kernel)
theorem txt8 : K.txt 8 = [56] := K.txt_of_lit [56] 8 (by decide +kernel) (by decide +kernel)
theorem txt9 : K.txt 9 = [57] := K.txt_of_lit [57] 9 (by decide +kernel) (by decide +kernel)
theorem txt11 : K.txt 11 = [49, 49] := K.txt_of_lit [49, 49] 11 (by decide +kernel) (by decide +kernel)
theorem txt12 : K.txt 12 = [49, 50] := K.txt_of_lit [49, 50] 12 (by decide +kernel) (by decide +kernel)
theorem txt13 : K.txt 13 = [49, 51] := K.txt_of_lit [49, 51] 13 (by decide +kernel) (by decide +kernel)
end Go.Proofs.YtbmmilhinbfahaaDoor
/- the word law package's awake -/
namespace Go.Proofs.YtbmmilhinbfahaaDoor
open Go.RowKit
end Go.Proofs.YtbmmilhinbfahaaDoor
/- the law WordPowers -/
namespace Go.Proofs.YtbmmilhinbfahaaDoor
open Go.RowKit
theorem powers_next {m : Int} {us ad ws : List Int} {j : Nat} (hM : mapP m us ad) (hW : wordB m ws = true) (hj : j < ws.length) :
    (lineI m us ad (ws.take j)).1 * us.getD (ws.getD j 0).toNat 0 = (lineI m us ad (ws.take (j + 1))).1 ∧ (lineI m us ad (ws.take j)).2.2 * m = (lineI m us ad (ws.take (j + 1))).2.2 ∧
      (lineI m us ad (ws.take j)).1.natAbs ≤ BIG ∧ (lineI m us ad (ws.take j)).2.2.natAbs ≤ BIG ∧ 0 ≤ ws.getD j 0 ∧ ws.getD j 0 < m ∧ 1 ≤ us.getD (ws.getD j 0).toNat 0 ∧ us.getD (ws.getD j 0).toNat 0 ≤ 999 ∧ (ws.getD j 0).toNat < us.length := by
  have hw := wordB_iff.1 hW
  have hr := hw.2 (ws.getD j 0) (by rw [List.getD_eq_getElem?_getD, List.getElem?_eq_getElem hj]; exact List.getElem_mem hj)
  obtain ⟨u1, u2, -, -, l1, -⟩ := rule_of hM hr.1 hr.2
  have hB := lineI_B hM (ws.take j) (fun x hx => hw.2 x (List.mem_of_mem_take hx))
  have hf := hB.fits hM (by rw [List.length_take]; have := hw.1; omega) hr.1 hr.2
  refine ⟨?_, ?_, fits_big hf.1, fits_big hf.2.2.1, hr.1, hr.2, u1, u2, l1⟩
  · rw [take_succ_I hj, lineI_snoc]; exact Int.mul_comm _ _
  · rw [take_succ_I hj, lineI_snoc]; rfl
theorem powers_big {m : Int} {us ad ws : List Int} (hM : mapP m us ad) (hW : wordB m ws = true) : (lineI m us ad ws).1.natAbs ≤ BIG ∧ (lineI m us ad ws).2.2.natAbs ≤ BIG := by
  have hw := wordB_iff.1 hW
  have hB := lineI_B hM ws hw.2
  have hm := hM.1
  have hf := hB.fits hM hw.1 (r := 0) (by omega) (by omega)
  exact ⟨fits_big hf.1, fits_big hf.2.2.1⟩
end Go.Proofs.YtbmmilhinbfahaaDoor
