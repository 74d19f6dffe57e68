/- Joined texts: the law SieveExact; the numbers of the reference's first of layer 4; the mathematics of the law SieveLeft; a drawn region whose last operations follow the others: its head by held loads, its tail in order. -/
import Derived.Test.YtleccblkafcidaaGreatDoorJG21
import Derived.Test.YtleccblkafcidaaGreatDoorJG19
import Derived.StillTailTactics
import Derived.Deep.RegionHeld3
set_option linter.unusedSimpArgs false
set_option linter.unusedVariables false
/- the law SieveExact -/
namespace Go.Proofs.YtleccblkafcidaaGreatDoor
open Go.RowKit
theorem exact_iff {M A D X Y : Int} (h : M < D) (hD : 0 < D) (e : M * X + A = D * Y) : Y < X ↔ A / (D - M) < X := by
  rw [Int.ediv_lt_iff_lt_mul (by omega)]
  have h1 : Y < X ↔ D * Y < D * X := ⟨fun k => Int.mul_lt_mul_of_pos_left k hD, fun k => Int.lt_of_mul_lt_mul_left k (by omega)⟩
  rw [h1, ← e, Int.mul_sub, Int.mul_comm X D, Int.mul_comm X M]
  omega
theorem Sm.big2 {e : Nat} {x : Int} (h : Sm e x) (he : e ≤ 1000) : x.natAbs ≤ BIG := le_big (a := e) (by unfold Sm at h; omega) he
theorem exact_big {m : Int} {us ad : List Int} (hM : mapP m us ad) {x : Int} (h : Sm 238 x) : x.natAbs ≤ BIG ∧ (mulAt m us x * x).natAbs ≤ BIG ∧ (mulAt m us x * x + ad.getD (rOf m x) 0).natAbs ≤ BIG := by
  have hu := rule_at hM x
  have hT : TOP 1 = 1000000000 := by decide
  have h1 : Sm 240 (x * mulAt m us x) := h.mul (d := 1) (by unfold mulAt; have h1 := hu.1; have h2 := hu.2.1; omega) (by omega)
  rw [Int.mul_comm] at h1
  have h2 : Sm 240 (ad.getD (rOf m x) 0) := by
    have h3 : Sm 1 (ad.getD (rOf m x) 0) := by
      have : TOP 1 = 1000000000 := by decide
      have h1 := hu.2.2.1
      have h2 := hu.2.2.2.1
      unfold Sm
      omega
    exact h3.mono (by omega)
  exact ⟨h.big2 (by omega), h1.big2 (by omega), (h1.add h2 (show 240 < 241 by omega)).big2 (by omega)⟩
theorem exact_orb {m : Int} {us ad : List Int} (hM : mapP m us ad) {X : Int} (hX : K.fits X) {i : Nat} (hi : i ≤ 16) : (orbN m us ad i X).natAbs ≤ BIG := by
  have h : Sm 224 X := by
    have := fits_top hX; have := top_step 223 224 (by omega); have := TOP_pos 223; unfold Sm; omega
  exact (h.orb hM (k := i) (by omega) (f := 238) (by omega)).big2 (by omega)
/-- the two comparisons, by their signs -/
theorem exact_cmp {X Y bd : Int} (h : Y < X ↔ bd < X) : ∃ (d1 d2 : Int), sgnI Y X = d1 ∧ sgnI X bd = d2 ∧ ((d1 = -1 ∧ d2 = 1) ∨ ((d1 = 0 ∨ d1 = 1) ∧ (d2 = 0 ∨ d2 = -1))) := by
  refine ⟨_, _, rfl, rfl, ?_⟩
  by_cases h1 : Y < X
  · have h2 := h.1 h1
    exact .inl ⟨by unfold sgnI; rw [if_pos h1], by unfold sgnI; rw [if_neg (by omega), if_pos h2]⟩
  · have h2 : ¬ bd < X := fun k => h1 (h.2 k)
    refine .inr ⟨?_, ?_⟩
    · unfold sgnI; rw [if_neg h1]; split <;> omega
    · unfold sgnI; split
      · right; rfl
      · first | (left; rfl) | (rw [if_neg (by omega)]; left; rfl)
theorem apply_e (M A D X Y : Int) (su sa sd sy : ByteArray) (l : List UInt8) (w : World) (ht : Tab w) (HF : Hid (K.fits M ∧ K.fits A ∧ K.fits D ∧ 0 < D)) (hl : Hid (K.validL l = true)) (hX : Hid (K.numL l = X)) (he : Hid (M * X + A = D * Y))
    (h1 : Hid (Str (K.txt M) = su)) (h2 : Hid (Str (K.txt A) = sa)) (h3 : Hid (Str (K.txt D) = sd)) (h4 : Hid (Str (K.txt Y) = sy)) :
    Calls Tryz.prog 125 #[.agg #[.string su, .string sa, .string sd], .string (Str l)] w (fun e w' => ∃ s b c, e = .returned (.tuple #[.string s, .bool b, .int .i64 c]) ∧ (c = 3 ∨ (c = 0 ∧ b = true ∧ s = sy)) ∧ Ext w w') := by
  obtain ⟨f1, f2, f3, f4⟩ := HF.out
  by_cases hf : K.fits (D * Y)
  · exact (applyl_yes M A D X Y su sa sd l sy w f1 f2 f3 hl.out hX.out ht f4 he.out hf h1 h2 h3 h4).mono fun e w' h => ⟨_, _, _, h.1, .inr ⟨rfl, rfl, rfl⟩, h.2⟩
  · exact (applyl_no M A D X Y su sa sd l w f1 f2 f3 hl.out hX.out ht f4 he.out hf h1 h2 h3).mono fun e w' h => ⟨_, _, _, h.1, .inl rfl, h.2⟩
end Go.Proofs.YtleccblkafcidaaGreatDoor
/- the numbers of the reference's first of layer 4 -/
namespace Go.Proofs.YtleccblkafcidaaGreatDoor
open Go.RowKit
theorem orb_aux {P Q x y : Nat} (hp : 1 ≤ P) (h : y ≤ 999 * x + 999999) (ih : x ≤ Q) : y ≤ Q * 1000 + 1000000 * P * 1000 := by omega
theorem orb_bd {m : Int} {us ad : List Int} (hM : mapP m us ad) {X : Int} (hX : X.natAbs ≤ 65536) : ∀ s : Nat, (orbN m us ad s X).natAbs ≤ (65536 + s * 1000000) * 1000 ^ s
  | 0 => by show X.natAbs ≤ _; omega
  | s + 1 => by
    have ih := orb_bd hM hX s
    have h := stepI_le (us := us) (ad := ad) (x := orbN m us ad s X) hM
    show (stepI m us ad (orbN m us ad s X)).natAbs ≤ _
    have hp : 1 ≤ 1000 ^ s := Nat.pow_pos (by omega)
    rw [Nat.pow_succ]
    generalize 1000 ^ s = P at *
    have e : (65536 + (s + 1) * 1000000) * (P * 1000) = ((65536 + s * 1000000) * P) * 1000 + 1000000 * P * 1000 := by
      rw [show 65536 + (s + 1) * 1000000 = (65536 + s * 1000000) + 1000000 by omega, Nat.add_mul, ← Nat.mul_assoc, ← Nat.mul_assoc]
    rw [e]
    exact orb_aux hp h ih
theorem orb_fit {m : Int} {us ad : List Int} (hM : mapP m us ad) {X : Int} (hX : X.natAbs ≤ 65536) {s : Nat} (hs : s ≤ 200) : K.fits (orbN m us ad s X) := by
  have h := orb_bd hM hX s
  rw [thousand_pw] at h
  exact fits_pw (a := 65536 + s * 1000000) (b := 3 * s) h (by rw [pw12]; omega) (by omega)
theorem lnX_B {m : Int} {us ad : List Int} (hM : mapP m us ad) (X : Int) (s : Nat) : LineB s (lnX m us ad X s) := by
  have hm := hM.1
  have h := lineI_B hM (wordI m us ad s X) (fun r hr => by
    obtain ⟨i, -, rfl⟩ := List.mem_map.1 hr
    exact rest_ok2 (by omega) _)
  rwa [word_len] at h
/-- what first tells -/
def FirstC (m : Int) (us ad : List Int) (X : Int) (k at_ s : Nat) : Prop := (1 ≤ s ∧ s ≤ k ∧ at_ = s ∧ FallsAt m us ad X s ∧ ∀ j, 1 ≤ j → j < s → ¬ FallsAt m us ad X j) ∨ (at_ = 0 ∧ s = k ∧ ∀ j, 1 ≤ j → j ≤ k → ¬ FallsAt m us ad X j)
end Go.Proofs.YtleccblkafcidaaGreatDoor
/- the mathematics of the law SieveLeft -/
namespace Go.Proofs.YtleccblkafcidaaGreatDoor
open Go.RowKit
theorem sgn_scale {D t : Int} (hD : 0 < D) : sgn0 (D * t) = sgn0 t := by
  unfold sgn0
  rcases Int.lt_trichotomy t 0 with h | h | h
  · have h1 := Int.mul_neg_of_pos_of_neg hD h
    have n1 : D * t ≠ 0 := by omega
    have n2 : t ≠ 0 := by omega
    simp [n1, n2, h1, h]
  · subst h; simp
  · have h1 := Int.mul_pos hD h
    have n1 : D * t ≠ 0 := by omega
    have n2 : t ≠ 0 := by omega
    have n3 : ¬ D * t < 0 := by omega
    have n4 : ¬ t < 0 := by omega
    simp [n1, n2, n3, n4]
theorem sgn_diff (y x : Int) : sgn0 (y - x) = sgnI y x := by
  unfold sgn0 sgnI
  rcases Int.lt_trichotomy y x with h | h | h
  · have n1 : y - x ≠ 0 := by omega
    have n2 : y - x < 0 := by omega
    simp [n1, n2, h]
  · subst h; simp
  · have n1 : y - x ≠ 0 := by omega
    have n2 : ¬ y - x < 0 := by omega
    have n3 : ¬ y < x := by omega
    simp [n1, n2, n3, h]
theorem sgnI_cases (y x : Int) : sgnI y x = -1 ∨ sgnI y x = 0 ∨ sgnI y x = 1 := by
  unfold sgnI
  split
  · simp
  · split <;> simp
/-- a word that does not fall: its line is steeper, and the number is less exactly where the line says so -/
theorem left_step {m : Int} {us ad : List Int} (hM : mapP m us ad) (hR : regB m us = true) {X : Int} {j : Nat} (hn : ¬ FallsAt m us ad X (j + 1)) :
    sgnI (lnX m us ad X (j + 1)).1 (m ^ (j + 1)) = 1 ∧ sgn0 (((lnX m us ad X (j + 1)).1 - m ^ (j + 1)) * X + (lnX m us ad X (j + 1)).2.1) = sgnI (orbN m us ad (j + 1) X) X := by
  have hm := hM.1
  have hw : ∀ r ∈ wordI m us ad (j + 1) X, 0 ≤ r ∧ r < m := fun r hr => by
    obtain ⟨i, -, rfl⟩ := List.mem_map.1 hr
    exact rest_ok2 (by omega) _
  have hc := line_cop hM hR (wordI m us ad (j + 1) X) hw
  have hlo := lin_orb hM X (j + 1) (us := us) (ad := ad)
  have hd := lnX_div m us ad X (j + 1)
  have hp : 0 < m ^ (j + 1) := Int.pow_pos (by omega)
  have e1 : (lineI m us ad (wordI m us ad (j + 1) X)) = lnX m us ad X (j + 1) := rfl
  rw [e1] at hc hlo
  rw [hd] at hlo
  unfold FallsAt at hn
  have hne : (lnX m us ad X (j + 1)).1 ≠ m ^ (j + 1) := by
    intro h
    have h1 := hc.1
    rw [h] at h1
    have h2 : (m ^ (j + 1)).natAbs = m.natAbs * (m ^ j).natAbs := by rw [Int.pow_succ, Int.natAbs_mul, Nat.mul_comm]
    rw [h2, Nat.gcd_mul_right_left] at h1
    omega
  generalize (lnX m us ad X (j + 1)).1 = M at *
  generalize (lnX m us ad X (j + 1)).2.1 = A at *
  generalize orbN m us ad (j + 1) X = Y at *
  generalize m ^ (j + 1) = D at *
  refine ⟨by unfold sgnI; rw [if_neg (by omega), if_pos (by omega)], ?_⟩
  have e2 : (M - D) * X + A = D * (Y - X) := by rw [Int.sub_mul, Int.mul_sub, ← hlo]; omega
  rw [e2, sgn_scale hp, sgn_diff]
theorem left_nums {m : Int} {us ad : List Int} (hM : mapP m us ad) {X : Int} (hX : K.fits X) {j : Nat} (hj : j + 1 ≤ 16) :
    let l := lnX m us ad X j; let l' := lnX m us ad X (j + 1); let u := us.getD (orbN m us ad j X % m).toNat 0; let a := ad.getD (orbN m us ad j X % m).toNat 0
    (l.1.natAbs ≤ BIG ∧ l.2.1.natAbs ≤ BIG ∧ (m ^ j).natAbs ≤ BIG ∧ u.natAbs ≤ BIG ∧ a.natAbs ≤ BIG ∧ m.natAbs ≤ BIG ∧ X.natAbs ≤ BIG) ∧
    (u * l.1 = l'.1 ∧ u * l.2.1 + a * m ^ j = l'.2.1 ∧ m * m ^ j = m ^ (j + 1)) ∧
    ((u * l.2.1).natAbs ≤ BIG ∧ (a * m ^ j).natAbs ≤ BIG) ∧
    (l'.1.natAbs ≤ BIG ∧ l'.2.1.natAbs ≤ BIG ∧ (m ^ (j + 1)).natAbs ≤ BIG ∧ (l'.1 - m ^ (j + 1)).natAbs ≤ BIG ∧ ((l'.1 - m ^ (j + 1)) * X).natAbs ≤ BIG ∧ (orbN m us ad (j + 1) X).natAbs ≤ BIG) ∧
    u.natAbs < 1000000000000000000 ∧ a.natAbs < 1000000000000000000 ∧ m.natAbs < 1000000000000000000 := by
  intro l l' u a
  have hm := hM.1
  have hm2 := hM.2.1
  have hr := rest_ok2 (show 0 < m by omega) (orbN m us ad j X)
  obtain ⟨u1, u2, a1, a2, -, -⟩ := rule_of hM hr.1 hr.2
  have hB : LineB j l := lnX_B hM X j
  have hB' : LineB (j + 1) l' := lnX_B hM X (j + 1)
  have hd : l.2.2 = m ^ j := lnX_div m us ad X j
  have hd' : l'.2.2 = m ^ (j + 1) := lnX_div m us ad X (j + 1)
  have hf := hB.fits hM (by omega) hr.1 hr.2
  have hf' := hB'.fits hM (by omega) hr.1 hr.2
  have hn : l' = thenL m us ad l (orbN m us ad j X % m) := lnX_next m us ad X j
  rw [hd] at hf
  rw [hd'] at hf'
  have hsX : Sm 224 X := by have := fits_top hX; have := top_step 223 224 (by omega); have := TOP_pos 223; unfold Sm; omega
  have hT : TOP 1 = 1000000000 := by decide
  have hK : ∀ i, i ≤ 17 → 1000 ^ i ≤ TOP 6 := fun i hi => thousand_le i 6 (by omega)
  have hdm : (l'.1 - m ^ (j + 1)).natAbs ≤ TOP 7 := by
    have h1 := hB'.1
    have h2 := hB'.2.1
    rw [hd'] at h2
    have h3 := hK (j + 1) (by omega)
    have h4 : TOP 7 = TOP 1 * TOP 6 := TOP_add 1 6
    rw [hT] at h4
    generalize m ^ (j + 1) = D at *
    omega
  have hub : u.natAbs < 1000000000 := by show (us.getD _ 0).natAbs < _; omega
  have hab : a.natAbs < 1000000000 := by show (ad.getD _ 0).natAbs < _; omega
  have hmb : m.natAbs < 1000000000 := by omega
  refine ⟨⟨fits_big hf.1, fits_big hf.2.1, fits_big hf.2.2.1, small_big hub, small_big hab, small_big hmb, fits_big hX⟩, ⟨?_, ?_, ?_⟩, ⟨?_, fits_big hf.2.2.2.2.2.1⟩, ⟨fits_big hf'.1, fits_big hf'.2.1, fits_big hf'.2.2.1, ?_, ?_, exact_orb hM hX (i := j + 1) (by omega)⟩, by omega, by omega, by omega⟩
  · rw [hn]; rfl
  · rw [hn]; show _ = us.getD _ 0 * l.2.1 + ad.getD _ 0 * l.2.2; rw [hd]
  · rw [Int.pow_succ, Int.mul_comm]
  · rw [Int.mul_comm]; exact fits_big hf.2.2.2.2.1
  · exact le_big (a := 8) (Nat.lt_of_le_of_lt hdm (by have := TOP_add 1 7; rw [hT] at this; have h8 : TOP 8 = TOP (1 + 7) := rfl; have := TOP_pos 7; omega)) (by omega)
  · rw [Int.mul_comm]
    exact (hsX.mul hdm (show 224 + 7 < 240 by omega)).big2 (by omega)
end Go.Proofs.YtleccblkafcidaaGreatDoor
/- a drawn region whose last operations follow the others: its head by held loads, its tail in order -/
namespace Go.Proofs.YtleccblkafcidaaGreatDoor
open Go
/-- what follows the head of a region: its tail, in order -/
def TailQ (P : Program) (ops : Array Oper) (Q : Exit → Act → World → Prop) (tl : List Oper) : Exit → Act → World → Prop
  | .normal, a, w => wpList P ops Q tl a w
  | .outgrown, a, w => Q .outgrown a w
  | e, a, w => Q e a w
theorem oper_wpQ {P : Program} {o : Oper} {a : Act} {w : World} {K : Act → World → Prop} {Q Q' : Exit → Act → World → Prop} (hp : ∀ c a w, Q' (.panic c) a w → Q (.panic c) a w) (ho : LetsOut Q' → LetsOut Q) (h : o.wp P a w K Q') : o.wp P a w K Q := by
  unfold Oper.wp at *
  generalize (execOp a.eval o).run P w = r at *
  cases r with
  | ok n w' =>
    cases n <;> simp only [Oper.upon] at h ⊢ <;> first
      | exact h
      | exact Calls.mono h (fun e w'' he => by cases e <;> first | exact he | exact hp _ _ _ he | exact ho he)
  | halt x w' => cases x <;> simp only [Oper.upon] at h ⊢ <;> first | exact h | exact hp _ _ _ h
/-- the guards of the head lie in the head, and its edges lead back -/
def headB (ops : Array Oper) (n : Nat) : Bool :=
  (List.range n).all fun i => match ops[i]? with
    | some o => (match o.guard with | some (g, _) => decide (g < n) | none => true) && o.after.all fun e => !Region.binds .any e || decide (e.on < i)
    | none => false
theorem headB_spec {ops : Array Oper} {n i : Nat} (h : headB ops n = true) (hi : i < n) : ∃ o, ops[i]? = some o ∧ (∀ g b, o.guard = some (g, b) → g < n) ∧ ∀ e ∈ o.after, Region.binds .any e = true → e.on < i := by
  have h1 := List.all_eq_true.1 h i (List.mem_range.2 hi)
  cases ho : ops[i]? with
  | none => simp [ho] at h1
  | some o =>
    simp only [ho, Bool.and_eq_true] at h1
    refine ⟨o, rfl, fun g b hg => ?_, fun e he hb => ?_⟩
    · have := h1.1; simp only [hg, decide_eq_true_eq] at this; exact this
    · have h2 := Array.all_eq_true_iff_forall_mem.1 h1.2 e he
      simp only [hb, Bool.not_true, Bool.false_or, decide_eq_true_eq] at h2
      exact h2
/-- the region's list of what has come up, and its head's -/
structure BothL (n : Nat) (lh listed : Array Bool) : Prop where
  size : lh.size = n
  same : ∀ i, i < n → ∀ d, listed.getD i d = lh.getD i d
theorem BothL.set {n i : Nat} {lh listed : Array Bool} (h : BothL n lh listed) (hi : i < n) (hs : n ≤ listed.size) : BothL n (lh.setIfInBounds i true) (listed.setIfInBounds i true) :=
  ⟨by simp [h.size], fun j hj d => by
    by_cases hij : i = j
    · subst hij
      have h1 : i < lh.size := by rw [h.size]; exact hj
      have h2 : i < listed.size := by omega
      simp [h1, h2]
    · rw [getD_set_ne d hij, getD_set_ne d hij]; exact h.same j hj d⟩
theorem rtake_at {l : List Oper} {n i : Nat} (hi : i < n) : (l.take n).toArray[i]? = l.toArray[i]? := by simp [hi]
/-- a head's operation comes up next in the region exactly if it does so in its head -/
theorem ready_both {l : List Oper} {n i : Nat} {lh listed : Array Bool} (hB : headB l.toArray n = true) (h : BothL n lh listed) (hi : i < n) : i ∈ Region.ready .any l.toArray listed ↔ i ∈ Region.ready .any (l.take n).toArray lh := by
  rw [mem_ready, mem_ready, h.same i hi, rtake_at hi]
  obtain ⟨o, ho, -, hb⟩ := headB_spec hB hi
  refine and_congr Iff.rfl ⟨?_, ?_⟩
  · rintro ⟨o', ho', hall⟩
    obtain rfl : o = o' := Option.some.inj (ho.symm.trans ho')
    exact ⟨o, ho, fun e he hbi => by have h1 := hall e he hbi; rwa [h.same e.on (by have := hb e he hbi; omega)] at h1⟩
  · rintro ⟨o', ho', hall⟩
    obtain rfl : o = o' := Option.some.inj (ho.symm.trans ho')
    exact ⟨o, ho, fun e he hbi => by rw [h.same e.on (by have := hb e he hbi; omega)]; exact hall e he hbi⟩
theorem wpOp_both {P : Program} {l : List Oper} {n i : Nat} {Q : Exit → Act → World → Prop} {K K' : Act → World → Prop} {a : Act} {w : World} (hB : headB l.toArray n = true) (hi : i < n) (hK : ∀ a w, K a w → K' a w)
    (h : wpOp P (l.take n).toArray (TailQ P l.toArray Q (l.drop n)) i K a w) : wpOp P l.toArray Q i K' a w := by
  obtain ⟨o, ho, hg, -⟩ := headB_spec hB hi
  refine wpOp_mono hK ?_
  unfold wpOp at *
  rw [rtake_at hi] at h
  simp only [ho] at h ⊢
  have hw : Region.wanted o (yielded (l.take n).toArray a.tmps) = Region.wanted o (yielded l.toArray a.tmps) := by
    unfold Region.wanted
    cases hgu : o.guard with
    | none => rfl
    | some gb =>
      obtain ⟨g, b⟩ := gb
      have := hg g b hgu
      unfold yielded
      simp only [rtake_at this]
  rw [hw] at h
  have hp : ∀ c a w, TailQ P l.toArray Q (l.drop n) (.panic c) a w → Q (.panic c) a w := fun _ _ _ h => h
  have hl : LetsOut (TailQ P l.toArray Q (l.drop n)) → LetsOut Q := fun ⟨a, w, h⟩ => ⟨a, w, h⟩
  split
  · rename_i hc
    simp only [hc, if_true] at h
    exact h.imp (oper_wpQ hp hl) (fun h => ⟨h.1, hl h.2⟩)
  · rename_i hc
    simp only [hc] at h
    exact h
theorem least_un {lh : Array Bool} : ∀ {n i : Nat}, i < n → lh.getD i true = false → ∃ j, j < n ∧ lh.getD j true = false ∧ ∀ k, k < j → ¬ lh.getD k true = false := by
  intro n i
  induction i using Nat.strongRecOn with
  | _ i ih =>
    intro hi h
    by_cases hc : ∃ k, k < i ∧ lh.getD k true = false
    · obtain ⟨k, hk, hk2⟩ := hc
      exact ih k hk (by omega) hk2
    · exact ⟨i, hi, h, fun k hk h2 => hc ⟨k, hk, h2⟩⟩
theorem getD_flip {lh : Array Bool} {i : Nat} (hi : i < lh.size) (h : ¬ lh.getD i true = false) : lh.getD i false = true := by
  simp [hi] at h ⊢; exact h
theorem ready_some {ops : Array Oper} {n i : Nat} {lh : Array Bool} (hs : lh.size = n) (hB : headB ops n = true) (hi : i < n) (h : lh.getD i true = false) : ∃ j, j < n ∧ j ∈ Region.ready .any ops lh := by
  obtain ⟨j, hj, h1, h2⟩ := least_un hi h
  obtain ⟨o, ho, -, hb⟩ := headB_spec hB hj
  refine ⟨j, hj, mem_ready.2 ⟨h1, o, ho, fun e he hbi => ?_⟩⟩
  have := hb e he hbi
  exact getD_flip (by omega) (h2 _ this)
/-- how many have not come up -/
def unl (lh : Array Bool) : Nat := lh.toList.countP (fun b => !b)
theorem unl_set {lh : Array Bool} {i : Nat} (h : lh.getD i true = false) : unl lh = unl (lh.setIfInBounds i true) + 1 := by
  unfold unl
  have hi : i < lh.size := by
    rcases Nat.lt_or_ge i lh.size with h' | h'
    · exact h'
    · simp [Array.getElem?_eq_none h'] at h
  obtain ⟨l⟩ := lh
  simp only [List.setIfInBounds_toArray]
  have hi' : i < l.length := by simpa using hi
  have h' : l[i] = false := by simpa [hi'] using h
  clear h hi
  induction l generalizing i with
  | nil => simp at hi'
  | cons b l ih =>
    cases i with
    | zero => simp at h'; subst h'; simp [List.countP_cons]
    | succ i =>
      simp only [List.set_cons_succ]; rw [List.countP_cons, List.countP_cons]
      have := ih (i := i) (by simpa using hi') (by simpa using h')
      omega
theorem unl_zero {lh : Array Bool} (h : unl lh = 0) (i : Nat) : lh.getD i true = true := by
  unfold unl at h
  rw [List.countP_eq_zero] at h
  rcases Nat.lt_or_ge i lh.size with h' | h'
  · have := h lh[i] (by simp)
    simp [h']
    simpa using this
  · simp [Array.getElem?_eq_none h']
theorem wpAny_split {P : Program} {l : List Oper} {n : Nat} {Q : Exit → Act → World → Prop} {S : World → Prop} (hB : headB l.toArray n = true) (hs : Region.sinkB .any l.toArray n = true) (hc : Region.chainB .any l.toArray n = true) (hn : n < l.length)
    (hdone : ∀ listed : Array Bool, listed.size = l.length → (∀ i, i < n → listed.getD i false = true) → (∀ t, n ≤ t → t < l.length → listed.getD t true = false) → Region.seqB .any l.toArray (l.length - n) n listed = true) :
    ∀ (f : Nat) (lh listed : Array Bool) (a : Act) (w : World), unl lh = f → BothL n lh listed → HeadInv .any l.toArray n listed →
      wpAnyH P .any (l.take n).toArray (TailQ P l.toArray Q (l.drop n)) S f lh a w → wpAny P .any l.toArray Q (f + (l.length - n)) listed a w := by
  have hn' : n < l.toArray.size := by simpa using hn
  intro f
  induction f with
  | zero =>
    intro lh listed a w hf hb inv h
    rw [Nat.zero_add]
    have hls : listed.size = l.length := by have := inv.size; simpa using this
    have hall : ∀ i, i < n → listed.getD i false = true := fun i hi => by
      rw [hb.same i hi]
      exact getD_flip (by rw [hb.size]; exact hi) (by rw [unl_zero hf]; simp)
    have hseq := hdone listed hls hall (fun t h1 h2 => inv.tail t h1 (by simpa using h2))
    have := wpAny_of_seq (P := P) (md := .any) (ops := l.toArray) (Q' := Q) (l.drop n) n listed a w (fun j => by simp [List.getElem?_drop]) (by simpa using hseq) h.2
    simpa using this
  | succ f ih =>
    intro lh listed a w hf hb inv h
    obtain ⟨i, hi, hun⟩ : ∃ i, i < n ∧ lh.getD i true = false := by
      refine Classical.byContradiction fun hno => ?_
      have hz : unl lh = 0 := by
        unfold unl
        rw [List.countP_eq_zero]
        intro b hbm
        obtain ⟨i, hi, rfl⟩ := List.getElem_of_mem hbm
        have hi2 : i < lh.size := by simpa using hi
        have h1 : ¬ lh.getD i true = false := fun h2 => hno ⟨i, by rw [← hb.size]; exact hi2, h2⟩
        simp [hi2] at h1
        simpa using h1
      omega
    obtain ⟨j, hj, hjr⟩ := ready_some hb.size hB hi hun
    have hjr' : j ∈ Region.ready .any (l.take n).toArray lh := by
      rw [mem_ready] at hjr ⊢
      rwa [rtake_at hj]
    rw [show f + 1 + (l.length - n) = (f + (l.length - n)) + 1 by omega]
    refine ⟨fun h0 => ?_, fun k hk => ?_⟩
    · have := (ready_both hB hb hj).2 hjr'
      rw [h0] at this; cases this
    · have hkn : k < n := by
        rcases Nat.lt_or_ge k n with h1 | h1
        · exact h1
        · exact absurd hk (tail_waits hs hc hn' inv _ i rfl hi (by rw [hb.same i hi]; exact hun) k h1)
      have hkh := (ready_both hB hb hkn).1 hk
      have hku : lh.getD k true = false := (mem_ready.1 hkh).1
      refine wpOp_both hB hkn (fun a' w' hh => ih _ _ a' w' ?_ (hb.set hkn (by have := inv.size; simp at this; omega)) (inv.set hk hkn) hh.2) (h.2 k hkh)
      have := unl_set hku
      omega
/-- the closed facts on a region whose last operations follow the others one by one -/
def splitB (l : List Oper) (n : Nat) : Bool := headB l.toArray n && Region.sinkB .any l.toArray n && Region.chainB .any l.toArray n && decide (n < l.length) && Region.seqB .any l.toArray (l.length - n) n ((List.replicate n true ++ List.replicate (l.length - n) false).toArray)
theorem listed_eq {l : List Oper} {n : Nat} (hn : n < l.length) {listed : Array Bool} (h0 : listed.size = l.length) (h1 : ∀ i, i < n → listed.getD i false = true) (h2 : ∀ t, n ≤ t → t < l.length → listed.getD t true = false) : listed = (List.replicate n true ++ List.replicate (l.length - n) false).toArray := by
  refine Array.ext (by simp; omega) fun i hi hi2 => ?_
  rcases Nat.lt_or_ge i n with h | h
  · have := h1 i h
    simp [hi] at this
    simp [h, this]
  · have := h2 i h (by omega)
    simp [hi] at this
    rw [this]
    symm
    simp only [List.getElem_toArray]
    rw [List.getElem_append_right (by simpa using h)]
    simp
theorem unl_rep (n : Nat) : unl (Array.replicate n false) = n := by simp [unl, List.countP_replicate]
/-- **A drawn region whose last operations follow all others, one by one: its head in whatever order, S behind each of its operations; then the tail in order.** -/
theorem wp_region_split {P : Program} {id : Nat} {Q : Exit → Act → World → Prop} {a : Act} {w : World} {l : List Oper} (n : Nat) (S : World → Prop) (hm : P.follows .mixedOrders = true) (hB : splitB l n = true) (hS : S w.drew)
    (h : S w.drew → wpAnyH P .any (l.take n).toArray (TailQ P l.toArray Q (l.drop n)) S n (Array.replicate n false) a w.drew) : (Code.region id l.toArray true).wp P Q a w := by
  simp only [splitB, Bool.and_eq_true, decide_eq_true_eq] at hB
  obtain ⟨⟨⟨⟨hb, hs⟩, hc⟩, hn⟩, hq⟩ := hB
  refine wp_region_any hm ?_
  have h1 := wpAny_split (Q := Q) hb hs hc hn (fun listed h0 h1 h2 => by rw [listed_eq hn h0 h1 h2]; exact hq) n (Array.replicate n false) (Array.replicate l.toArray.size false) a w.drew (unl_rep n)
    ⟨by simp, fun i hi d => by simp [hi, Nat.lt_trans hi hn]⟩
    ⟨by simp, fun j oj _ hl => (by rw [getD_replicate_false] at hl; cases hl), fun t _ ht => getD_in (by simpa using ht) (getD_replicate_false _ _)⟩ (h hS)
  rw [show n + (l.length - n) = l.toArray.size by simp; omega] at h1
  exact h1
/-- take number i of the list first -/
theorem takeH {P : Program} {md : Region.Mode} {Q : Exit → Act → World → Prop} {S : World → Prop} {l : List Oper} {i : Nat} {oi : Oper} {v : Value} {fuel : Nat} {listed : Array Bool} {a : Act} {w : World} (hi : l[i]? = some oi)
    (hs : (Region.noSelect l.toArray && Region.free md l.toArray listed i && (Region.ready md l.toArray listed).contains i) = true)
    (hQ : ∀ c a w, Q (.panic c) (a.put oi.dst v) w → Q (.panic c) a w) (hy : Region.wanted oi (yielded l.toArray a.tmps) = true ∧ ∀ w, S w → (execOp a.eval oi).run P w = .ok (.value v) w) (hS : S w)
    (h : wpAnyH P md l.toArray Q S fuel (listed.setIfInBounds i true) (a.put oi.dst v) w) : wpAnyH P md l.toArray Q S (fuel + 1) listed a w := by
  simp only [Bool.and_eq_true] at hs
  exact wpAnyH_take (by simpa using hi) hs.1.1 hs.1.2 hs.2 hQ (.inl hy) hS h
/-- number i of the list is the only one that may come up -/
theorem stepH {P : Program} {md : Region.Mode} {Q : Exit → Act → World → Prop} {S : World → Prop} {l : List Oper} {i : Nat} {o : Oper} {fuel : Nat} {listed : Array Bool} {a : Act} {w : World} (ho : l[i]? = some o)
    (hr : Region.ready md l.toArray listed = [i])
    (h : ∀ K' : Act → World → Prop, Shut (∀ a w, S w → (S w → wpAnyH P md l.toArray Q S fuel (listed.setIfInBounds i true) a w) → K' a w) → if Region.wanted o (yielded l.toArray a.tmps) = true then Oper.wp P o a w K' Q else K' (a.put o.dst undef) w) : wpAnyH P md l.toArray Q S (fuel + 1) listed a w :=
  wpAnyH_ready hr (by simp) (AllReadyH.cons (by simpa using ho) h AllReadyH.nil)
end Go.Proofs.YtleccblkafcidaaGreatDoor
