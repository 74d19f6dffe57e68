/- Plain mathematics of decimal texts and of limbs to the base 10^9: no Go in sight. -/
namespace Go.Proofs.YtdbaemadphhhcaaDoor.K

/-! ### values of digits -/
def dig (c : UInt8) : Bool := decide (48 ≤ c.toNat ∧ c.toNat ≤ 57)
/-- the value of digits, the lowest first -/
def dvl : List UInt8 → Nat
  | [] => 0
  | c :: r => (c.toNat - 48) + 10 * dvl r
/-- the value of digits, the highest first -/
def dv (l : List UInt8) : Nat := dvl l.reverse

theorem dv_nil : dv [] = 0 := rfl
theorem dv_snoc (l : List UInt8) (c : UInt8) : dv (l ++ [c]) = (c.toNat - 48) + 10 * dv l := by
  simp [dv, dvl]
theorem dvl_append (a b : List UInt8) : dvl (a ++ b) = dvl a + 10 ^ a.length * dvl b := by
  induction a with
  | nil => simp [dvl]
  | cons c r ih =>
    simp only [List.cons_append, dvl, ih, List.length_cons, Nat.pow_succ]
    rw [Nat.mul_add, Nat.mul_right_comm, Nat.mul_comm _ 10, ← Nat.mul_assoc, Nat.mul_comm 10 (10 ^ r.length)]
    omega
theorem dvl_lt (l : List UInt8) (h : l.all dig = true) : dvl l < 10 ^ l.length := by
  induction l with
  | nil => simp [dvl]
  | cons c r ih =>
    simp only [List.all_cons, Bool.and_eq_true, dig, decide_eq_true_eq] at h
    have := ih h.2
    simp only [dvl, List.length_cons, Nat.pow_succ]
    omega
theorem dv_append (a b : List UInt8) : dv (a ++ b) = dv b + 10 ^ b.length * dv a := by
  simp [dv, dvl_append]
theorem dv_lt (l : List UInt8) (h : l.all dig = true) : dv l < 10 ^ l.length := by
  have := dvl_lt l.reverse (by simpa using h)
  simpa [dv] using this

/-! ### the text of a number -/
def chr (n : Nat) : UInt8 := UInt8.ofNat (48 + n)
theorem head_app {a b : List UInt8} (h : a ≠ []) : (a ++ b).head? = a.head? := by cases a <;> simp_all
theorem len_pos {α : Type} {a : List α} (h : a ≠ []) : 0 < a.length := by cases a <;> simp_all
def dgs (n : Nat) : List UInt8 :=
  if n < 10 then [chr n] else dgs (n / 10) ++ [chr (n % 10)]
termination_by n
decreasing_by omega

theorem dgs_small {n : Nat} (h : n < 10) : dgs n = [chr n] := by rw [dgs, if_pos h]
theorem dgs_big {n : Nat} (h : ¬ n < 10) : dgs n = dgs (n / 10) ++ [chr (n % 10)] := by rw [dgs, if_neg h]
theorem chr_toNat {n : Nat} (h : n < 10) : (chr n).toNat = 48 + n := by
  unfold chr; simp only [UInt8.toNat_ofNat']; omega
theorem dig_chr {n : Nat} (h : n < 10) : dig (chr n) = true := by
  unfold dig; rw [chr_toNat h]; simp; omega

theorem dgs_ne (n : Nat) : dgs n ≠ [] := by
  by_cases h : n < 10
  · rw [dgs_small h]; simp
  · rw [dgs_big h]; simp
theorem dgs_dig (n : Nat) : (dgs n).all dig = true := by
  induction n using Nat.strongRecOn with
  | ind n ih =>
    by_cases h : n < 10
    · rw [dgs_small h]; simp [dig_chr h]
    · rw [dgs_big h]
      have := ih (n / 10) (by omega)
      simp only [List.all_append, this, Bool.true_and, List.all_cons, List.all_nil, Bool.and_true]
      exact dig_chr (by omega)
theorem dv_dgs (n : Nat) : dv (dgs n) = n := by
  induction n using Nat.strongRecOn with
  | ind n ih =>
    by_cases h : n < 10
    · rw [dgs_small h]; simp [dv, dvl, chr_toNat h]
    · rw [dgs_big h, dv_snoc, ih (n / 10) (by omega), chr_toNat (by omega)]
      omega
theorem dgs_head (n : Nat) (h : 0 < n) : (dgs n).head? ≠ some 48 := by
  induction n using Nat.strongRecOn with
  | ind n ih =>
    by_cases h' : n < 10
    · rw [dgs_small h']
      simp only [List.head?_cons, ne_eq, Option.some.injEq]
      intro e
      have := congrArg UInt8.toNat e
      rw [chr_toNat h'] at this
      simp at this; omega
    · rw [dgs_big h', head_app (dgs_ne _)]
      exact ih (n / 10) (by omega) (by omega)
def pw (k : Nat) : Nat := 10 ^ k
theorem pw_pos (k : Nat) : 0 < pw k := Nat.pow_pos (by omega)
theorem pw_mono {a b : Nat} (h : a ≤ b) : pw a ≤ pw b := Nat.pow_le_pow_right (by omega) h
theorem dgs_len (n k : Nat) (hk : 1 ≤ k) : (dgs n).length ≤ k ↔ n < 10 ^ k := by
  induction n using Nat.strongRecOn generalizing k with
  | ind n ih =>
    by_cases h : n < 10
    · rw [dgs_small h]
      have : 10 ^ 1 ≤ 10 ^ k := Nat.pow_le_pow_right (by omega) hk
      simp; omega
    · rw [dgs_big h, List.length_append, List.length_singleton]
      obtain ⟨j, rfl⟩ : ∃ j, k = j + 1 := ⟨k - 1, by omega⟩
      by_cases hj : j = 0
      · subst hj
        have : 0 < (dgs (n / 10)).length := len_pos (dgs_ne _)
        rw [show (10 : Nat) ^ (0 + 1) = 10 from rfl]; omega
      · have := ih (n / 10) (by omega) j (by omega)
        rw [Nat.pow_succ]
        omega

theorem dgs_lenp (n k : Nat) (hk : 1 ≤ k) : (dgs n).length ≤ k ↔ n < pw k := dgs_len n k hk

/-- digits without a zero in front are the text of their value -/
theorem dgs_dv (l : List UInt8) (hne : l ≠ []) (hd : l.all dig = true) (hz : l.head? = some 48 → l = [48]) : dgs (dv l) = l := by
  obtain ⟨k, hk⟩ : ∃ k, l.length = k := ⟨_, rfl⟩
  induction k using Nat.strongRecOn generalizing l with
  | ind k ih =>
    rcases List.eq_nil_or_concat l with rfl | ⟨a, c, rfl⟩
    · exact absurd rfl hne
    · rw [List.concat_eq_append] at *
      simp only [List.all_append, List.all_cons, List.all_nil, Bool.and_true, Bool.and_eq_true, dig, decide_eq_true_eq] at hd
      obtain ⟨hda, hc⟩ := hd
      have hcn : c = chr (c.toNat - 48) := by
        unfold chr; rw [show 48 + (c.toNat - 48) = c.toNat by omega]; simp
      by_cases ha : a = []
      · subst ha
        rw [dv_snoc, dv_nil, dgs_small (by omega)]
        simp only [List.nil_append, List.cons.injEq, and_true]
        rw [show c.toNat - 48 + 10 * 0 = c.toNat - 48 by omega, ← hcn]
      · have hza : a.head? ≠ some 48 := by
          intro e
          have := hz (by rw [head_app ha]; exact e)
          cases a with
          | nil => exact ha rfl
          | cons x r => simp at this
        have hpos : 0 < dv a := by
          rcases Nat.eq_zero_or_pos (dv a) with h0 | h0
          · exfalso
            have := ih a.length (by simp at hk; omega) a ha (by simpa [dig] using hda) (fun e => absurd e hza) rfl
            rw [h0, dgs_small (by omega)] at this
            apply hza
            rw [← this]; rfl
          · exact h0
        have := ih a.length (by simp at hk; omega) a ha (by simpa [dig] using hda) (fun e => absurd e hza) rfl
        rw [dv_snoc, dgs_big (by omega), show (c.toNat - 48 + 10 * dv a) / 10 = dv a by omega, show (c.toNat - 48 + 10 * dv a) % 10 = c.toNat - 48 by omega, this, ← hcn]

/-! ### integers -/
def txt (n : Int) : List UInt8 := if n < 0 then 45 :: dgs n.natAbs else dgs n.natAbs
def body (l : List UInt8) : List UInt8 := if l.head? = some 45 then l.tail else l
def numL (l : List UInt8) : Int := if l.head? = some 45 then -(dv l.tail : Int) else (dv l : Int)
def validL (l : List UInt8) : Bool :=
  !(body l).isEmpty && decide ((body l).length ≤ 2000) && (if (body l).head? = some 48 then l == [48] else (body l).all dig)
/-- the numbers whose text is valid -/
def LIM : Nat := pw 2000
theorem LIM_pos : 0 < LIM := pw_pos 2000
def fits (n : Int) : Prop := n.natAbs < LIM
instance (n : Int) : Decidable (fits n) := inferInstanceAs (Decidable (_ < _))

theorem dgs_no_minus (n : Nat) : (dgs n).head? ≠ some 45 := by
  intro e
  have h := dgs_dig n
  cases hd : dgs n with
  | nil => exact dgs_ne n hd
  | cons c r =>
    rw [hd] at e h
    simp only [List.head?_cons, Option.some.injEq] at e
    subst e
    simp [dig] at h

theorem body_txt (n : Int) : body (txt n) = dgs n.natAbs := by
  unfold txt body
  split
  · simp
  · rw [if_neg (dgs_no_minus _)]
theorem numL_txt (n : Int) : numL (txt n) = n := by
  unfold txt numL
  split
  · simp [dv_dgs]; omega
  · rw [if_neg (dgs_no_minus _), dv_dgs]; omega
theorem txt_inj {m n : Int} (h : txt m = txt n) : m = n := by rw [← numL_txt m, h, numL_txt]
theorem head_txt (n : Int) : (txt n).head? = some 45 ↔ n < 0 := by
  unfold txt
  split
  · simp [*]
  · simp [dgs_no_minus]; omega
theorem txt_zero : txt 0 = [48] := by
  simp [txt, dgs_small]; rfl
theorem dgs_zero : dgs 0 = [48] := by simp [dgs_small]; rfl
theorem fits_len (n : Int) : fits n ↔ (dgs n.natAbs).length ≤ 2000 := (dgs_lenp n.natAbs 2000 (by omega)).symm
theorem txt_ne (n : Int) : txt n ≠ [] := by
  unfold txt; split
  · simp
  · exact dgs_ne _
theorem txt_len (n : Int) (h : fits n) : (txt n).length ≤ 2001 := by
  have := (fits_len n).1 h
  unfold txt; split <;> simp <;> omega

theorem valid_txt (n : Int) (h : fits n) : validL (txt n) = true := by
  unfold validL
  rw [body_txt]
  have h1 := (fits_len n).1 h
  have h2 := dgs_ne n.natAbs
  simp only [List.isEmpty_eq_false_iff.2 h2, Bool.not_false, Bool.true_and, h1, decide_true]
  by_cases h0 : n = 0
  · subst h0; simp [dgs_zero, txt_zero]
  · rw [if_neg (dgs_head _ (by omega))]
    exact dgs_dig _
theorem txt_numL (l : List UInt8) (h : validL l = true) : txt (numL l) = l ∧ fits (numL l) := by
  unfold validL at h
  simp only [Bool.and_eq_true, Bool.not_eq_true', List.isEmpty_eq_false_iff, decide_eq_true_eq] at h
  obtain ⟨⟨hne, hlen⟩, hz⟩ := h
  by_cases h48 : (body l).head? = some 48
  · rw [if_pos h48] at hz
    simp only [beq_iff_eq] at hz
    subst hz
    have : numL [48] = 0 := by decide
    rw [this]
    exact ⟨txt_zero, LIM_pos⟩
  · rw [if_neg h48] at hz
    have hb := dgs_dv (body l) hne hz (fun e => absurd e h48)
    have hl := dv_lt _ hz
    have hfit : dv (body l) < LIM := by
      have hp : pw (body l).length ≤ pw 2000 := pw_mono hlen
      exact Nat.lt_of_lt_of_le hl hp
    by_cases h45 : l.head? = some 45
    · have e1 : body l = l.tail := by unfold body; rw [if_pos h45]
      have e2 : numL l = -(dv l.tail : Int) := by unfold numL; rw [if_pos h45]
      rw [e1] at hb hne hfit
      have hpos : 0 < dv l.tail := by
        rcases Nat.eq_zero_or_pos (dv l.tail) with h0 | h0
        · rw [h0, dgs_zero] at hb
          rw [e1, ← hb] at h48
          simp at h48
        · exact h0
      rw [e2]
      refine ⟨?_, by unfold fits; omega⟩
      unfold txt
      rw [if_pos (by omega), show (-(dv l.tail : Int)).natAbs = dv l.tail by omega, hb]
      cases l with
      | nil => simp at h45
      | cons x r => simp at h45; subst h45; rfl
    · have e1 : body l = l := by unfold body; rw [if_neg h45]
      have e2 : numL l = (dv l : Int) := by unfold numL; rw [if_neg h45]
      rw [e1] at hb hfit
      rw [e2]
      refine ⟨?_, by unfold fits; omega⟩
      unfold txt
      rw [if_neg (by omega), Int.natAbs_natCast, hb]
theorem valid_iff (l : List UInt8) : validL l = true ↔ ∃ n, fits n ∧ l = txt n :=
  ⟨fun h => ⟨numL l, (txt_numL l h).2, (txt_numL l h).1.symm⟩, fun ⟨n, hn, e⟩ => by rw [e]; exact valid_txt n hn⟩
theorem txt_of_lit (l : List UInt8) (n : Int) (h : validL l = true) (e : numL l = n) : txt n = l := by rw [← e]; exact (txt_numL l h).1

/-! ### limbs -/
/-- the value of limbs, the lowest first -/
def lv : List Nat → Nat
  | [] => 0
  | x :: r => x + 1000000000 * lv r
/-- limbs: below the base, the highest one not 0 -/
def Lim (l : List Nat) : Prop := (∀ x ∈ l, x < 1000000000) ∧ l.getLast? ≠ some 0
theorem lv_append (a b : List Nat) : lv (a ++ b) = lv a + 1000000000 ^ a.length * lv b := by
  induction a with
  | nil => simp [lv]
  | cons c r ih =>
    simp only [List.cons_append, lv, ih, List.length_cons, Nat.pow_succ]
    rw [Nat.mul_add, Nat.mul_right_comm, Nat.mul_comm _ 1000000000, ← Nat.mul_assoc, Nat.mul_comm 1000000000 (1000000000 ^ r.length)]
    omega
theorem lv_lt (l : List Nat) (h : ∀ x ∈ l, x < 1000000000) : lv l < 1000000000 ^ l.length := by
  induction l with
  | nil => simp [lv]
  | cons c r ih =>
    have h1 := ih (fun x hx => h x (List.mem_cons_of_mem _ hx))
    have h2 := h c (List.mem_cons_self ..)
    simp only [lv, List.length_cons, Nat.pow_succ]
    omega
theorem lv_zeros (k : Nat) : lv (List.replicate k 0) = 0 := by
  induction k with
  | zero => rfl
  | succ k ih => simp [List.replicate_succ, lv, ih]
theorem Lim.tail {x : Nat} {r : List Nat} (h : Lim (x :: r)) : Lim r := by
  refine ⟨fun y hy => h.1 y (List.mem_cons_of_mem _ hy), fun e => h.2 ?_⟩
  cases r with
  | nil => simp at e
  | cons y r => simpa using e
theorem Lim.nil : Lim [] := ⟨by simp, by simp⟩
theorem Lim.pos {l : List Nat} (h : Lim l) (hne : l ≠ []) : 0 < lv l := by
  induction l with
  | nil => exact absurd rfl hne
  | cons x r ih =>
    simp only [lv]
    by_cases hr : r = []
    · subst hr
      have := h.2
      simp at this
      omega
    · have := ih h.tail hr; omega
theorem Lim.zero_iff {l : List Nat} (h : Lim l) : lv l = 0 ↔ l = [] :=
  ⟨fun e => Classical.byContradiction fun hne => by have := h.pos hne; omega, fun e => by subst e; rfl⟩
theorem Lim.inj {a b : List Nat} (ha : Lim a) (hb : Lim b) (e : lv a = lv b) : a = b := by
  induction a generalizing b with
  | nil => exact ((hb.zero_iff).1 (by rw [← e]; rfl)).symm
  | cons x r ih =>
    cases b with
    | nil => exact (ha.zero_iff).1 e
    | cons y s =>
      simp only [lv] at e
      have hx := ha.1 x (List.mem_cons_self ..)
      have hy := hb.1 y (List.mem_cons_self ..)
      have : x = y := by omega
      have : lv r = lv s := by omega
      rw [ih ha.tail hb.tail this]
      congr
/-- the length of limbs tells a bound -/
theorem Lim.ge {l : List Nat} (h : Lim l) (hne : l ≠ []) : 1000000000 ^ (l.length - 1) ≤ lv l := by
  induction l with
  | nil => exact absurd rfl hne
  | cons x r ih =>
    by_cases hr : r = []
    · subst hr
      have := h.pos (by simp)
      simp; omega
    · have h1 := ih h.tail hr
      have hl : 0 < r.length := len_pos hr
      simp only [lv, List.length_cons, Nat.add_sub_cancel]
      obtain ⟨k, hk⟩ : ∃ k, r.length = k + 1 := ⟨r.length - 1, by omega⟩
      rw [hk] at h1 ⊢
      simp only [Nat.add_sub_cancel] at h1
      rw [Nat.pow_succ]; omega
end Go.Proofs.YtdbaemadphhhcaaDoor.K
