/- Joined texts: Words for memory: a slice that reads as a list, a block known whole; the world behind a call.; Plain mathematics of decimal texts and of limbs to the base 10^9: no Go in sight.; Plain mathematics of limb lists: what the loops compute.; make of a row of numbers; comparing: cmp.Compare, natural.compare; (natural).trimmed; (natural).plus; slices.Clone of a natural; (natural).minus; (natural).divideShort, (natural).scaled. -/
import Derived.WalkKit
import Derived.WalkSpells
import Derived.WalkLawsBesides
import Derived.Deep.QuietTactic
import Derived.BigQuiet
import Derived.Deep.Draws
import Derived.Deep.OwnRows
import Derived.Laws.OwnMore
import Derived.Laws.Rows
import Derived.Test.YtbmmilhinbfahaaDoorProg
set_option linter.unusedSimpArgs false
set_option linter.unusedVariables false
/- Words for memory: a slice that reads as a list, a block known whole; the world behind a call. -/
namespace Go.Proofs.YtbmmilhinbfahaaDoor
open Go.RowKit

theorem hid {p : Prop} (h : p) : Hid p := h
/-- what was there stands; new blocks, draws -/
abbrev Ext (w w' : World) : Prop := Below w.heap.size w w'
theorem Ext.rfl' (w : World) : Ext w w := Below.refl _ _
theorem Ext.step {a b c : World} (h : Ext a b) (k : Ext b c) : Ext a c := h.trans (k.mono h.size)
theorem Ext.drewN {a b : World} (h : Ext a b) (n : Nat) : Ext a (b.drewN n) := ⟨h.os, h.tape, h.output, h.size, h.block⟩
theorem Ext.of_drewN (w : World) (n : Nat) : Ext w (w.drewN n) := (Ext.rfl' w).drewN n
theorem Ext.alloc' {a b : World} (h : Ext a b) (o : Obj) : Ext a (b.alloc o) := Below.alloc h h.size o
theorem Ext.set' {a b : World} (h : Ext a b) {p : Addr} (hp : a.heap.size ≤ p.block) (u : Value) : Ext a (b.setCell p u) := Below.setCell h hp u

/-- the slice at A reads as the values vs -/
def Rd (w : World) (A : Option Addr) (vs : List Value) : Prop :=
  vs = [] ∨ ∃ b o, A = some ⟨b, o, none⟩ ∧ b < w.heap.size ∧ ∀ j u, vs[j]? = some u → w.cell? ⟨b, o + j, none⟩ = some u
theorem Rd.nil (w : World) (A : Option Addr) : Rd w A [] := .inl rfl
theorem Rd.ext {w w' : World} {A : Option Addr} {vs : List Value} (h : Rd w A vs) (e : Ext w w') : Rd w' A vs := by
  rcases h with h | ⟨b, o, ha, hb, hc⟩
  · exact .inl h
  · exact .inr ⟨b, o, ha, Nat.lt_of_lt_of_le hb e.size, fun j u hu => (e.cell (p := ⟨b, o + j, none⟩) hb).trans (hc j u hu)⟩
theorem Rd.drewN {w : World} {A : Option Addr} {vs : List Value} (h : Rd w A vs) (n : Nat) : Rd (w.drewN n) A vs := h.ext (Ext.of_drewN w n)
theorem Rd.take {w : World} {A : Option Addr} {vs : List Value} (h : Rd w A vs) (n : Nat) : Rd w A (vs.take n) := by
  rcases h with h | ⟨b, o, ha, hb, hc⟩
  · exact .inl (by rw [h]; simp)
  · refine .inr ⟨b, o, ha, hb, fun j u hu => hc j u ?_⟩
    rw [List.getElem?_take] at hu
    split at hu
    · exact hu
    · cases hu

/-- the world is as it was, but for draws -/
def Drew (w w' : World) : Prop := ∃ n, w' = w.drewN n
theorem Drew.rfl' (w : World) : Drew w w := ⟨0, rfl⟩
theorem Drew.drewN {a b : World} (h : Drew a b) (n : Nat) : Drew a (b.drewN n) := by
  obtain ⟨k, rfl⟩ := h
  exact ⟨k + n, by rw [World.drewN_drewN]⟩
theorem Drew.step {a b c : World} (h : Drew a b) (k : Drew b c) : Drew a c := by
  obtain ⟨n, rfl⟩ := k
  exact h.drewN n
theorem Drew.ext {w w' : World} (h : Drew w w') : Ext w w' := by
  obtain ⟨n, rfl⟩ := h
  exact Ext.of_drewN w n
theorem Rd.drew {w w' : World} {A : Option Addr} {vs : List Value} (h : Rd w A vs) (e : Drew w w') : Rd w' A vs := h.ext e.ext

/-- block g holds just the values vs -/
def Row (w : World) (g : Nat) (t : TypeId) (vs : List Value) : Prop := w.heap[g]? = some (.cells vs.toArray t (0, 0))
theorem Row.lt {w : World} {g : Nat} {t : TypeId} {vs : List Value} (h : Row w g t vs) : g < w.heap.size := by
  rcases Nat.lt_or_ge g w.heap.size with hl | hl
  · exact hl
  · unfold Row at h; rw [Array.getElem?_eq_none hl] at h; cases h
theorem Row.cell {w : World} {g : Nat} {t : TypeId} {vs : List Value} (h : Row w g t vs) (i : Nat) : w.cell? ⟨g, i, none⟩ = vs[i]? := by
  unfold Row at h; simp [World.cell?, h]
theorem Row.free {w : World} {g : Nat} {t : TypeId} {vs : List Value} (h : Row w g t vs) (i : Nat) : w.frozen? ⟨g, i, none⟩ = false := by
  unfold Row at h; simp [World.frozen?, h]
theorem Row.new (w : World) (t : TypeId) (vs : List Value) : Row (w.alloc (.cells vs.toArray t)) w.heap.size t vs := by
  show (w.heap.push _)[w.heap.size]? = _; simp
theorem Row.alloc {w : World} {g : Nat} {t : TypeId} {vs : List Value} (h : Row w g t vs) (o : Obj) : Row (w.alloc o) g t vs := (Below.heap_alloc w o g h.lt).trans h
theorem Row.drewN {w : World} {g : Nat} {t : TypeId} {vs : List Value} (h : Row w g t vs) (n : Nat) : Row (w.drewN n) g t vs := h
theorem Row.set {w : World} {g : Nat} {t : TypeId} {vs : List Value} (h : Row w g t vs) (i : Nat) (u : Value) : Row (w.setCell ⟨g, i, none⟩ u) g t (vs.set i u) := by
  unfold Row at h ⊢
  simp [World.setCell, Array.getElem?_modify, h]
theorem Row.far {w : World} {g : Nat} {t : TypeId} {vs : List Value} (h : Row w g t vs) {p : Addr} (hp : g ≠ p.block) (u : Value) : Row (w.setCell p u) g t vs := (Below.heap_setCell w p u g hp).trans h
theorem Row.ext {w w' : World} {g : Nat} {t : TypeId} {vs : List Value} (h : Row w g t vs) (e : Ext w w') : Row w' g t vs := (e.block g h.lt).trans h
theorem Row.below {B : Nat} {w w' : World} {g : Nat} {t : TypeId} {vs : List Value} (h : Row w g t vs) (e : Below B w w') (hg : g < B) : Row w' g t vs := (e.block g hg).trans h
theorem Row.rd {w : World} {g : Nat} {t : TypeId} {vs : List Value} (h : Row w g t vs) (k : Nat) : Rd w (some ⟨g, k, none⟩) (vs.drop k) := by
  refine .inr ⟨g, k, rfl, h.lt, fun j u hu => ?_⟩
  rw [h.cell, ← hu, List.getElem?_drop]
theorem Row.rd0 {w : World} {g : Nat} {t : TypeId} {vs : List Value} (h : Row w g t vs) : Rd w (some ⟨g, 0, none⟩) vs := by simpa using h.rd 0
theorem made_replicate (z : Value) (n : Nat) : madeCells #[z] n = (List.replicate n z).toArray := by
  apply Array.ext'
  simp only [madeCells, Array.toList_map, Array.toList_range]
  apply List.ext_getElem
  · simp
  · intro i h1 h2
    simp [Nat.mod_one]
theorem Row.made (w : World) (t : TypeId) (z : Value) (n : Nat) : Row (w.alloc (.cells (madeCells #[z] n) t)) w.heap.size t (List.replicate n z) := by
  rw [made_replicate]; exact Row.new w t _

/-- a row that the call owns, by append's laws -/
theorem Rd.of_own {w : World} {base e n c : Nat} {A : Option Addr} {vs : List Value} (h : w.ownsRow base e 1 (.slice A n c) n vs) : Rd w A vs := by
  rcases h.2 with ⟨hv, hn⟩ | ⟨g, cap, cur, hv, _, hh, _, _, hs, ht⟩
  · refine .inl (List.eq_nil_of_length_eq_zero ?_)
    rw [h.1, hn]
  · injection hv with hA
    refine .inr ⟨g, 0, hA, ?_, fun j u hu => ?_⟩
    · rcases Nat.lt_or_ge g w.heap.size with hl | hl
      · exact hl
      · rw [Array.getElem?_eq_none hl] at hh; cases hh
    · rw [← ht, List.getElem?_take] at hu
      split at hu
      · simpa [World.cell?, hh] using hu
      · cases hu

/-- numbers as values -/
abbrev U64s (l : List Nat) : List Value := l.map fun (x : Nat) => Value.int .u64 (x : Int)
abbrev I64s (l : List Nat) : List Value := l.map fun (x : Nat) => Value.int .i64 (x : Int)

theorem Rd.at_ {w : World} {A : Option Addr} {l : List Nat} {f : Nat → Value} (h : Rd w A (l.map f)) {k : Nat} (hk : k < l.length) :
    ∃ b o x, A = some ⟨b, o, none⟩ ∧ l[k]? = some x ∧ b < w.heap.size ∧ w.cell? ⟨b, o + k, none⟩ = some (f x) := by
  rcases h with h | ⟨b, o, ha, hb, hc⟩
  · rw [List.map_eq_nil_iff] at h; subst h; cases hk
  · exact ⟨b, o, l[k], ha, List.getElem?_eq_getElem hk, hb, hc k _ (by simp [List.getElem?_eq_getElem hk])⟩
end Go.Proofs.YtbmmilhinbfahaaDoor
/- Plain mathematics of decimal texts and of limbs to the base 10^9: no Go in sight. -/
namespace Go.Proofs.YtbmmilhinbfahaaDoor.K

/-! ### values of digits -/
def dig (c : UInt8) : Bool := decide (48 ≤ c.toNat ∧ c.toNat ≤ 57)
/-- the value of digits, the lowest first -/
def dvl : List UInt8 → Nat
  | [] => 0
  | c :: r => (c.toNat - 48) + 10 * dvl r
/-- the value of digits, the highest first -/
def dv (l : List UInt8) : Nat := dvl l.reverse

theorem dv_nil : dv [] = 0 := rfl
theorem dv_snoc (l : List UInt8) (c : UInt8) : dv (l ++ [c]) = (c.toNat - 48) + 10 * dv l := by
  simp [dv, dvl]
theorem dvl_append (a b : List UInt8) : dvl (a ++ b) = dvl a + 10 ^ a.length * dvl b := by
  induction a with
  | nil => simp [dvl]
  | cons c r ih =>
    simp only [List.cons_append, dvl, ih, List.length_cons, Nat.pow_succ]
    rw [Nat.mul_add, Nat.mul_right_comm, Nat.mul_comm _ 10, ← Nat.mul_assoc, Nat.mul_comm 10 (10 ^ r.length)]
    omega
theorem dvl_lt (l : List UInt8) (h : l.all dig = true) : dvl l < 10 ^ l.length := by
  induction l with
  | nil => simp [dvl]
  | cons c r ih =>
    simp only [List.all_cons, Bool.and_eq_true, dig, decide_eq_true_eq] at h
    have := ih h.2
    simp only [dvl, List.length_cons, Nat.pow_succ]
    omega
theorem dv_append (a b : List UInt8) : dv (a ++ b) = dv b + 10 ^ b.length * dv a := by
  simp [dv, dvl_append]
theorem dv_lt (l : List UInt8) (h : l.all dig = true) : dv l < 10 ^ l.length := by
  have := dvl_lt l.reverse (by simpa using h)
  simpa [dv] using this

/-! ### the text of a number -/
def chr (n : Nat) : UInt8 := UInt8.ofNat (48 + n)
theorem head_app {a b : List UInt8} (h : a ≠ []) : (a ++ b).head? = a.head? := by cases a <;> simp_all
theorem len_pos {α : Type} {a : List α} (h : a ≠ []) : 0 < a.length := by cases a <;> simp_all
def dgs (n : Nat) : List UInt8 :=
  if n < 10 then [chr n] else dgs (n / 10) ++ [chr (n % 10)]
termination_by n
decreasing_by omega

theorem dgs_small {n : Nat} (h : n < 10) : dgs n = [chr n] := by rw [dgs, if_pos h]
theorem dgs_big {n : Nat} (h : ¬ n < 10) : dgs n = dgs (n / 10) ++ [chr (n % 10)] := by rw [dgs, if_neg h]
theorem chr_toNat {n : Nat} (h : n < 10) : (chr n).toNat = 48 + n := by
  unfold chr; simp only [UInt8.toNat_ofNat']; omega
theorem dig_chr {n : Nat} (h : n < 10) : dig (chr n) = true := by
  unfold dig; rw [chr_toNat h]; simp; omega

theorem dgs_ne (n : Nat) : dgs n ≠ [] := by
  by_cases h : n < 10
  · rw [dgs_small h]; simp
  · rw [dgs_big h]; simp
theorem dgs_dig (n : Nat) : (dgs n).all dig = true := by
  induction n using Nat.strongRecOn with
  | ind n ih =>
    by_cases h : n < 10
    · rw [dgs_small h]; simp [dig_chr h]
    · rw [dgs_big h]
      have := ih (n / 10) (by omega)
      simp only [List.all_append, this, Bool.true_and, List.all_cons, List.all_nil, Bool.and_true]
      exact dig_chr (by omega)
theorem dv_dgs (n : Nat) : dv (dgs n) = n := by
  induction n using Nat.strongRecOn with
  | ind n ih =>
    by_cases h : n < 10
    · rw [dgs_small h]; simp [dv, dvl, chr_toNat h]
    · rw [dgs_big h, dv_snoc, ih (n / 10) (by omega), chr_toNat (by omega)]
      omega
theorem dgs_head (n : Nat) (h : 0 < n) : (dgs n).head? ≠ some 48 := by
  induction n using Nat.strongRecOn with
  | ind n ih =>
    by_cases h' : n < 10
    · rw [dgs_small h']
      simp only [List.head?_cons, ne_eq, Option.some.injEq]
      intro e
      have := congrArg UInt8.toNat e
      rw [chr_toNat h'] at this
      simp at this; omega
    · rw [dgs_big h', head_app (dgs_ne _)]
      exact ih (n / 10) (by omega) (by omega)
def pw (k : Nat) : Nat := 10 ^ k
theorem pw_pos (k : Nat) : 0 < pw k := Nat.pow_pos (by omega)
theorem pw_mono {a b : Nat} (h : a ≤ b) : pw a ≤ pw b := Nat.pow_le_pow_right (by omega) h
theorem dgs_len (n k : Nat) (hk : 1 ≤ k) : (dgs n).length ≤ k ↔ n < 10 ^ k := by
  induction n using Nat.strongRecOn generalizing k with
  | ind n ih =>
    by_cases h : n < 10
    · rw [dgs_small h]
      have : 10 ^ 1 ≤ 10 ^ k := Nat.pow_le_pow_right (by omega) hk
      simp; omega
    · rw [dgs_big h, List.length_append, List.length_singleton]
      obtain ⟨j, rfl⟩ : ∃ j, k = j + 1 := ⟨k - 1, by omega⟩
      by_cases hj : j = 0
      · subst hj
        have : 0 < (dgs (n / 10)).length := len_pos (dgs_ne _)
        rw [show (10 : Nat) ^ (0 + 1) = 10 from rfl]; omega
      · have := ih (n / 10) (by omega) j (by omega)
        rw [Nat.pow_succ]
        omega

theorem dgs_lenp (n k : Nat) (hk : 1 ≤ k) : (dgs n).length ≤ k ↔ n < pw k := dgs_len n k hk

/-- digits without a zero in front are the text of their value -/
theorem dgs_dv (l : List UInt8) (hne : l ≠ []) (hd : l.all dig = true) (hz : l.head? = some 48 → l = [48]) : dgs (dv l) = l := by
  obtain ⟨k, hk⟩ : ∃ k, l.length = k := ⟨_, rfl⟩
  induction k using Nat.strongRecOn generalizing l with
  | ind k ih =>
    rcases List.eq_nil_or_concat l with rfl | ⟨a, c, rfl⟩
    · exact absurd rfl hne
    · rw [List.concat_eq_append] at *
      simp only [List.all_append, List.all_cons, List.all_nil, Bool.and_true, Bool.and_eq_true, dig, decide_eq_true_eq] at hd
      obtain ⟨hda, hc⟩ := hd
      have hcn : c = chr (c.toNat - 48) := by
        unfold chr; rw [show 48 + (c.toNat - 48) = c.toNat by omega]; simp
      by_cases ha : a = []
      · subst ha
        rw [dv_snoc, dv_nil, dgs_small (by omega)]
        simp only [List.nil_append, List.cons.injEq, and_true]
        rw [show c.toNat - 48 + 10 * 0 = c.toNat - 48 by omega, ← hcn]
      · have hza : a.head? ≠ some 48 := by
          intro e
          have := hz (by rw [head_app ha]; exact e)
          cases a with
          | nil => exact ha rfl
          | cons x r => simp at this
        have hpos : 0 < dv a := by
          rcases Nat.eq_zero_or_pos (dv a) with h0 | h0
          · exfalso
            have := ih a.length (by simp at hk; omega) a ha (by simpa [dig] using hda) (fun e => absurd e hza) rfl
            rw [h0, dgs_small (by omega)] at this
            apply hza
            rw [← this]; rfl
          · exact h0
        have := ih a.length (by simp at hk; omega) a ha (by simpa [dig] using hda) (fun e => absurd e hza) rfl
        rw [dv_snoc, dgs_big (by omega), show (c.toNat - 48 + 10 * dv a) / 10 = dv a by omega, show (c.toNat - 48 + 10 * dv a) % 10 = c.toNat - 48 by omega, this, ← hcn]

/-! ### integers -/
def txt (n : Int) : List UInt8 := if n < 0 then 45 :: dgs n.natAbs else dgs n.natAbs
def body (l : List UInt8) : List UInt8 := if l.head? = some 45 then l.tail else l
def numL (l : List UInt8) : Int := if l.head? = some 45 then -(dv l.tail : Int) else (dv l : Int)
def validL (l : List UInt8) : Bool :=
  !(body l).isEmpty && decide ((body l).length ≤ 2000) && (if (body l).head? = some 48 then l == [48] else (body l).all dig)
/-- the numbers whose text is valid -/
def LIM : Nat := pw 2000
theorem LIM_pos : 0 < LIM := pw_pos 2000
def fits (n : Int) : Prop := n.natAbs < LIM
instance (n : Int) : Decidable (fits n) := inferInstanceAs (Decidable (_ < _))

theorem dgs_no_minus (n : Nat) : (dgs n).head? ≠ some 45 := by
  intro e
  have h := dgs_dig n
  cases hd : dgs n with
  | nil => exact dgs_ne n hd
  | cons c r =>
    rw [hd] at e h
    simp only [List.head?_cons, Option.some.injEq] at e
    subst e
    simp [dig] at h

theorem body_txt (n : Int) : body (txt n) = dgs n.natAbs := by
  unfold txt body
  split
  · simp
  · rw [if_neg (dgs_no_minus _)]
theorem numL_txt (n : Int) : numL (txt n) = n := by
  unfold txt numL
  split
  · simp [dv_dgs]; omega
  · rw [if_neg (dgs_no_minus _), dv_dgs]; omega
theorem txt_inj {m n : Int} (h : txt m = txt n) : m = n := by rw [← numL_txt m, h, numL_txt]
theorem head_txt (n : Int) : (txt n).head? = some 45 ↔ n < 0 := by
  unfold txt
  split
  · simp [*]
  · simp [dgs_no_minus]; omega
theorem txt_zero : txt 0 = [48] := by
  simp [txt, dgs_small]; rfl
theorem dgs_zero : dgs 0 = [48] := by simp [dgs_small]; rfl
theorem fits_len (n : Int) : fits n ↔ (dgs n.natAbs).length ≤ 2000 := (dgs_lenp n.natAbs 2000 (by omega)).symm
theorem txt_ne (n : Int) : txt n ≠ [] := by
  unfold txt; split
  · simp
  · exact dgs_ne _
theorem txt_len (n : Int) (h : fits n) : (txt n).length ≤ 2001 := by
  have := (fits_len n).1 h
  unfold txt; split <;> simp <;> omega

theorem valid_txt (n : Int) (h : fits n) : validL (txt n) = true := by
  unfold validL
  rw [body_txt]
  have h1 := (fits_len n).1 h
  have h2 := dgs_ne n.natAbs
  simp only [List.isEmpty_eq_false_iff.2 h2, Bool.not_false, Bool.true_and, h1, decide_true]
  by_cases h0 : n = 0
  · subst h0; simp [dgs_zero, txt_zero]
  · rw [if_neg (dgs_head _ (by omega))]
    exact dgs_dig _
theorem txt_numL (l : List UInt8) (h : validL l = true) : txt (numL l) = l ∧ fits (numL l) := by
  unfold validL at h
  simp only [Bool.and_eq_true, Bool.not_eq_true', List.isEmpty_eq_false_iff, decide_eq_true_eq] at h
  obtain ⟨⟨hne, hlen⟩, hz⟩ := h
  by_cases h48 : (body l).head? = some 48
  · rw [if_pos h48] at hz
    simp only [beq_iff_eq] at hz
    subst hz
    have : numL [48] = 0 := by decide
    rw [this]
    exact ⟨txt_zero, LIM_pos⟩
  · rw [if_neg h48] at hz
    have hb := dgs_dv (body l) hne hz (fun e => absurd e h48)
    have hl := dv_lt _ hz
    have hfit : dv (body l) < LIM := by
      have hp : pw (body l).length ≤ pw 2000 := pw_mono hlen
      exact Nat.lt_of_lt_of_le hl hp
    by_cases h45 : l.head? = some 45
    · have e1 : body l = l.tail := by unfold body; rw [if_pos h45]
      have e2 : numL l = -(dv l.tail : Int) := by unfold numL; rw [if_pos h45]
      rw [e1] at hb hne hfit
      have hpos : 0 < dv l.tail := by
        rcases Nat.eq_zero_or_pos (dv l.tail) with h0 | h0
        · rw [h0, dgs_zero] at hb
          rw [e1, ← hb] at h48
          simp at h48
        · exact h0
      rw [e2]
      refine ⟨?_, by unfold fits; omega⟩
      unfold txt
      rw [if_pos (by omega), show (-(dv l.tail : Int)).natAbs = dv l.tail by omega, hb]
      cases l with
      | nil => simp at h45
      | cons x r => simp at h45; subst h45; rfl
    · have e1 : body l = l := by unfold body; rw [if_neg h45]
      have e2 : numL l = (dv l : Int) := by unfold numL; rw [if_neg h45]
      rw [e1] at hb hfit
      rw [e2]
      refine ⟨?_, by unfold fits; omega⟩
      unfold txt
      rw [if_neg (by omega), Int.natAbs_natCast, hb]
theorem valid_iff (l : List UInt8) : validL l = true ↔ ∃ n, fits n ∧ l = txt n :=
  ⟨fun h => ⟨numL l, (txt_numL l h).2, (txt_numL l h).1.symm⟩, fun ⟨n, hn, e⟩ => by rw [e]; exact valid_txt n hn⟩
theorem txt_of_lit (l : List UInt8) (n : Int) (h : validL l = true) (e : numL l = n) : txt n = l := by rw [← e]; exact (txt_numL l h).1

/-! ### limbs -/
/-- the value of limbs, the lowest first -/
def lv : List Nat → Nat
  | [] => 0
  | x :: r => x + 1000000000 * lv r
/-- limbs: below the base, the highest one not 0 -/
def Lim (l : List Nat) : Prop := (∀ x ∈ l, x < 1000000000) ∧ l.getLast? ≠ some 0
theorem lv_append (a b : List Nat) : lv (a ++ b) = lv a + 1000000000 ^ a.length * lv b := by
  induction a with
  | nil => simp [lv]
  | cons c r ih =>
    simp only [List.cons_append, lv, ih, List.length_cons, Nat.pow_succ]
    rw [Nat.mul_add, Nat.mul_right_comm, Nat.mul_comm _ 1000000000, ← Nat.mul_assoc, Nat.mul_comm 1000000000 (1000000000 ^ r.length)]
    omega
theorem lv_lt (l : List Nat) (h : ∀ x ∈ l, x < 1000000000) : lv l < 1000000000 ^ l.length := by
  induction l with
  | nil => simp [lv]
  | cons c r ih =>
    have h1 := ih (fun x hx => h x (List.mem_cons_of_mem _ hx))
    have h2 := h c (List.mem_cons_self ..)
    simp only [lv, List.length_cons, Nat.pow_succ]
    omega
theorem lv_zeros (k : Nat) : lv (List.replicate k 0) = 0 := by
  induction k with
  | zero => rfl
  | succ k ih => simp [List.replicate_succ, lv, ih]
theorem Lim.tail {x : Nat} {r : List Nat} (h : Lim (x :: r)) : Lim r := by
  refine ⟨fun y hy => h.1 y (List.mem_cons_of_mem _ hy), fun e => h.2 ?_⟩
  cases r with
  | nil => simp at e
  | cons y r => simpa using e
theorem Lim.nil : Lim [] := ⟨by simp, by simp⟩
theorem Lim.pos {l : List Nat} (h : Lim l) (hne : l ≠ []) : 0 < lv l := by
  induction l with
  | nil => exact absurd rfl hne
  | cons x r ih =>
    simp only [lv]
    by_cases hr : r = []
    · subst hr
      have := h.2
      simp at this
      omega
    · have := ih h.tail hr; omega
theorem Lim.zero_iff {l : List Nat} (h : Lim l) : lv l = 0 ↔ l = [] :=
  ⟨fun e => Classical.byContradiction fun hne => by have := h.pos hne; omega, fun e => by subst e; rfl⟩
theorem Lim.inj {a b : List Nat} (ha : Lim a) (hb : Lim b) (e : lv a = lv b) : a = b := by
  induction a generalizing b with
  | nil => exact ((hb.zero_iff).1 (by rw [← e]; rfl)).symm
  | cons x r ih =>
    cases b with
    | nil => exact (ha.zero_iff).1 e
    | cons y s =>
      simp only [lv] at e
      have hx := ha.1 x (List.mem_cons_self ..)
      have hy := hb.1 y (List.mem_cons_self ..)
      have : x = y := by omega
      have : lv r = lv s := by omega
      rw [ih ha.tail hb.tail this]
      congr
/-- the length of limbs tells a bound -/
theorem Lim.ge {l : List Nat} (h : Lim l) (hne : l ≠ []) : 1000000000 ^ (l.length - 1) ≤ lv l := by
  induction l with
  | nil => exact absurd rfl hne
  | cons x r ih =>
    by_cases hr : r = []
    · subst hr
      have := h.pos (by simp)
      simp; omega
    · have h1 := ih h.tail hr
      have hl : 0 < r.length := len_pos hr
      simp only [lv, List.length_cons, Nat.add_sub_cancel]
      obtain ⟨k, hk⟩ : ∃ k, r.length = k + 1 := ⟨r.length - 1, by omega⟩
      rw [hk] at h1 ⊢
      simp only [Nat.add_sub_cancel] at h1
      rw [Nat.pow_succ]; omega
end Go.Proofs.YtbmmilhinbfahaaDoor.K
/- Plain mathematics of limb lists: what the loops compute. -/
namespace Go.Proofs.YtbmmilhinbfahaaDoor
open K

theorem set_app {α : Type} (done rest : List α) (z v : α) (k : Nat) (hk : done.length = k) : (done ++ z :: rest).set k v = (done ++ [v]) ++ rest := by
  subst hk
  rw [List.set_append_right _ _ (Nat.le_refl _)]
  simp
theorem drop_at {α : Type} {xs : List α} {k : Nat} {x : α} (h : xs[k]? = some x) : xs.drop k = x :: xs.drop (k + 1) := by
  obtain ⟨hk, hx⟩ := List.getElem?_eq_some_iff.1 h
  rw [List.drop_eq_getElem_cons hk, hx]
theorem mem_at {α : Type} {xs : List α} {k : Nat} {x : α} (h : xs[k]? = some x) : x ∈ xs := List.mem_of_getElem? h
theorem zeros_succ {α : Type} (z : α) (m : Nat) : List.replicate (m + 1) z = z :: List.replicate m z := rfl

/-! ### sums -/
def addc : List Nat → List Nat → Nat → List Nat
  | x :: r, ys, c => (c + x + ys.headD 0) % 1000000000 :: addc r ys.tail ((c + x + ys.headD 0) / 1000000000)
  | [], _, c => [c]
theorem lv_addc : ∀ (xs ys : List Nat) (c : Nat), ys.length ≤ xs.length → lv (addc xs ys c) = lv xs + lv ys + c
  | [], [], c, _ => by simp [addc, lv]
  | x :: r, [], c, _ => by
    simp only [addc, List.headD_nil, List.tail_nil, lv]
    rw [lv_addc r [] _ (by simp)]
    simp only [lv]
    omega
  | x :: r, y :: s, c, h => by
    simp only [addc, List.headD_cons, List.tail_cons, lv]
    rw [lv_addc r s _ (by simpa using h)]
    omega
theorem addc_lt : ∀ (xs ys : List Nat) (c : Nat), (∀ x ∈ xs, x < 1000000000) → (∀ y ∈ ys, y < 1000000000) → c ≤ 1 → ∀ z ∈ addc xs ys c, z < 1000000000
  | [], ys, c, _, _, hc => by simp [addc]; omega
  | x :: r, ys, c, hx, hy, hc => by
    intro z hz
    simp only [addc, List.mem_cons] at hz
    have h1 := hx x (List.mem_cons_self ..)
    have h2 : ys.headD 0 < 1000000000 := by
      cases ys with
      | nil => simp
      | cons y s => simpa using hy y (List.mem_cons_self ..)
    rcases hz with rfl | hz
    · omega
    · exact addc_lt r ys.tail _ (fun y h => hx y (List.mem_cons_of_mem _ h)) (fun y h => hy y (List.mem_of_mem_tail h)) (by omega) z hz
theorem addc_len : ∀ (xs ys : List Nat) (c : Nat), (addc xs ys c).length = xs.length + 1
  | [], _, _ => by simp [addc]
  | x :: r, ys, c => by simp [addc, addc_len r]

/-! ### differences -/
def subb : List Nat → List Nat → Nat → List Nat
  | x :: r, ys, br => if x < br + ys.headD 0 then (x + 1000000000 - (br + ys.headD 0)) :: subb r ys.tail 1 else (x - (br + ys.headD 0)) :: subb r ys.tail 0
  | [], _, _ => []
theorem subb_yes {x : Nat} {r ys : List Nat} {br : Nat} (h : x < br + ys.headD 0) : subb (x :: r) ys br = (x + 1000000000 - (br + ys.headD 0)) :: subb r ys.tail 1 := by rw [subb, if_pos h]
theorem subb_no {x : Nat} {r ys : List Nat} {br : Nat} (h : ¬ x < br + ys.headD 0) : subb (x :: r) ys br = (x - (br + ys.headD 0)) :: subb r ys.tail 0 := by rw [subb, if_neg h]
theorem lv_subb : ∀ (xs ys : List Nat) (br : Nat), (∀ x ∈ xs, x < 1000000000) → (∀ y ∈ ys, y < 1000000000) → br ≤ 1 → lv ys + br ≤ lv xs → lv (subb xs ys br) + (lv ys + br) = lv xs
  | [], ys, br, _, _, _, h => by simp only [subb, lv] at *; omega
  | x :: r, [], br, hx, hy, hb, h => by
    have h1 := hx x (List.mem_cons_self ..)
    have hr := fun y h => hx y (List.mem_cons_of_mem x h)
    simp only [lv] at h
    by_cases hc : x < br + List.headD [] 0
    · rw [subb_yes hc]
      simp only [List.headD_nil, List.tail_nil] at hc ⊢
      have := lv_subb r [] 1 hr hy (by omega) (by simp only [lv]; omega)
      simp only [lv] at *; omega
    · rw [subb_no hc]
      simp only [List.headD_nil, List.tail_nil] at hc ⊢
      have := lv_subb r [] 0 hr hy (by omega) (by simp only [lv]; omega)
      simp only [lv] at *; omega
  | x :: r, y :: s, br, hx, hy, hb, h => by
    have h1 := hx x (List.mem_cons_self ..)
    have h2 := hy y (List.mem_cons_self ..)
    have hr := fun z h => hx z (List.mem_cons_of_mem x h)
    have hs := fun z h => hy z (List.mem_cons_of_mem y h)
    simp only [lv] at h
    by_cases hc : x < br + (y :: s).headD 0
    · rw [subb_yes hc]
      simp only [List.headD_cons, List.tail_cons] at hc ⊢
      have := lv_subb r s 1 hr hs (by omega) (by omega)
      simp only [lv] at *; omega
    · rw [subb_no hc]
      simp only [List.headD_cons, List.tail_cons] at hc ⊢
      have := lv_subb r s 0 hr hs (by omega) (by omega)
      simp only [lv] at *; omega
theorem subb_nil : ∀ (xs : List Nat), subb xs [] 0 = xs
  | [] => rfl
  | x :: r => by simp [subb, subb_nil r]
theorem subb_len : ∀ (xs ys : List Nat) (br : Nat), (subb xs ys br).length = xs.length
  | [], _, _ => rfl
  | x :: r, ys, br => by simp only [subb]; split <;> simp [subb_len r]
theorem subb_lt : ∀ (xs ys : List Nat) (br : Nat), (∀ x ∈ xs, x < 1000000000) → (∀ y ∈ ys, y < 1000000000) → br ≤ 1 → ∀ z ∈ subb xs ys br, z < 1000000000
  | [], ys, br, _, _, _ => by simp [subb]
  | x :: r, ys, br, hx, hy, hb => by
    intro z hz
    have h1 := hx x (List.mem_cons_self ..)
    have hr := fun z h => hx z (List.mem_cons_of_mem x h)
    have hs := fun z h => hy z (List.mem_of_mem_tail h)
    simp only [subb] at hz
    split at hz
    · rcases List.mem_cons.1 hz with rfl | hz
      · omega
      · exact subb_lt r ys.tail 1 hr hs (by omega) z hz
    · rcases List.mem_cons.1 hz with rfl | hz
      · omega
      · exact subb_lt r ys.tail 0 hr hs (by omega) z hz

/-! ### products -/
def rowm : List Nat → Nat → List Nat → Nat → List Nat
  | p :: ps, x, y :: ys, c => (c + (p + x * y)) % 1000000000 :: rowm ps x ys ((c + (p + x * y)) / 1000000000)
  | _, _, _, c => [c]
theorem lv_rowm : ∀ (ps : List Nat) (x : Nat) (ys : List Nat) (c : Nat), ps.length = ys.length → lv (rowm ps x ys c) = lv ps + x * lv ys + c
  | [], x, [], c, _ => by simp [rowm, lv]
  | p :: ps, x, y :: ys, c, h => by
    simp only [rowm, lv]
    rw [lv_rowm ps x ys _ (by simpa using h)]
    have e : x * (y + 1000000000 * lv ys) = x * y + 1000000000 * (x * lv ys) := by rw [Nat.mul_add, Nat.mul_left_comm]
    omega
theorem rowm_len : ∀ (ps : List Nat) (x : Nat) (ys : List Nat) (c : Nat), ps.length = ys.length → (rowm ps x ys c).length = ys.length + 1
  | [], x, [], c, _ => by simp [rowm]
  | p :: ps, x, y :: ys, c, h => by simp [rowm, rowm_len ps x ys _ (by simpa using h)]
theorem prod_lt {x y : Nat} (hx : x < 1000000000) (hy : y < 1000000000) : x * y ≤ 999999998000000001 :=
  Nat.le_trans (Nat.mul_le_mul (show x ≤ 999999999 by omega) (show y ≤ 999999999 by omega)) (by omega)
theorem rowm_lt : ∀ (ps : List Nat) (x : Nat) (ys : List Nat) (c : Nat), (∀ p ∈ ps, p < 1000000000) → x < 1000000000 → (∀ y ∈ ys, y < 1000000000) → c < 1000000000 → ∀ z ∈ rowm ps x ys c, z < 1000000000
  | [], x, ys, c, _, _, _, hc => by simp [rowm]; omega
  | p :: ps, x, [], c, _, _, _, hc => by simp [rowm]; omega
  | p :: ps, x, y :: ys, c, hp, hx, hy, hc => by
    intro z hz
    have h1 := hp p (List.mem_cons_self ..)
    have h2 := prod_lt hx (hy y (List.mem_cons_self ..))
    simp only [rowm, List.mem_cons] at hz
    rcases hz with rfl | hz
    · omega
    · exact rowm_lt ps x ys _ (fun z h => hp z (List.mem_cons_of_mem _ h)) hx (fun z h => hy z (List.mem_cons_of_mem _ h)) (by omega) z hz
def mulL : List Nat → List Nat → List Nat → List Nat
  | x :: r, ys, ps => (rowm ps x ys 0).headD 0 :: mulL r ys (rowm ps x ys 0).tail
  | [], _, ps => ps
theorem lv_split (l : List Nat) : lv l = l.headD 0 + 1000000000 * lv l.tail := by cases l <;> simp [lv]
theorem lv_mulL : ∀ (xs ys ps : List Nat), ps.length = ys.length → lv (mulL xs ys ps) = lv ps + lv xs * lv ys
  | [], ys, ps, _ => by simp [mulL, lv]
  | x :: r, ys, ps, h => by
    have hl := rowm_len ps x ys 0 h
    have h1 := lv_rowm ps x ys 0 h
    rw [lv_split] at h1
    simp only [mulL, lv]
    rw [lv_mulL r ys _ (by simp [hl]), Nat.add_mul, Nat.mul_add, Nat.mul_assoc]
    omega
theorem mulL_len : ∀ (xs ys ps : List Nat), ps.length = ys.length → (mulL xs ys ps).length = xs.length + ys.length
  | [], ys, ps, h => by simp [mulL, h]
  | x :: r, ys, ps, h => by
    have hl := rowm_len ps x ys 0 h
    simp [mulL, mulL_len r ys _ (by simp [hl] : (rowm ps x ys 0).tail.length = ys.length)]
    omega
theorem mulL_lt : ∀ (xs ys ps : List Nat), ps.length = ys.length → (∀ x ∈ xs, x < 1000000000) → (∀ y ∈ ys, y < 1000000000) → (∀ p ∈ ps, p < 1000000000) → ∀ z ∈ mulL xs ys ps, z < 1000000000
  | [], ys, ps, h, _, _, hp => by simpa [mulL] using hp
  | x :: r, ys, ps, h, hx, hy, hp => by
    have hl := rowm_len ps x ys 0 h
    have hq := rowm_lt ps x ys 0 hp (hx x (List.mem_cons_self ..)) hy (by omega)
    intro z hz
    simp only [mulL, List.mem_cons] at hz
    rcases hz with rfl | hz
    · cases hr : rowm ps x ys 0 with
      | nil => simp
      | cons a s => rw [hr] at hq; simpa using hq a (List.mem_cons_self ..)
    · exact mulL_lt r ys _ (by simp [hl]) (fun z h => hx z (List.mem_cons_of_mem _ h)) hy (fun z h => hq z (List.mem_of_mem_tail h)) z hz

/-! ### by a small number -/
def divS (d : Nat) : List Nat → List Nat × Nat
  | [] => ([], 0)
  | x :: r => (((divS d r).2 * 1000000000 + x) / d :: (divS d r).1, ((divS d r).2 * 1000000000 + x) % d)
theorem divS_lt (d : Nat) (hd : 0 < d) : ∀ xs, (divS d xs).2 < d
  | [] => by simpa [divS] using hd
  | x :: r => by simp only [divS]; exact Nat.mod_lt _ hd
theorem lv_divS (d : Nat) (hd : 0 < d) : ∀ xs, d * lv (divS d xs).1 + (divS d xs).2 = lv xs
  | [] => by simp [divS, lv]
  | x :: r => by
    have ih := lv_divS d hd r
    have h := Nat.div_add_mod ((divS d r).2 * 1000000000 + x) d
    simp only [divS, lv, Nat.mul_add]
    rw [Nat.mul_left_comm d 1000000000]
    omega
theorem divS_len (d : Nat) : ∀ xs, (divS d xs).1.length = xs.length
  | [] => rfl
  | x :: r => by simp [divS, divS_len d r]
theorem divS_limbs (d : Nat) (hd : 0 < d) : ∀ xs, (∀ x ∈ xs, x < 1000000000) → ∀ z ∈ (divS d xs).1, z < 1000000000
  | [], _ => by simp [divS]
  | x :: r, hx => by
    intro z hz
    have h1 := hx x (List.mem_cons_self ..)
    have h2 := divS_lt d hd r
    simp only [divS, List.mem_cons] at hz
    rcases hz with rfl | hz
    · rw [Nat.div_lt_iff_lt_mul hd]
      have h3 : (divS d r).2 * 1000000000 ≤ (d - 1) * 1000000000 := Nat.mul_le_mul_right _ (by omega)
      have h4 : (d - 1) * 1000000000 + 1000000000 = d * 1000000000 := by
        rw [← Nat.succ_mul]; congr 1; omega
      omega
    · exact divS_limbs d hd r (fun z h => hx z (List.mem_cons_of_mem _ h)) z hz

/-! ### times a limb, in so many limbs -/
def scl : List Nat → Nat → Nat → Nat → List Nat
  | xs, l, n + 1, c => (c + xs.headD 0 * l) % 1000000000 :: scl xs.tail l n ((c + xs.headD 0 * l) / 1000000000)
  | _, _, 0, _ => []
theorem lv_scl : ∀ (n : Nat) (xs : List Nat) (l c : Nat), lv (scl xs l n c) = (lv xs * l + c) % 1000000000 ^ n
  | 0, xs, l, c => by simp [scl, lv, Nat.mod_one]
  | n + 1, xs, l, c => by
    simp only [scl, lv]
    rw [lv_scl n, Nat.pow_succ, Nat.mul_comm (1000000000 ^ n), Nat.mod_mul, lv_split xs, Nat.add_mul, Nat.mul_assoc]
    have e1 : (xs.headD 0 * l + 1000000000 * (lv xs.tail * l) + c) % 1000000000 = (c + xs.headD 0 * l) % 1000000000 := by omega
    have e2 : (xs.headD 0 * l + 1000000000 * (lv xs.tail * l) + c) / 1000000000 = lv xs.tail * l + (c + xs.headD 0 * l) / 1000000000 := by omega
    rw [e1, e2]
theorem scl_len : ∀ (n : Nat) (xs : List Nat) (l c : Nat), (scl xs l n c).length = n
  | 0, xs, l, c => by simp [scl]
  | n + 1, xs, l, c => by simp [scl, scl_len n]
theorem scl_lt : ∀ (n : Nat) (xs : List Nat) (l c : Nat), ∀ z ∈ scl xs l n c, z < 1000000000
  | 0, xs, l, c => by simp [scl]
  | n + 1, xs, l, c => by
    intro z hz
    simp only [scl, List.mem_cons] at hz
    rcases hz with rfl | hz
    · omega
    · exact scl_lt n _ _ _ z hz

/-! ### bounds -/
/-- enough for all products of valid numbers -/
def BIG : Nat := lv (List.replicate 1000 999999999)
theorem lv_nines (k : Nat) : lv (List.replicate k 999999999) + 1 = 1000000000 ^ k := by
  induction k with
  | zero => rfl
  | succ k ih => rw [zeros_succ, lv, Nat.pow_succ]; omega
theorem len_of_lt {l : List Nat} (h : Lim l) (k : Nat) (hb : lv l < 1000000000 ^ k) : l.length ≤ k := by
  rcases Nat.lt_or_ge k l.length with hl | hl
  · exfalso
    have hne : l ≠ [] := by intro e; subst e; simp at hl
    have h1 := h.ge hne
    have h2 : 1000000000 ^ k ≤ 1000000000 ^ (l.length - 1) := Nat.pow_le_pow_right (by omega) (by omega)
    omega
  · exact hl
theorem lv_lt_nines (l : List Nat) (h : ∀ x ∈ l, x < 1000000000) : lv l ≤ lv (List.replicate l.length 999999999) := by
  have h1 := lv_lt l h
  have h2 := lv_nines l.length
  omega
theorem nines_mono (a b : Nat) (h : a ≤ b) : lv (List.replicate a 999999999) ≤ lv (List.replicate b 999999999) := by
  have h1 := lv_nines a
  have h2 := lv_nines b
  have h3 : 1000000000 ^ a ≤ 1000000000 ^ b := Nat.pow_le_pow_right (by omega) h
  omega
theorem len_of_big {l : List Nat} (h : Lim l) (hb : lv l ≤ BIG) : l.length ≤ 1000 := by
  refine len_of_lt h 1000 ?_
  have := lv_nines 1000
  unfold BIG at hb
  omega

theorem nines_pw (k : Nat) : lv (List.replicate k 999999999) < pw (9 * k) := by
  have h := lv_nines k
  have e : pw (9 * k) = 1000000000 ^ k := by unfold pw; rw [Nat.pow_mul]
  omega
theorem big_pw : BIG < pw 9000 := nines_pw 1000
theorem big_digits {n : Nat} (h : n ≤ BIG) : (dgs n).length ≤ 9000 := (dgs_lenp n 9000 (by omega)).2 (Nat.lt_of_le_of_lt h big_pw)
theorem lv_drop_le (xs : List Nat) (k : Nat) : lv (xs.drop k) ≤ lv xs := by
  conv => rhs; rw [← List.take_append_drop k xs]
  rw [lv_append]
  have := Nat.le_mul_of_pos_left (lv (xs.drop k)) (show 0 < 1000000000 ^ (xs.take k).length from Nat.pow_pos (by omega))
  omega
/-- a list without its zeros at the end -/
def Cut (xs ys : List Nat) : Prop := ∃ k, ys = xs.take k ∧ lv ys = lv xs ∧ ys.getLast? ≠ some 0
theorem Cut.lim {xs ys : List Nat} (h : Cut xs ys) (hx : ∀ x ∈ xs, x < 1000000000) : Lim ys := by
  obtain ⟨k, rfl, _, h3⟩ := h
  exact ⟨fun x hm => hx x (List.mem_of_mem_take hm), h3⟩
theorem Cut.lv {xs ys : List Nat} (h : Cut xs ys) : K.lv ys = K.lv xs := by obtain ⟨_, _, h, _⟩ := h; exact h
theorem lv_take_zero (xs : List Nat) (k : Nat) (h : xs[k]? = some 0) : K.lv (xs.take (k + 1)) = K.lv (xs.take k) := by
  obtain ⟨hk, hx⟩ := List.getElem?_eq_some_iff.1 h
  rw [List.take_succ_eq_append_getElem hk, hx, lv_append]
  simp [K.lv]
end Go.Proofs.YtbmmilhinbfahaaDoor
/- make of a row of numbers -/
namespace Go.Proofs.YtbmmilhinbfahaaDoor
open Go.RowKit
theorem infoU : (Tryd.prog.info? 75).map (fun i => (i.zero, i.size, i.bytes)) = some (some (.int .u64 0), 1, 8) := by kernel_rfl
theorem infoI : (Tryd.prog.info? 3).map (fun i => (i.zero, i.size, i.bytes)) = some (some (.int .i64 0), 1, 8) := by kernel_rfl
theorem infoB : (Tryd.prog.info? 5).map (fun i => (i.zero, i.size, i.bytes)) = some (some (.int .u8 0), 1, 1) := by kernel_rfl
theorem mkNat (n : Nat) (q : Int) (hq : q = n) (hn : n ≤ 1000000) (w : World) :
    (Instr.makeSlice 70 (.int .i64 q) (.int .i64 q)).run Tryd.prog w = .ok (.slice (some ⟨w.heap.size, 0, none⟩) n n) (w.alloc (.cells (madeCells #[.int .u64 0] n) 75)) := by
  subst hq
  exact run_make_row' 70 75 (.int .u64 0) 8 Tryd.underlying70 infoU rfl .i64 .i64 n (by omega) (by omega) w
theorem mkInts (n : Nat) (q : Int) (hq : q = n) (hn : n ≤ 1000000) (w : World) :
    (Instr.makeSlice 22 (.int .i64 q) (.int .i64 q)).run Tryd.prog w = .ok (.slice (some ⟨w.heap.size, 0, none⟩) n n) (w.alloc (.cells (madeCells #[.int .i64 0] n) 3)) := by
  subst hq
  exact run_make_row' 22 3 (.int .i64 0) 8 Tryd.underlying22 infoI rfl .i64 .i64 n (by omega) (by omega) w
theorem U64s_zeros (n : Nat) : List.replicate n (Value.int .u64 0) = U64s (List.replicate n 0) := by simp [U64s]
theorem I64s_zeros (n : Nat) : List.replicate n (Value.int .i64 0) = I64s (List.replicate n 0) := by simp [I64s]
theorem U64s_set (l : List Nat) (k x : Nat) : (U64s l).set k (.int .u64 (x : Int)) = U64s (l.set k x) := by simp [U64s, List.map_set]
theorem I64s_set (l : List Nat) (k x : Nat) : (I64s l).set k (.int .i64 (x : Int)) = I64s (l.set k x) := by simp [I64s, List.map_set]
theorem U64s_at {l : List Nat} {k x : Nat} (h : l[k]? = some x) : (U64s l)[k]? = some (.int .u64 (x : Int)) := by simp [U64s, h]
theorem I64s_at {l : List Nat} {k x : Nat} (h : l[k]? = some x) : (I64s l)[k]? = some (.int .i64 (x : Int)) := by simp [I64s, h]
/-- a natural number in memory -/
def NatV (w : World) (v : Value) (n : Nat) : Prop :=
  ∃ A k c xs, v = .slice A k c ∧ xs.length = k ∧ k ≤ c ∧ Rd w A (U64s xs) ∧ K.Lim xs ∧ K.lv xs = n
theorem NatV.ext {w w' : World} {v : Value} {n : Nat} (h : NatV w v n) (e : Ext w w') : NatV w' v n := by
  obtain ⟨A, k, c, xs, h1, h2, h3, h4, h5⟩ := h
  exact ⟨A, k, c, xs, h1, h2, h3, h4.ext e, h5⟩
end Go.Proofs.YtbmmilhinbfahaaDoor
/- comparing: cmp.Compare, natural.compare -/
namespace Go.Proofs.YtbmmilhinbfahaaDoor
open Go.RowKit

def sgn (a b : Nat) : Int := if a < b then -1 else if b < a then 1 else 0

theorem cmpI (a b : Nat) (w : World) : Calls Tryd.prog 32 #[.int .i64 (a : Int), .int .i64 (b : Int)] w fun e w' => e = .returned (.int .i64 (sgn a b)) ∧ w = w' := by
  unfold sgn
  by_cases h1 : a < b
  · go_enter Tryd.func32, Tryd.ntmps32
    go_wp2
    go_ret
    simp [h1]
  · by_cases h2 : b < a
    · go_enter Tryd.func32, Tryd.ntmps32
      go_wp2
      go_ret
      simp [h1, h2]
    · go_enter Tryd.func32, Tryd.ntmps32
      go_wp2
      go_ret
      simp [h1, h2]

/-- comparing lists of the same length from the top -/
def cmpL : List Nat → List Nat → Int
  | x :: r, y :: s => if cmpL r s = 0 then sgn x y else cmpL r s
  | _, _ => 0
theorem cmpL_drop (k : Nat) : ∀ (xs ys : List Nat), cmpL (xs.drop k) (ys.drop k) ≠ 0 → cmpL xs ys = cmpL (xs.drop k) (ys.drop k) := by
  induction k with
  | zero => intro xs ys _; rfl
  | succ k ih =>
    intro xs ys h
    match xs, ys, h with
    | x :: r, y :: s, h =>
      simp only [List.drop_succ_cons] at h ⊢
      have := ih r s h
      rw [cmpL, this, if_neg h]
    | [], _, h => simp [cmpL] at h
    | x :: r, [], h => simp [cmpL] at h
theorem sgn_self (x : Nat) : sgn x x = 0 := by simp [sgn]
theorem sgn_ne {x y : Nat} (h : x ≠ y) : sgn x y ≠ 0 := by unfold sgn; split <;> (try split) <;> omega

theorem cmpL_val : ∀ (xs ys : List Nat), xs.length = ys.length → (∀ x ∈ xs, x < 1000000000) → (∀ y ∈ ys, y < 1000000000) → cmpL xs ys = sgn (K.lv xs) (K.lv ys)
  | [], [], _, _, _ => by simp [cmpL, K.lv, sgn]
  | x :: r, y :: s, h, hx, hy => by
    have ih := cmpL_val r s (by simpa using h) (fun z hz => hx z (List.mem_cons_of_mem _ hz)) (fun z hz => hy z (List.mem_cons_of_mem _ hz))
    have h1 := hx x (List.mem_cons_self ..)
    have h2 := hy y (List.mem_cons_self ..)
    rw [cmpL, ih]
    simp only [K.lv]
    unfold sgn
    repeat (first | omega | split)
theorem cmp_val {xs ys : List Nat} (hx : K.Lim xs) (hy : K.Lim ys) : (if xs.length = ys.length then cmpL xs ys else sgn xs.length ys.length) = sgn (K.lv xs) (K.lv ys) := by
  split
  · rename_i h; exact cmpL_val xs ys h hx.1 hy.1
  · rename_i h
    have aux : ∀ {a b : List Nat}, K.Lim a → K.Lim b → a.length < b.length → K.lv a < K.lv b := by
      intro a b ha hb hl
      have h1 := K.lv_lt a ha.1
      have h2 := hb.ge (by intro e; subst e; simp at hl)
      have h3 : 1000000000 ^ a.length ≤ 1000000000 ^ (b.length - 1) := Nat.pow_le_pow_right (by omega) (by omega)
      omega
    rcases Nat.lt_or_ge xs.length ys.length with hl | hl
    · have := aux hx hy hl
      unfold sgn; rw [if_pos hl, if_pos this]
    · have hl' : ys.length < xs.length := by omega
      have := aux hy hx hl'
      unfold sgn; rw [if_neg (by omega), if_pos hl', if_neg (by omega), if_pos this]
end Go.Proofs.YtbmmilhinbfahaaDoor
/- (natural).trimmed -/
namespace Go.Proofs.YtbmmilhinbfahaaDoor
open Go.RowKit

/-- what trimmed leaves -/
def TrimPost (A : Option Addr) (c : Nat) (xs : List Nat) (w : World) (e : Ending) (w' : World) : Prop :=
  ∃ k, k ≤ xs.length ∧ e = .returned (.slice A k c) ∧ Cut xs (xs.take k) ∧ Drew w w'
set_option maxHeartbeats 400000 in
theorem trimmed (A : Option Addr) (c n : Nat) (xs : List Nat) (w : World) (ha : Rd w A (U64s xs)) (ln : xs.length = n) (hn : n ≤ 1000000) (hc : n ≤ c) :
    Calls Tryd.prog 45 #[.slice A n c] w (TrimPost A c xs w) := by
  have LN := hid ln
  clear ln
  go_enter Tryd.func45, Tryd.ntmps45
  go_wp2
  go_loopw [0] (fun a wr => ∃ k : Nat, k ≤ n ∧ a = .slice A k c ∧ K.lv (xs.take k) = K.lv xs ∧ Drew w wr) (fun a _ => match a with | .slice _ k _ => k | _ => 0)
  case atStart => exact ⟨n, Nat.le_refl _, rfl, by rw [List.take_of_length_le (by rw [LN.out]; omega)], Drew.rfl' w⟩
  case round =>
    obtain ⟨k, hk, rfl, hl, hwr⟩ := hrel
    have HL := hid hl
    clear hl
    by_cases h0 : k = 0
    · subst h0
      go_wp2
      go_ret
      exact ⟨0, Nat.zero_le _, rfl, ⟨0, rfl, HL.out, by simp⟩, hwr⟩
    · obtain ⟨j, rfl⟩ : ∃ j, k = j + 1 := ⟨k - 1, by omega⟩
      obtain ⟨b, o, x, eA, ex, hb, hx⟩ := (ha.drew hwr).at_ (k := j) (by rw [LN.out]; omega)
      subst eA
      have HX := hid ex
      clear ex ha h0
      by_cases hx0 : x = 0
      · subst hx0
        go_wp2
        go_outline
        go_roundw
        case rel => exact ⟨j, by omega, rfl, by rw [← HL.out, lv_take_zero xs j HX.out], hwr⟩
        case measure => simp
      · go_wp2
        go_ret
        refine ⟨j + 1, by rw [LN.out]; omega, rfl, ⟨j + 1, rfl, HL.out, ?_⟩, hwr⟩
        obtain ⟨hj, e⟩ := List.getElem?_eq_some_iff.1 HX.out
        rw [List.take_succ_eq_append_getElem hj, e]
        simpa using hx0
end Go.Proofs.YtbmmilhinbfahaaDoor
/- (natural).plus -/
namespace Go.Proofs.YtbmmilhinbfahaaDoor
open Go.RowKit
def SumPost (n : Nat) (w : World) (e : Ending) (w' : World) : Prop := ∃ v, e = .returned v ∧ NatV w' v n ∧ Ext w w'
/-- the last step of plus, minus, times ..: a row of the call's own, trimmed -/
theorem SumPost.of_trim {w wr : World} {g : Nat} {s : List Nat} {n : Nat} (hrow : Row wr g 75 (U64s s)) (hb : Ext w wr) (hs : ∀ x ∈ s, x < 1000000000) (hv : K.lv s = n) (e : Ending) (w' : World)
    (h : TrimPost (some ⟨g, 0, none⟩) s.length s wr e w') : SumPost n w e w' := by
  obtain ⟨k, hk, rfl, hc, hw⟩ := h
  refine ⟨_, rfl, ⟨some ⟨g, 0, none⟩, k, s.length, s.take k, rfl, by simp; omega, hk, ?_, hc.lim hs, by rw [hc.lv, hv]⟩, hb.step hw.ext⟩
  have h0 := (hrow.rd0).take k
  rw [show (U64s s).take k = U64s (s.take k) by simp [U64s]] at h0
  exact h0.ext hw.ext

end Go.Proofs.YtbmmilhinbfahaaDoor
/- slices.Clone of a natural -/
namespace Go.Proofs.YtbmmilhinbfahaaDoor
open Go.RowKit
def ClonePost (n : Nat) (xs : List Nat) (w : World) (e : Ending) (w' : World) : Prop :=
  ∃ A c, n ≤ c ∧ e = .returned (.slice A n c) ∧ Ext w w' ∧ (n = 0 ∨ ∃ g spare, A = some ⟨g, 0, none⟩ ∧ w.heap.size ≤ g ∧ Row w' g 75 (U64s xs ++ spare))
theorem ClonePost.of_own {n : Nat} {xs : List Nat} {w w' : World} {v : Value} (h : w'.ownsRow w.heap.size 75 1 v n (U64s xs)) (e : Ext w w') : ClonePost n xs w (.returned v) w' := by
  rcases h.2 with ⟨rfl, rfl⟩ | ⟨g, cap, cur, rfl, hg, hh, hc, _, hs, ht⟩
  · exact ⟨none, 0, Nat.le_refl _, rfl, e, .inl rfl⟩
  · refine ⟨_, cap, hc, rfl, e, .inr ⟨g, cur.toList.drop (n * 1), rfl, hg, ?_⟩⟩
    unfold Row
    rw [hh, ← ht, List.take_append_drop]
end Go.Proofs.YtbmmilhinbfahaaDoor
/- (natural).minus -/
namespace Go.Proofs.YtbmmilhinbfahaaDoor
open Go.RowKit
theorem U64s_mid {done rest : List Nat} {sp : List Value} {x k : Nat} (hk : done.length = k) : (U64s (done ++ x :: rest) ++ sp)[k]? = some (.int .u64 (x : Int)) := by
  subst hk
  rw [List.getElem?_append_left (by simp)]
  simp [U64s]
theorem U64s_put {done rest : List Nat} {sp : List Value} {x k : Nat} (hk : done.length = k) (v : Nat) : (U64s (done ++ x :: rest) ++ sp).set k (.int .u64 (v : Int)) = U64s ((done ++ [v]) ++ rest) ++ sp := by
  rw [List.set_append_left _ _ (by simp; omega), U64s_set, set_app _ _ _ _ _ hk]
theorem Row.step1 {w : World} {g : Nat} {t : TypeId} {done rest : List Nat} {sp : List Value} {x k : Nat} (h : Row w g t (U64s (done ++ x :: rest) ++ sp)) (hk : done.length = k) (v : Nat) :
    Row (w.setCell ⟨g, k, none⟩ (.int .u64 (v : Int))) g t (U64s ((done ++ [v]) ++ rest) ++ sp) := by
  have h1 := h.set k (.int .u64 (v : Int))
  rwa [U64s_put hk] at h1
theorem Row.step2 {w : World} {g : Nat} {t : TypeId} {done rest : List Nat} {sp : List Value} {x k : Nat} (h : Row w g t (U64s (done ++ x :: rest) ++ sp)) (hk : done.length = k) (u : Value) (v : Nat) :
    Row ((w.setCell ⟨g, k, none⟩ u).setCell ⟨g, k, none⟩ (.int .u64 (v : Int))) g t (U64s ((done ++ [v]) ++ rest) ++ sp) := by
  have h1 := (h.set k u).set k (.int .u64 (v : Int))
  rwa [List.set_set, U64s_put hk] at h1
theorem Row.rd_sp {w : World} {g : Nat} {t : TypeId} {s : List Nat} {sp : List Value} (h : Row w g t (U64s s ++ sp)) : Rd w (some ⟨g, 0, none⟩) (U64s s) := by
  have h0 := (h.rd0).take (U64s s).length
  rwa [List.take_left] at h0
theorem SumPost.of_trim' {w wr : World} {g : Nat} {s : List Nat} {sp : List Value} {n c : Nat} (hrow : Row wr g 75 (U64s s ++ sp)) (hb : Ext w wr) (hs : ∀ x ∈ s, x < 1000000000) (hv : K.lv s = n) (e : Ending) (w' : World)
    (_ : True) (hc : s.length ≤ c) (h : TrimPost (some ⟨g, 0, none⟩) c s wr e w') : SumPost n w e w' := by
  obtain ⟨k, hk, rfl, hcut, hw⟩ := h
  refine ⟨_, rfl, ⟨some ⟨g, 0, none⟩, k, c, s.take k, rfl, by simp; omega, by omega, ?_, hcut.lim hs, by rw [hcut.lv, hv]⟩, hb.step hw.ext⟩
  have h0 := (hrow.rd_sp).take k
  rw [show (U64s s).take k = U64s (s.take k) by simp [U64s]] at h0
  exact h0.ext hw.ext

end Go.Proofs.YtbmmilhinbfahaaDoor
/- (natural).divideShort, (natural).scaled -/
namespace Go.Proofs.YtbmmilhinbfahaaDoor
open Go.RowKit
theorem U64s_mid0 {done rest : List Nat} {x k : Nat} (hk : done.length = k) : (U64s (done ++ x :: rest))[k]? = some (.int .u64 (x : Int)) := by
  have h := U64s_mid (sp := []) (rest := rest) (x := x) hk
  simpa using h
theorem Row.step0 {w : World} {g : Nat} {t : TypeId} {done rest : List Nat} {x k : Nat} (h : Row w g t (U64s (done ++ x :: rest))) (hk : done.length = k) (v : Nat) :
    Row (w.setCell ⟨g, k, none⟩ (.int .u64 (v : Int))) g t (U64s ((done ++ [v]) ++ rest)) := by
  have h1 := Row.step1 (sp := []) (by rw [List.append_nil]; exact h) hk v
  rwa [List.append_nil] at h1
def DivSPost (q r : Nat) (w : World) (e : Ending) (w' : World) : Prop := ∃ v, e = .returned (.tuple #[v, .int .u64 (r : Int)]) ∧ NatV w' v q ∧ Ext w w'
set_option maxHeartbeats 1600000 in
theorem divS_l (A : Option Addr) (ca n d : Nat) (xs : List Nat) (w : World) (ha : Rd w A (U64s xs)) (ln : xs.length = n) (hn : n ≤ 1001) (bx : ∀ x ∈ xs, x < 1000000000) (hd : 0 < d) (hd2 : d ≤ 2147483648) :
    Calls Tryd.prog 46 #[.slice A n ca, .int .u64 (d : Int)] w (DivSPost (K.lv xs / d) (K.lv xs % d) w) := by
  have LN := hid ln
  have BX := hid bx
  have hmk := fun w => mkNat n (n : Int) (by omega) (by omega) w
  clear bx ln
  go_enter Tryd.func46, Tryd.ntmps46
  go_wp2
  go_loopw [7, 8] (fun r i wr => ∃ (q : Int) (rest : Nat), -1 ≤ q ∧ q < n ∧ i = .int .i64 q ∧ r = .int .u64 rest ∧ rest < d ∧ rest = (divS d (xs.drop (q + 1).toNat)).2 ∧
      Row wr w.heap.size 75 (U64s (List.replicate (q + 1).toNat 0 ++ (divS d (xs.drop (q + 1).toNat)).1)) ∧ Ext w wr) (fun _ i _ => (intOf i + 1).toNat)
  case atStart =>
    have e : xs.drop ((n : Int) - 1 + 1).toNat = [] := List.drop_of_length_le (by rw [LN.out]; omega)
    refine ⟨(n : Int) - 1, 0, by omega, by omega, rfl, rfl, hd, by rw [e]; rfl, ?_, (Ext.rfl' w).alloc' _⟩
    rw [e, show ((n : Int) - 1 + 1).toNat = n by omega]
    have h := Row.made w 75 (.int .u64 0) n
    rw [U64s_zeros] at h
    rw [show (divS d []).1 = [] from rfl, List.append_nil]
    exact h
  case round =>
    obtain ⟨q, rest, hq1, hq2, rfl, rfl, hrd, hre, hrow, hext⟩ := hrel
    have HR := hid hre
    clear hre hmk
    by_cases hq : 0 ≤ q
    · obtain ⟨j, rfl⟩ := Int.eq_ofNat_of_zero_le hq
      obtain ⟨b1, o1, x, eA, ex, hb1, hx⟩ := (ha.ext hext).at_ (k := j) (by rw [LN.out]; omega)
      subst eA
      have hxB := BX.out x (mem_at ex)
      have HX := hid ex
      have ej : ((j : Int) + 1).toNat = j + 1 := by omega
      rw [ej, List.replicate_succ', List.append_assoc, List.singleton_append] at hrow
      have hcell : wr.cell? ⟨w.heap.size, j, none⟩ = some (.int .u64 0) := by
        rw [hrow.cell]
        exact U64s_mid0 (by simp)
      have hfree := hrow.free j
      have EJ := hid ej
      have hd0 : ¬ (d : Int) = 0 := by omega
      clear ex ha ej
      go_wp2
      go_roundw
      case rel =>
        have e0 : ((j : Int) - 1 + 1).toNat = j := by omega
        have e2 : rest = (divS d (xs.drop (j + 1))).2 := by have := HR.out; rwa [EJ.out] at this
        have e1 : divS d (xs.drop j) = (((rest * 1000000000 + x) / d) :: (divS d (xs.drop (j + 1))).1, (rest * 1000000000 + x) % d) := by
          rw [drop_at HX.out, divS, ← e2]
        refine ⟨(j : Int) - 1, (rest * 1000000000 + x) % d, by omega, by omega, rfl, by simp, Nat.mod_lt _ hd, by rw [e0, e1], ?_, hext.set' (Nat.le_refl _) _⟩
        rw [e0, e1]
        have h1 := Row.step0 (k := j) hrow (by simp) ((rest * 1000000000 + x) / d)
        simpa using h1
      case measure => simp [intOf]
    · have eq : (q + 1).toNat = 0 := by omega
      rw [eq] at hrow
      have e2 : rest = (divS d xs).2 := by have := HR.out; rwa [eq] at this
      simp only [List.replicate_zero, List.nil_append, List.drop_zero] at hrow
      have hval : K.lv (divS d xs).1 = K.lv xs / d ∧ (divS d xs).2 = K.lv xs % d := by
        have h1 := lv_divS d hd xs
        have h2 := divS_lt d hd xs
        have h3 := (Nat.div_mod_unique hd (a := K.lv xs) (c := (divS d xs).2) (d := K.lv (divS d xs).1)).2 ⟨by omega, h2⟩
        exact ⟨h3.1.symm, h3.2.symm⟩
      have hlims := divS_limbs d hd xs BX.out
      have hlen : (divS d xs).1.length = n := by rw [divS_len, LN.out]
      rw [hval.2] at e2
      have HE := hid e2
      have HV := hid hval.1
      generalize (divS d xs).1 = s at *
      have HL := hid hlen
      clear hlen hval ha e2
      go_wp2_with fail
      refine (trimmed _ n n s _ hrow.rd0 HL.out (by omega) (by omega)).mono ?_
      intro e w' hp
      have hq : SumPost (K.lv xs / d) w e w' := SumPost.of_trim hrow hext hlims HV.out e w' (by rw [HL.out]; exact hp)
      obtain ⟨v, rfl, hq⟩ := hq
      go_wp2
      go_ret2
      exact ⟨v, by rw [← HE.out]; rfl, hq⟩
theorem divS_any (va : Value) (a d : Nat) (w : World) (ha : NatV w va a) (la : a ≤ BIG) (hd : 0 < d) (hd2 : d ≤ 2147483648) :
    Calls Tryd.prog 46 #[va, .int .u64 (d : Int)] w (DivSPost (a / d) (a % d) w) := by
  obtain ⟨A, n, ca, xs, rfl, h2, _, h4, h5, rfl⟩ := ha
  have hn := len_of_big h5 la
  exact divS_l A ca n d xs w h4 h2 (by omega) h5.1 hd hd2

/-- scaled: a row of the call's own, known whole -/
def ScalePost (s : List Nat) (w : World) (e : Ending) (w' : World) : Prop := ∃ g, e = .returned (.slice (some ⟨g, 0, none⟩) s.length s.length) ∧ w.heap.size ≤ g ∧ Row w' g 75 (U64s s) ∧ Ext w w'
end Go.Proofs.YtbmmilhinbfahaaDoor
