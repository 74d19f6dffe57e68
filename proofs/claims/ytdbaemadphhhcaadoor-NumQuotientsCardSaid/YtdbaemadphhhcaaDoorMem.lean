/- Words for memory: a slice that reads as a list, a block known whole; the world behind a call. -/
import Derived.WalkKit
import Derived.WalkSpells
import Derived.WalkLawsBesides
import Derived.Deep.QuietTactic
import Derived.BigQuiet
import Derived.Deep.Draws
import Derived.Deep.OwnRows
import Derived.Laws.OwnMore
import Derived.Laws.Rows
namespace Go.Proofs.YtdbaemadphhhcaaDoor
open Go.RowKit

theorem hid {p : Prop} (h : p) : Hid p := h
/-- what was there stands; new blocks, draws -/
abbrev Ext (w w' : World) : Prop := Below w.heap.size w w'
theorem Ext.rfl' (w : World) : Ext w w := Below.refl _ _
theorem Ext.step {a b c : World} (h : Ext a b) (k : Ext b c) : Ext a c := h.trans (k.mono h.size)
theorem Ext.drewN {a b : World} (h : Ext a b) (n : Nat) : Ext a (b.drewN n) := ⟨h.os, h.tape, h.output, h.size, h.block⟩
theorem Ext.of_drewN (w : World) (n : Nat) : Ext w (w.drewN n) := (Ext.rfl' w).drewN n
theorem Ext.alloc' {a b : World} (h : Ext a b) (o : Obj) : Ext a (b.alloc o) := Below.alloc h h.size o
theorem Ext.set' {a b : World} (h : Ext a b) {p : Addr} (hp : a.heap.size ≤ p.block) (u : Value) : Ext a (b.setCell p u) := Below.setCell h hp u

/-- the slice at A reads as the values vs -/
def Rd (w : World) (A : Option Addr) (vs : List Value) : Prop :=
  vs = [] ∨ ∃ b o, A = some ⟨b, o, none⟩ ∧ b < w.heap.size ∧ ∀ j u, vs[j]? = some u → w.cell? ⟨b, o + j, none⟩ = some u
theorem Rd.nil (w : World) (A : Option Addr) : Rd w A [] := .inl rfl
theorem Rd.ext {w w' : World} {A : Option Addr} {vs : List Value} (h : Rd w A vs) (e : Ext w w') : Rd w' A vs := by
  rcases h with h | ⟨b, o, ha, hb, hc⟩
  · exact .inl h
  · exact .inr ⟨b, o, ha, Nat.lt_of_lt_of_le hb e.size, fun j u hu => (e.cell (p := ⟨b, o + j, none⟩) hb).trans (hc j u hu)⟩
theorem Rd.drewN {w : World} {A : Option Addr} {vs : List Value} (h : Rd w A vs) (n : Nat) : Rd (w.drewN n) A vs := h.ext (Ext.of_drewN w n)
theorem Rd.take {w : World} {A : Option Addr} {vs : List Value} (h : Rd w A vs) (n : Nat) : Rd w A (vs.take n) := by
  rcases h with h | ⟨b, o, ha, hb, hc⟩
  · exact .inl (by rw [h]; simp)
  · refine .inr ⟨b, o, ha, hb, fun j u hu => hc j u ?_⟩
    rw [List.getElem?_take] at hu
    split at hu
    · exact hu
    · cases hu

/-- the world is as it was, but for draws -/
def Drew (w w' : World) : Prop := ∃ n, w' = w.drewN n
theorem Drew.rfl' (w : World) : Drew w w := ⟨0, rfl⟩
theorem Drew.drewN {a b : World} (h : Drew a b) (n : Nat) : Drew a (b.drewN n) := by
  obtain ⟨k, rfl⟩ := h
  exact ⟨k + n, by rw [World.drewN_drewN]⟩
theorem Drew.step {a b c : World} (h : Drew a b) (k : Drew b c) : Drew a c := by
  obtain ⟨n, rfl⟩ := k
  exact h.drewN n
theorem Drew.ext {w w' : World} (h : Drew w w') : Ext w w' := by
  obtain ⟨n, rfl⟩ := h
  exact Ext.of_drewN w n
theorem Rd.drew {w w' : World} {A : Option Addr} {vs : List Value} (h : Rd w A vs) (e : Drew w w') : Rd w' A vs := h.ext e.ext

/-- block g holds just the values vs -/
def Row (w : World) (g : Nat) (t : TypeId) (vs : List Value) : Prop := w.heap[g]? = some (.cells vs.toArray t (0, 0))
theorem Row.lt {w : World} {g : Nat} {t : TypeId} {vs : List Value} (h : Row w g t vs) : g < w.heap.size := by
  rcases Nat.lt_or_ge g w.heap.size with hl | hl
  · exact hl
  · unfold Row at h; rw [Array.getElem?_eq_none hl] at h; cases h
theorem Row.cell {w : World} {g : Nat} {t : TypeId} {vs : List Value} (h : Row w g t vs) (i : Nat) : w.cell? ⟨g, i, none⟩ = vs[i]? := by
  unfold Row at h; simp [World.cell?, h]
theorem Row.free {w : World} {g : Nat} {t : TypeId} {vs : List Value} (h : Row w g t vs) (i : Nat) : w.frozen? ⟨g, i, none⟩ = false := by
  unfold Row at h; simp [World.frozen?, h]
theorem Row.new (w : World) (t : TypeId) (vs : List Value) : Row (w.alloc (.cells vs.toArray t)) w.heap.size t vs := by
  show (w.heap.push _)[w.heap.size]? = _; simp
theorem Row.alloc {w : World} {g : Nat} {t : TypeId} {vs : List Value} (h : Row w g t vs) (o : Obj) : Row (w.alloc o) g t vs := (Below.heap_alloc w o g h.lt).trans h
theorem Row.drewN {w : World} {g : Nat} {t : TypeId} {vs : List Value} (h : Row w g t vs) (n : Nat) : Row (w.drewN n) g t vs := h
theorem Row.set {w : World} {g : Nat} {t : TypeId} {vs : List Value} (h : Row w g t vs) (i : Nat) (u : Value) : Row (w.setCell ⟨g, i, none⟩ u) g t (vs.set i u) := by
  unfold Row at h ⊢
  simp [World.setCell, Array.getElem?_modify, h]
theorem Row.far {w : World} {g : Nat} {t : TypeId} {vs : List Value} (h : Row w g t vs) {p : Addr} (hp : g ≠ p.block) (u : Value) : Row (w.setCell p u) g t vs := (Below.heap_setCell w p u g hp).trans h
theorem Row.ext {w w' : World} {g : Nat} {t : TypeId} {vs : List Value} (h : Row w g t vs) (e : Ext w w') : Row w' g t vs := (e.block g h.lt).trans h
theorem Row.below {B : Nat} {w w' : World} {g : Nat} {t : TypeId} {vs : List Value} (h : Row w g t vs) (e : Below B w w') (hg : g < B) : Row w' g t vs := (e.block g hg).trans h
theorem Row.rd {w : World} {g : Nat} {t : TypeId} {vs : List Value} (h : Row w g t vs) (k : Nat) : Rd w (some ⟨g, k, none⟩) (vs.drop k) := by
  refine .inr ⟨g, k, rfl, h.lt, fun j u hu => ?_⟩
  rw [h.cell, ← hu, List.getElem?_drop]
theorem Row.rd0 {w : World} {g : Nat} {t : TypeId} {vs : List Value} (h : Row w g t vs) : Rd w (some ⟨g, 0, none⟩) vs := by simpa using h.rd 0
theorem made_replicate (z : Value) (n : Nat) : madeCells #[z] n = (List.replicate n z).toArray := by
  apply Array.ext'
  simp only [madeCells, Array.toList_map, Array.toList_range]
  apply List.ext_getElem
  · simp
  · intro i h1 h2
    simp [Nat.mod_one]
theorem Row.made (w : World) (t : TypeId) (z : Value) (n : Nat) : Row (w.alloc (.cells (madeCells #[z] n) t)) w.heap.size t (List.replicate n z) := by
  rw [made_replicate]; exact Row.new w t _

/-- a row that the call owns, by append's laws -/
theorem Rd.of_own {w : World} {base e n c : Nat} {A : Option Addr} {vs : List Value} (h : w.ownsRow base e 1 (.slice A n c) n vs) : Rd w A vs := by
  rcases h.2 with ⟨hv, hn⟩ | ⟨g, cap, cur, hv, _, hh, _, _, hs, ht⟩
  · refine .inl (List.eq_nil_of_length_eq_zero ?_)
    rw [h.1, hn]
  · injection hv with hA
    refine .inr ⟨g, 0, hA, ?_, fun j u hu => ?_⟩
    · rcases Nat.lt_or_ge g w.heap.size with hl | hl
      · exact hl
      · rw [Array.getElem?_eq_none hl] at hh; cases hh
    · rw [← ht, List.getElem?_take] at hu
      split at hu
      · simpa [World.cell?, hh] using hu
      · cases hu

/-- numbers as values -/
abbrev U64s (l : List Nat) : List Value := l.map fun (x : Nat) => Value.int .u64 (x : Int)
abbrev I64s (l : List Nat) : List Value := l.map fun (x : Nat) => Value.int .i64 (x : Int)

theorem Rd.at_ {w : World} {A : Option Addr} {l : List Nat} {f : Nat → Value} (h : Rd w A (l.map f)) {k : Nat} (hk : k < l.length) :
    ∃ b o x, A = some ⟨b, o, none⟩ ∧ l[k]? = some x ∧ b < w.heap.size ∧ w.cell? ⟨b, o + k, none⟩ = some (f x) := by
  rcases h with h | ⟨b, o, ha, hb, hc⟩
  · rw [List.map_eq_nil_iff] at h; subst h; cases hk
  · exact ⟨b, o, l[k], ha, List.getElem?_eq_getElem hk, hb, hc k _ (by simp [List.getElem?_eq_getElem hk])⟩
end Go.Proofs.YtdbaemadphhhcaaDoor
