/- values of texts; the shape of a law's answer -/
import Derived.Test.YtdbaemadphhhcaaDoorAwake
namespace Go.Proofs.YtdbaemadphhhcaaDoor
open Go.RowKit
def TruePost (w : World) (e : Ending) (w' : World) : Prop := e = .returned (.bool true) ∧ Ext w w'
def Val (x : List UInt8) (m : Int) : Prop := x = [] ∨ (K.validL x = true ∧ K.numL x = m)
theorem Val.of {x : List UInt8} (h : K.validL x = true) : Val x (K.numL x) := .inr ⟨h, rfl⟩
theorem valid_nil : K.validL [] = false := rfl
theorem same_num {x y : List UInt8} (hx : K.validL x = true) (hy : K.validL y = true) (e : K.numL x = K.numL y) : x = y := by
  rw [← (K.txt_numL x hx).1, ← (K.txt_numL y hy).1, e]
theorem Val.told (n : Int) : Val (told n) n := by
  by_cases h : K.fits n
  · exact .inr ⟨by rw [told_fits h]; exact K.valid_txt n h, by rw [told_fits h, K.numL_txt]⟩
  · exact .inl (told_not h)
theorem Val.num {x : List UInt8} {m : Int} (h : Val x m) (v : K.validL x = true) : K.numL x = m := by
  rcases h with h | h
  · rw [h] at v; cases v
  · exact h.2
theorem Val.sum {x y : List UInt8} {m n : Int} (hx : Val x m) (hy : Val y n) : Val (sL x y) (m + n) := by
  unfold sL
  split
  · rename_i h
    rw [hx.num h.1, hy.num h.2]; exact Val.told _
  · exact .inl rfl
theorem Val.prod {x y : List UInt8} {m n : Int} (hx : Val x m) (hy : Val y n) : Val (mL x y) (m * n) := by
  unfold mL
  split
  · rename_i h
    rw [hx.num h.1, hy.num h.2]; exact Val.told _
  · exact .inl rfl
theorem Val.alike {x y : List UInt8} {m : Int} (hx : Val x m) (hy : Val y m) : Alike x y := by
  rcases hx with h | h
  · exact .inl h
  · rcases hy with k | k
    · exact .inr (.inl k)
    · exact .inr (.inr (same_num h.1 k.1 (h.2.trans k.2.symm)))
theorem Val.alike' {x y : List UInt8} {m n : Int} (hx : Val x m) (hy : Val y n) (e : m = n) : Alike x y := (e ▸ hx).alike hy
theorem sL_comm (a b : List UInt8) : sL a b = sL b a := by
  unfold sL; simp only [And.comm, Int.add_comm]
theorem mL_comm (a b : List UInt8) : mL a b = mL b a := by
  unfold mL; simp only [And.comm, Int.mul_comm]
theorem sum_form {a b : List UInt8} (ha : K.validL a = true) (hb : K.validL b = true) : sL a b = told (K.numL a + K.numL b) := if_pos ⟨ha, hb⟩
theorem rvalid_at (l : List UInt8) {v : Bool} (w : World) (hv : Hid (K.validL l = v)) (hl : l.length ≤ 140737488351232) :
    Calls Tryd.prog 16 #[.string (Str l)] w fun e w' => e = .returned (.bool v) ∧ w = w' := by
  rw [← hv.out]; exact rvalid_any l w hl
theorem len_of {l : List UInt8} (h : l.length ≤ 2001) : l.length ≤ 140737488351232 := by omega
def AddPost (s : List UInt8) (n : Int) (w : World) (e : Ending) (w' : World) : Prop :=
  ((e = .returned (.tuple #[.string (Str s), .int .i64 0]) ∧ Hid (K.validL s = true ∧ K.numL s = n ∧ s.length ≤ 2001)) ∨ (e = .returned (.tuple #[.string ⟨#[]⟩, .int .i64 3]) ∧ Hid (¬ K.fits n))) ∧ Ext w w'
theorem told_post {n : Int} {w : World} {e : Ending} {w' : World} (h : ToldPost n w e w') : ∃ s, AddPost s n w e w' := by
  by_cases hf : K.fits n
  · exact ⟨K.txt n, .inl ⟨h.1 hf, hid ⟨K.valid_txt n hf, K.numL_txt n, K.txt_len n hf⟩⟩, h.2.2⟩
  · exact ⟨[], .inr ⟨h.2.1 hf, hid hf⟩, h.2.2⟩
theorem told_eq {n : Int} {l : List UInt8} {w : World} {e : Ending} {w' : World} (h : ToldPost n w e w') (v : K.validL l = true) (k : K.numL l = n) : e = .returned (.tuple #[.string (Str l), .int .i64 0]) ∧ Ext w w' := by
  have := lit_eq v k
  exact ⟨by rw [h.1 this.1, this.2], h.2.2⟩
end Go.Proofs.YtdbaemadphhhcaaDoor
