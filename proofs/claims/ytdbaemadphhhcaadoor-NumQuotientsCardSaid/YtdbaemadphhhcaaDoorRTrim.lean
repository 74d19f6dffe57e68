/- the reference's trim -/
import Derived.Test.YtdbaemadphhhcaaDoorProg
import Derived.Test.YtdbaemadphhhcaaDoorLimb
import Derived.Test.YtdbaemadphhhcaaDoorMem
import Derived.Test.YtdbaemadphhhcaaDoorSign
namespace Go.Proofs.YtdbaemadphhhcaaDoor
open Go.RowKit
/-- a number of the reference's -/
def RefV (w : World) (v : Value) (n : Int) : Prop :=
  ∃ A k c xs b, v = .agg #[.bool b, .slice A k c] ∧ Hid (b = decide (n < 0)) ∧ xs.length = k ∧ k ≤ c ∧ Rd w A (I64s xs) ∧ K.Lim xs ∧ K.lv xs = n.natAbs
theorem RefV.ext {w w' : World} {v : Value} {n : Int} (h : RefV w v n) (e : Ext w w') : RefV w' v n := by
  obtain ⟨A, k, c, xs, b, h1, h2, h3, h4, h5, h6⟩ := h
  exact ⟨A, k, c, xs, b, h1, h2, h3, h4, h5.ext e, h6⟩
def RefPost (n : Int) (w : World) (e : Ending) (w' : World) : Prop := ∃ v, e = .returned v ∧ RefV w' v n ∧ Ext w w'
/-- what trim leaves -/
def RTrimPost (neg : Bool) (A : Option Addr) (c : Nat) (xs : List Nat) (w : World) (e : Ending) (w' : World) : Prop :=
  ∃ k b, k ≤ xs.length ∧ e = .returned (.agg #[.bool b, .slice A k c]) ∧ Hid (b = (neg && decide (0 < k))) ∧ Cut xs (xs.take k) ∧ Ext w w'
set_option maxRecDepth 100000 in
set_option maxHeartbeats 800000 in
theorem rtrim_any (neg : Bool) (A : Option Addr) (c n : Nat) (xs : List Nat) (w : World) (ha : Rd w A (I64s xs)) (ln : xs.length = n) (hn : n ≤ 1000000) (hc : n ≤ c) :
    Calls Tryd.prog 46 #[.bool neg, .slice A n c] w (RTrimPost neg A c xs w) := by
  have LN := hid ln
  clear ln
  have HA := hid ha
  clear ha
  go_enter Tryd.func46, Tryd.ntmps46
  go_wp2_with fail
  generalize hW0 : w.alloc (.cells #[.bool false, .slice none 0 0] 31) = W0
  have hE : Ext w W0 := by rw [← hW0]; exact (Ext.rfl' w).alloc' _
  have hR : Row W0 w.heap.size 31 [.bool false, .slice none 0 0] := by rw [← hW0]; exact Row.new w _ _
  have hA := hid (HA.out.ext hE)
  clear hW0
  go_loopw [5] (fun a wr => ∃ k : Nat, k ≤ n ∧ a = .int .i64 (k : Int) ∧ Hid (K.lv (xs.take k) = K.lv xs) ∧ Drew W0 wr) (fun a _ => (intOf a).toNat)
  case atStart => exact ⟨n, Nat.le_refl _, rfl, hid (by rw [List.take_of_length_le (by rw [LN.out]; omega)]), Drew.rfl' W0⟩
  case round =>
    obtain ⟨k, hk, rfl, HL, hwr⟩ := hrel
    have hr := hR.ext hwr.ext
    have c0 : wr.cell? ⟨w.heap.size, 0, none⟩ = some (.bool false) := hr.cell 0
    have c1 : wr.cell? ⟨w.heap.size, 1, none⟩ = some (.slice none 0 0) := hr.cell 1
    have f0 := hr.free 0
    have f1 := hr.free 1
    have hfin : ∀ b, Hid (b = (neg && decide (0 < k))) → Hid (k = 0 ∨ (xs.take k).getLast? ≠ some 0) → RTrimPost neg A c xs w (.returned (.agg #[.bool b, .slice A k c])) ((wr.setCell ⟨w.heap.size, 0, none⟩ (.bool b)).setCell ⟨w.heap.size, 1, none⟩ (.slice A k c)) := by
      intro b hb hl
      exact ⟨k, b, by rw [LN.out]; exact hk, rfl, hb, ⟨k, rfl, HL.out, by rcases hl.out with h | h; (subst h; simp); exact h⟩, ((hE.step hwr.ext).set' (Nat.le_refl _) _).set' (Nat.le_refl _) _⟩
    by_cases h0 : k = 0
    · subst h0
      have HF := hid (hfin false (hid (by simp)) (hid (.inl rfl)))
      clear hfin
      cases neg with
      | false =>
        go_wp2
        refine bodyPost_ret (v := .agg #[.bool false, .slice A 0 c]) (by simp [results, Tryd.results46, go_sem, c0, c1]) rfl HF.out
      | true =>
        go_wp2
        refine bodyPost_ret (v := .agg #[.bool false, .slice A 0 c]) (by simp [results, Tryd.results46, go_sem, c0, c1]) rfl HF.out
    · obtain ⟨j, rfl⟩ : ∃ j, k = j + 1 := ⟨k - 1, by omega⟩
      obtain ⟨b, o, x, eA, ex, hb, hx⟩ := (hA.out.drew hwr).at_ (k := j) (by rw [LN.out]; omega)
      subst eA
      have HX := hid ex
      clear ex h0
      by_cases hx0 : x = 0
      · subst hx0
        clear hfin
        go_wp2
        go_roundw
        case rel => exact ⟨j, by omega, by simp, hid (by rw [← HL.out, lv_take_zero xs j HX.out]), hwr⟩
        case measure => simp [intOf]
      · have HF := hid (hfin neg (hid (by simp)) (hid (.inr (by
          obtain ⟨hj, e⟩ := List.getElem?_eq_some_iff.1 HX.out
          rw [List.take_succ_eq_append_getElem hj, e]
          simpa using hx0))))
        clear hfin
        cases neg with
        | false =>
          go_wp2
          refine bodyPost_ret (v := .agg #[.bool false, .slice (some ⟨b, o, none⟩) (j + 1) c]) (by simp [results, Tryd.results46, go_sem, c0, c1]) rfl HF.out
        | true =>
          go_wp2
          refine bodyPost_ret (v := .agg #[.bool true, .slice (some ⟨b, o, none⟩) (j + 1) c]) (by simp [results, Tryd.results46, go_sem, c0, c1]) rfl HF.out
end Go.Proofs.YtdbaemadphhhcaaDoor
