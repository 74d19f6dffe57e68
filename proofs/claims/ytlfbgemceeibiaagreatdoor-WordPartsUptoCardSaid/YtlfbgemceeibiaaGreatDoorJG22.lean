/- a slice of ints as an argument: its length against the bulk -/
import Derived.Test.YtlfbgemceeibiaaGreatDoorJG21
set_option linter.unusedSimpArgs false
set_option linter.unusedVariables false
namespace Go.Proofs.YtlfbgemceeibiaaGreatDoor
open Go.ChangeShapes Go.WideShapes Go.ChangeAt Go.RowKit Go.Joins
namespace SRow
theorem one_bulk {H : Type} (d : DataW H) : 1 ≤ Rows.uptoBulk d := by
  cases d with
  | lit l => cases l <;> simp [Rows.uptoBulk]
  | nil => simp [Rows.uptoBulk]
  | ptr d => simp [Rows.uptoBulk]
  | slice elems spare => simp [Rows.uptoBulk]
  | agg parts => simp [Rows.uptoBulk]
  | iface t d => simp [Rows.uptoBulk]
  | map entries => simp [Rows.uptoBulk]
  | held h => simp [Rows.uptoBulk]
theorem len_bulk {H : Type} (l : List (DataW H)) : l.length ≤ Rows.uptoBulkAll l := by
  induction l with
  | nil => simp [Rows.uptoBulkAll]
  | cons x r ih => have := one_bulk x; simp only [Rows.uptoBulkAll, List.length_cons]; omega
set_option maxRecDepth 100000 in
/-- A slice of ints has no more places than its bulk. -/
theorem word_bulk {H : Type} {enc : TypeId × Value → H} {W : World} {A : Option Addr} {k cap : Nat} {d : DataW H} {p : List MemPlace}
    (h : DataW.Trod enc Tryz.prog W 0 (fun _ => true) true 22 (.slice A k cap) d p) : k ≤ Rows.uptoBulk d := by
  obtain ⟨fuel, hf⟩ := h
  rcases open_ints Tryz.underlying22 Tryz.underlying3 cellsInt hf with ⟨hcs, hx⟩ | ⟨a, len, cap', zs, hcs, _, hl, hm, hz, hx, hcell, hwz⟩
  · have h0 : [Value.slice A k cap] = [.slice none 0 0] := hcs
    injection h0 with h1 _
    injection h1 with _ h2 _
    omega
  · simp only [if_true] at hz
    have h0 : [Value.slice A k cap] = [.slice (some a) len cap'] := hcs
    injection h0 with h1 _
    injection h1 with _ hk _
    have hd : d = _ := congrArg Prod.fst hx
    rw [hd]
    have h1 := len_bulk (lits .i64 (zs.take len) : List (DataW H))
    have e1 : (lits .i64 (zs.take len) : List (DataW H)).length = min len zs.length := by simp [lits]
    simp only [Rows.uptoBulk]
    omega
end SRow
end Go.Proofs.YtlfbgemceeibiaaGreatDoor
