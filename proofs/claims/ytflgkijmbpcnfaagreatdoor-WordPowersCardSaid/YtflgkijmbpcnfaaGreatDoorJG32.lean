/- a slice of ints as an argument -/
import Derived.Test.YtflgkijmbpcnfaaGreatDoorJG25
set_option linter.unusedSimpArgs false
set_option linter.unusedVariables false
namespace Go.Proofs.YtflgkijmbpcnfaaGreatDoor
open Go.ChangeShapes Go.WideShapes Go.ChangeAt Go.RowKit Go.Joins
namespace SRow
theorem readWord : Tryz.prog.readableRec 22 = true := by kernel_rfl
theorem rowWord : 22 < Tryz.prog.types.size := of_decide_eq_true (by kernel_rfl)
set_option maxRecDepth 100000 in
/-- A slice of ints, opened. -/
theorem word_view {H : Type} {enc : TypeId × Value → H} {W : World} {r : Reach} {b0 : Nat} {v : Value} {d : DataW H} {p : List MemPlace} (hv : Value.okWide Tryz.prog W r b0 22 v)
    (h : DataW.Trod enc Tryz.prog W 0 (fun _ => true) true 22 v d p) (hw : ∀ n ∈ d.weights Tryz.prog 22, n ≤ reachBytes) :
    ∃ (A : Option Addr) (k cap : Nat) (ws : List Int), v = .slice A k cap ∧ ws.length = k ∧ k ≤ cap ∧ Rd W A (Is ws) ∧ k * 8 ≤ 140737488351232 := by
  obtain ⟨a, len, cap, rfl⟩ := okWide_slice Tryz.underlying22 hv
  obtain ⟨fuel, hf⟩ := h
  obtain ⟨A, k, ca, ws, e, h1, h2, h3, h4⟩ := slice_view Tryz.underlying22 Tryz.underlying3 cellsInt bytesInt hf hw
  exact ⟨A, k, ca, ws, e, h1, h2, h3, h4⟩
end SRow
end Go.Proofs.YtflgkijmbpcnfaaGreatDoor
