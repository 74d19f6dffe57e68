/- Joined texts: a line of three strings, a slice of ints as arguments; a slice of ints as an argument. -/
import Derived.Test.YtlfbgemceeibiaaGreatDoorJG09
set_option linter.unusedSimpArgs false
set_option linter.unusedVariables false
/- a line of three strings, a slice of ints as arguments -/
namespace Go.Proofs.YtlfbgemceeibiaaGreatDoor
open Go.ChangeShapes Go.WideShapes Go.ChangeAt Go.RowKit Go.Joins
namespace SRow
theorem cellsLine : Tryz.prog.cellsOf 41 = 3 := by kernel_rfl
theorem readLine : Tryz.prog.readableRec 41 = true := by kernel_rfl
theorem rowLine : 41 < Tryz.prog.types.size := of_decide_eq_true (by kernel_rfl)
set_option maxRecDepth 100000 in
/-- A line by value, opened. -/
theorem line_view {H : Type} {enc : TypeId × Value → H} {W : World} {r : Reach} {b0 : Nat} {v : Value} {d : DataW H} {p : List MemPlace} (hv : Value.okWide Tryz.prog W r b0 41 v)
    (h : DataW.Trod enc Tryz.prog W 0 (fun _ => true) true 41 v d p) (hw : ∀ n ∈ d.weights Tryz.prog 41, n ≤ reachBytes) :
    ∃ lm la ld : ByteArray, v = .agg #[.string lm, .string la, .string ld] ∧ lm.data.toList.length ≤ 140737488351232 ∧ la.data.toList.length ≤ 140737488351232 ∧ ld.data.toList.length ≤ 140737488351232 := by
  obtain ⟨c0, c1, c2, y0, y1, y2, n, rfl, rfl, _, hy0, hy1, hy2⟩ := open_agg3 Tryz.underlying41 (by kernel_rfl) cellsLine hv h
  simp only [DataW.weights, Tryz.underlying41, DataW.weightsEach, List.map, List.append_nil, List.nil_append, List.mem_append] at hw
  obtain ⟨s0, e0, rfl, _⟩ := DataW.trod_string Tryz.underlying9 hy0
  obtain ⟨s1, e1, rfl, _⟩ := DataW.trod_string Tryz.underlying9 hy1
  obtain ⟨s2, e2, rfl, _⟩ := DataW.trod_string Tryz.underlying9 hy2
  obtain rfl : c0 = .string s0 := by simpa using e0
  obtain rfl : c1 = .string s1 := by simpa using e1
  obtain rfl : c2 = .string s2 := by simpa using e2
  have er : reachBytes = 140737488351232 := rfl
  rw [er] at hw
  exact ⟨s0, s1, s2, rfl, hw _ (by simp [DataW.weights]), hw _ (by simp [DataW.weights]), hw _ (by simp [DataW.weights])⟩
end SRow
end Go.Proofs.YtlfbgemceeibiaaGreatDoor
/- a slice of ints as an argument -/
namespace Go.Proofs.YtlfbgemceeibiaaGreatDoor
open Go.ChangeShapes Go.WideShapes Go.ChangeAt Go.RowKit Go.Joins
namespace SRow
theorem readWord : Tryz.prog.readableRec 22 = true := by kernel_rfl
theorem rowWord : 22 < Tryz.prog.types.size := of_decide_eq_true (by kernel_rfl)
set_option maxRecDepth 100000 in
/-- A slice of ints, opened. -/
theorem word_view {H : Type} {enc : TypeId × Value → H} {W : World} {r : Reach} {b0 : Nat} {v : Value} {d : DataW H} {p : List MemPlace} (hv : Value.okWide Tryz.prog W r b0 22 v)
    (h : DataW.Trod enc Tryz.prog W 0 (fun _ => true) true 22 v d p) (hw : ∀ n ∈ d.weights Tryz.prog 22, n ≤ reachBytes) :
    ∃ (A : Option Addr) (k cap : Nat) (ws : List Int), v = .slice A k cap ∧ ws.length = k ∧ k ≤ cap ∧ Rd W A (Is ws) ∧ k * 8 ≤ 140737488351232 := by
  obtain ⟨a, len, cap, rfl⟩ := okWide_slice Tryz.underlying22 hv
  obtain ⟨fuel, hf⟩ := h
  obtain ⟨A, k, ca, ws, e, h1, h2, h3, h4⟩ := slice_view Tryz.underlying22 Tryz.underlying3 cellsInt bytesInt hf hw
  exact ⟨A, k, ca, ws, e, h1, h2, h3, h4⟩
end SRow
end Go.Proofs.YtlfbgemceeibiaaGreatDoor
