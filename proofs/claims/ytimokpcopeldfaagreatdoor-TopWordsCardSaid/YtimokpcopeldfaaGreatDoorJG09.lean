/- an array of two strings as an argument -/
import Derived.WideKeyArr
import Derived.Test.YtimokpcopeldfaaGreatDoorJG08
set_option linter.unusedSimpArgs false
set_option linter.unusedVariables false
namespace Go.Proofs.YtimokpcopeldfaaGreatDoor
open Go.ChangeShapes Go.WideShapes Go.ChangeAt Go.RowKit Go.Joins
namespace SRow
theorem cellsTwo : Tryz.prog.cellsOf 64 = 2 := by kernel_rfl
theorem cellsStr : Tryz.prog.cellsOf 9 = 1 := by kernel_rfl
theorem readTwo : Tryz.prog.readableRec 64 = true := by kernel_rfl
theorem rowTwo : 64 < Tryz.prog.types.size := of_decide_eq_true (by kernel_rfl)
set_option maxRecDepth 100000 in
/-- An array of two strings, opened. -/
theorem two_view {H : Type} {enc : TypeId × Value → H} {W : World} {r : Reach} {b0 : Nat} {v : Value} {d : DataW H} {p : List MemPlace} (hv : Value.okWide Tryz.prog W r b0 64 v)
    (h : DataW.Trod enc Tryz.prog W 0 (fun _ => true) true 64 v d p) (hw : ∀ n ∈ d.weights Tryz.prog 64, n ≤ reachBytes) :
    ∃ s0 s1 : ByteArray, v = .agg #[.string s0, .string s1] ∧ s0.data.toList.length ≤ 140737488351232 ∧ s1.data.toList.length ≤ 140737488351232 := by
  simp only [Value.okWide, Tryz.underlying64] at hv
  obtain ⟨cs, rfl, h2, -⟩ := hv
  rw [cellsTwo] at h2
  obtain ⟨l⟩ := cs
  obtain ⟨c0, c1, rfl⟩ : ∃ c0 c1, l = [c0, c1] := by
    match l, h2 with
    | [a, b], _ => exact ⟨a, b, rfl⟩
  obtain ⟨fuel, hf⟩ := h
  cases fuel with
  | zero => simp [DataW.trod] at hf
  | succ k =>
    rw [DataW.trod_step] at hf
    unfold DataW.trodStep at hf
    simp only [Tryz.underlying64, Value.cells, cellsTwo, cellsStr] at hf
    rw [if_pos (by simp)] at hf
    simp only [Option.map_eq_some_iff] at hf
    obtain ⟨ys, hy, e1⟩ := hf
    rw [show List.range 2 = [0, 1] from rfl] at hy
    rw [List.mapM_cons, List.mapM_cons, List.mapM_nil] at hy
    simp only [bind, Option.bind_eq_some_iff, pure, Option.some.injEq] at hy
    obtain ⟨y0, hy0, zs, ⟨y1, hy1, z1, hz1, rfl⟩, rfl⟩ := hy
    subst hz1
    obtain ⟨s0, e0, rfl, _⟩ := DataW.trod_string Tryz.underlying9 hy0
    obtain ⟨s1, e1', rfl, _⟩ := DataW.trod_string Tryz.underlying9 hy1
    obtain rfl : c0 = .string s0 := by simpa using e0
    obtain rfl : c1 = .string s1 := by simpa using e1'
    simp only [Prod.mk.injEq, List.map_cons, List.map_nil] at e1
    rw [← e1.1] at hw
    simp only [DataW.weights, Tryz.underlying64] at hw
    have er : reachBytes = 140737488351232 := rfl
    rw [er] at hw
    exact ⟨s0, s1, rfl, hw _ (by simp [DataW.weightsAll, DataW.weights]), hw _ (by simp [DataW.weightsAll, DataW.weights])⟩
end SRow
end Go.Proofs.YtimokpcopeldfaaGreatDoor
