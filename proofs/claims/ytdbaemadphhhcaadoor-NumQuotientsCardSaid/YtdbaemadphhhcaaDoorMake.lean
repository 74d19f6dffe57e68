/- make of a row of numbers -/
import Derived.Test.YtdbaemadphhhcaaDoorProg
import Derived.Test.YtdbaemadphhhcaaDoorMem
import Derived.Test.YtdbaemadphhhcaaDoorLimb
namespace Go.Proofs.YtdbaemadphhhcaaDoor
open Go.RowKit
theorem infoU : (Tryd.prog.info? 76).map (fun i => (i.zero, i.size, i.bytes)) = some (some (.int .u64 0), 1, 8) := by kernel_rfl
theorem infoI : (Tryd.prog.info? 3).map (fun i => (i.zero, i.size, i.bytes)) = some (some (.int .i64 0), 1, 8) := by kernel_rfl
theorem infoB : (Tryd.prog.info? 5).map (fun i => (i.zero, i.size, i.bytes)) = some (some (.int .u8 0), 1, 1) := by kernel_rfl
theorem mkNat (n : Nat) (q : Int) (hq : q = n) (hn : n ≤ 1000000) (w : World) :
    (Instr.makeSlice 57 (.int .i64 q) (.int .i64 q)).run Tryd.prog w = .ok (.slice (some ⟨w.heap.size, 0, none⟩) n n) (w.alloc (.cells (madeCells #[.int .u64 0] n) 76)) := by
  subst hq
  exact run_make_row' 57 76 (.int .u64 0) 8 Tryd.underlying57 infoU rfl .i64 .i64 n (by omega) (by omega) w
theorem mkInts (n : Nat) (q : Int) (hq : q = n) (hn : n ≤ 1000000) (w : World) :
    (Instr.makeSlice 29 (.int .i64 q) (.int .i64 q)).run Tryd.prog w = .ok (.slice (some ⟨w.heap.size, 0, none⟩) n n) (w.alloc (.cells (madeCells #[.int .i64 0] n) 3)) := by
  subst hq
  exact run_make_row' 29 3 (.int .i64 0) 8 Tryd.underlying29 infoI rfl .i64 .i64 n (by omega) (by omega) w
theorem U64s_zeros (n : Nat) : List.replicate n (Value.int .u64 0) = U64s (List.replicate n 0) := by simp [U64s]
theorem I64s_zeros (n : Nat) : List.replicate n (Value.int .i64 0) = I64s (List.replicate n 0) := by simp [I64s]
theorem U64s_set (l : List Nat) (k x : Nat) : (U64s l).set k (.int .u64 (x : Int)) = U64s (l.set k x) := by simp [U64s, List.map_set]
theorem I64s_set (l : List Nat) (k x : Nat) : (I64s l).set k (.int .i64 (x : Int)) = I64s (l.set k x) := by simp [I64s, List.map_set]
theorem U64s_at {l : List Nat} {k x : Nat} (h : l[k]? = some x) : (U64s l)[k]? = some (.int .u64 (x : Int)) := by simp [U64s, h]
theorem I64s_at {l : List Nat} {k x : Nat} (h : l[k]? = some x) : (I64s l)[k]? = some (.int .i64 (x : Int)) := by simp [I64s, h]
/-- a natural number in memory -/
def NatV (w : World) (v : Value) (n : Nat) : Prop :=
  ∃ A k c xs, v = .slice A k c ∧ xs.length = k ∧ k ≤ c ∧ Rd w A (U64s xs) ∧ K.Lim xs ∧ K.lv xs = n
theorem NatV.ext {w w' : World} {v : Value} {n : Nat} (h : NatV w v n) (e : Ext w w') : NatV w' v n := by
  obtain ⟨A, k, c, xs, h1, h2, h3, h4, h5⟩ := h
  exact ⟨A, k, c, xs, h1, h2, h3, h4.ext e, h5⟩
end Go.Proofs.YtdbaemadphhhcaaDoor
