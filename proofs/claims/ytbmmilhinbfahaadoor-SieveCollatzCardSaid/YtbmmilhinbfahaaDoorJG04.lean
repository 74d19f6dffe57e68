/- the frame of a step law's row: five listed variables, two of them sentinels; maps as arguments -/
import Derived.Test.YtbmmilhinbfahaaDoorCards
import Derived.Test.YtbmmilhinbfahaaDoorTie
import Derived.WalkKit
import Derived.ProofKit
import Derived.OpenShut
import Derived.Deep.DeepHandedRow
import Derived.Lib.LaidTab
import Derived.Lib.SmallJoins
import Derived.SizedLaws
import Derived.Below
import Derived.Carry
import Derived.ChangeSame
import Derived.LaidSub
import Derived.Lay
import Derived.Test.YtbmmilhinbfahaaDoorJG03
set_option linter.unusedSimpArgs false
set_option linter.unusedVariables false
namespace Go.Proofs.YtbmmilhinbfahaaDoor
open Go.ChangeShapes Go.WideShapes Go.ChangeAt Go.RowKit Go.Joins
namespace SRow
theorem own : ownKnob Tryd.prog.godebug = none := by kernel_rfl
theorem gPow : Tryd.prog.globalNamed "internal/strconv.uint64pow10" = some 0 := by kernel_rfl
theorem gPowType : (Tryd.prog.globals[0]?).map (·.type) = some 117 := by kernel_rfl
theorem cellsPow : Tryd.prog.cellsOf 117 = 20 := by kernel_rfl
theorem cellsU64 : Tryd.prog.cellsOf 75 = 1 := by kernel_rfl
theorem cellsInt : Tryd.prog.cellsOf 3 = 1 := by kernel_rfl
theorem bytesInt : Tryd.prog.bytesOf 3 = 8 := by kernel_rfl
theorem cellsMap : Tryd.prog.cellsOf 24 = 3 := by kernel_rfl
theorem laidOut : laidOutB Tryd.prog = true := by kernel_rfl
theorem readMap : Tryd.prog.readableRec 24 = true := by kernel_rfl
theorem rowMap : 24 < Tryd.prog.types.size := of_decide_eq_true (by kernel_rfl)
theorem tab_of {L : List (String × DataW Unit)} (e : (L.filter fun x => x.1 == "internal/strconv.uint64pow10") = [("internal/strconv.uint64pow10", Lib.tabData .u64 Lib.pow10Tab)]) {W : World} (h : laidMetH Tryd.prog L W) : Tab W := by
  have h2 := laidMetH.filter (fun x => x.1 == "internal/strconv.uint64pow10") h
  rw [e, MakeChecks.laidMetH_plain _ _ _ (by kernel_rfl)] at h2
  exact Lib.tabIs_of_head (rest := []) gPow gPowType Tryd.underlying117 Tryd.underlying75 cellsU64 cellsPow h2
theorem Str_data (s : ByteArray) : Str s.data.toList = s := by cases s; simp [Str]
theorem reach_len {l : List UInt8} (h : l.length ≤ reachBytes) : l.length ≤ 140737488351232 := h
section
variable {H : Type} {enc : TypeId × Value → H} {P : Program}
/-- The post of a row that reads the caller's memory and writes none of it. -/
theorem post_read {f : Func} {s : ChangeSpec} {W W' : World} {args : Array Value} {v : Value} {ds gs : List (DataW H)} {before pa : List MemPlace}
    (hW : DataW.Whole enc P f.params.toList s.vars false W args.toList ds gs before)
    (hres : ∀ (b : Nat) (sp : Nat → Bool) (hd : Bool), DataW.TrodAll enc P W' b sp hd f.resultTypes.toList (v.resultList f.resultTypes.size) (s.fn H (ds ++ gs)).results [])
    (hargs : DataW.TrodAll enc P W' 0 (fun b => decide (b < W.heap.size)) true f.params.toList args.toList (s.fn H (ds ++ gs)).args pa)
    (hvars : ∀ sp : Nat → Bool, DataW.TrodVars enc P W' sp s.vars (s.fn H (ds ++ gs)).vars []) (hb : Below W.heap.size W W') :
    s.post enc P f false true false false W args v W' :=
  ⟨ds, gs, before, [], pa, [], hW, hres _ _ _, hargs, hvars _, World.keptBut_mono (fun p hp => absurd hp (by simp)) (hb.frame (· ∈ ([] : List MemPlace))), fun h => by cases h⟩
/-- A slice of ints, opened to what the walks ask. -/
theorem slice_view {t e : TypeId} {W : World} {fuel : Nat} {c : Value} {y : DataW H × List MemPlace} (ht : P.underlying t = some (.slice e)) (he : P.underlying e = some (.int .i64)) (hc : P.cellsOf e = 1) (hb : P.bytesOf e = 8)
    (h : DataW.trod enc P W 0 (fun _ => true) true fuel t [c] = some y) (hw : ∀ n ∈ y.1.weights P t, n ≤ reachBytes) :
    ∃ (A : Option Addr) (k cap : Nat) (us : List Int), c = .slice A k cap ∧ us.length = k ∧ k ≤ cap ∧ Rd W A (Is us) ∧ k * 8 ≤ 140737488351232 := by
  rcases open_ints ht he hc h with ⟨hcs, hx⟩ | ⟨a, len, cap, zs, hcs, _, hl, hm, hz, hx, hcell, hwz⟩
  · refine ⟨none, 0, 0, [], by simpa using hcs, rfl, Nat.le_refl _, Rd.nil _ _, by omega⟩
  · simp only [if_true] at hz
    subst hx
    have hbig := hw (((lits .i64 (zs.take len) : List (DataW H)).length + (lits .i64 (zs.drop len) : List (DataW H)).length) * P.bytesOf e) (by simp [DataW.weights, ht])
    have hk : len * 8 ≤ 140737488351232 := by
      have e1 : (lits .i64 (zs.take len) : List (DataW H)).length = min len zs.length := by simp [lits]
      rw [e1, hb] at hbig
      have e2 : reachBytes = 140737488351232 := rfl
      rw [e2] at hbig
      have : min len zs.length = len := by omega
      rw [this] at hbig
      have : len * 8 ≤ (len + (lits .i64 (zs.drop len) : List (DataW H)).length) * 8 := Nat.mul_le_mul_right _ (Nat.le_add_right _ _)
      omega
    refine ⟨some a, len, cap, zs.take len, by simpa using hcs, by simp; omega, hl, ?_, by omega⟩
    by_cases h0 : len = 0
    · subst h0
      exact .inl (by simp)
    · obtain ⟨b, off, rfl, hc2⟩ := ints_at hcell (by omega)
      refine .inr ⟨b, off, rfl, World.block_lt_of_cell? _ _ (hc2 0 (by omega)), fun j u hu => ?_⟩
      simp only [List.getElem?_map, Option.map_eq_some_iff] at hu
      obtain ⟨x, hx, rfl⟩ := hu
      have hj : j < len := by
        rcases Nat.lt_or_ge j len with h1 | h1
        · exact h1
        · rw [List.getElem?_eq_none (by simp; omega)] at hx; cases hx
      rw [List.getElem?_take_of_lt hj] at hx
      rw [hc2 j (by omega), List.getD_eq_getElem?_getD, hx]
      rfl
end
set_option maxRecDepth 100000 in
/-- A map by value, opened. -/
theorem map_view {H : Type} {enc : TypeId × Value → H} {W : World} {r : Reach} {b0 : Nat} {v : Value} {d : DataW H} {p : List MemPlace} (hv : Value.okWide Tryd.prog W r b0 24 v)
    (h : DataW.Trod enc Tryd.prog W 0 (fun _ => true) true 24 v d p) (hw : ∀ n ∈ d.weights Tryd.prog 24, n ≤ reachBytes) : ∃ m us ad, MapV W v m us ad ∧ Fit8 v := by
  obtain ⟨c0, c1, c2, y0, y1, y2, n, rfl, rfl, _, hy0, hy1, hy2⟩ := open_agg3 Tryd.underlying24 (by kernel_rfl) cellsMap hv h
  obtain ⟨m, e0, rfl, _⟩ := DataW.trod_int Tryd.underlying3 hy0
  simp only [DataW.weights, Tryd.underlying24, DataW.weightsEach, List.map, List.append_nil, List.nil_append, List.mem_append] at hw
  obtain ⟨A, k, ca, us, rfl, h1, h2, h3, h4⟩ := slice_view Tryd.underlying22 Tryd.underlying3 cellsInt bytesInt hy1 (fun x hx => hw x (.inl hx))
  obtain ⟨B, l, cb, ad, rfl, h5, h6, h7, h8⟩ := slice_view Tryd.underlying22 Tryd.underlying3 cellsInt bytesInt hy2 (fun x hx => hw x (.inr hx))
  obtain rfl : c0 = .int .i64 m := by simpa using e0
  exact ⟨m, us, ad, ⟨A, k, ca, B, l, cb, rfl, h1, h2, h5, h6, h3, h7, by omega, by omega⟩, fun _ _ _ _ _ _ _ e => by cases e; exact ⟨by omega, by omega⟩⟩
theorem weights_at {ts : List TypeId} {H : Type} {ds : List (DataW H)} (h : (DataW.weightsEach Tryd.prog ts ds).all (· ≤ reachBytes) = true) {j : Nat} {t : TypeId} {d : DataW H} (ht : ts[j]? = some t) (hd : ds[j]? = some d) :
    ∀ n ∈ d.weights Tryd.prog t, n ≤ reachBytes := fun n hn => by simpa using List.all_eq_true.1 h _ (DataW.weights_mem_each ht hd n hn)
/-- A witness, over a world of a shape. -/
theorem witness_row_shaped {H : Type} {enc : TypeId × Value → H} {C : Checked} {os : Os} {f : FuncId} {fn : Func} {s : OpenSpec} {conds : List PathCond} {apart : Bool} {laid : List (String × DataW Unit)} (modest : Bool) (w0 : World) (args : Array Value) (hos : w0.os = os)
    (hsh : (w0.forCall (fun _ _ => 0) ⟨#[], args, []⟩).Shaped C.prog)
    (hok : Input.okWideB C.prog (w0.forCall (fun _ _ => 0) ⟨#[], args, []⟩) f ⟨#[], args, []⟩ = true)
    (hrow : s.preRow enc C.prog fn conds apart laid (w0.forCall (fun _ _ => 0) ⟨#[], args, []⟩).memory args) :
    ∃ (w : World) (tape : Tape) (i : Input), w.os = os ∧ (w.forCall tape i).Shaped C.prog ∧ i.vars = [] ∧ Input.okWide C.prog (w.forCall tape i) .any w.heap.size f i ∧
      s.preRow enc C.prog fn conds apart laid (w.forCall tape i).memory i.args ∧ ({ modest := modest } : Assume).holds C.prog (lone (Frame.enter C.prog f i.args .normal) [] (w.forCall tape i)) :=
  ⟨w0, fun _ _ => 0, ⟨#[], args, []⟩, hos, hsh, (Input.okWide_of_okWideB (base := 0) hok).1, (Input.okWide_of_okWideB hok).2, hrow, by
    simp only [Assume.holds]
    exact ⟨by simp, by simp, fun _ => Modest.zero, by simp, by simp⟩⟩
end SRow
end Go.Proofs.YtbmmilhinbfahaaDoor
