/- Joined texts: num.read; num.readBoth; (number).gcd; (number).power; num.combine, Add, Sub, Mul, Gcd; num.Compare, Power, Rest; num.Divide; katabasisref01.Valid; the law package's helpers: texts of numbers, Power at two inputs; maps: plain mathematics; Contracts of the library, laid over this dump's numbers.; numbers as texts by the library: Itoa, FormatInt, ParseInt, Atoi, in the words of K; the reference's trim; the reference's Parse and Sign; the reference's part and more; the reference's size; the reference's less; plain facts on lists of parts: a part that is set; products, quotients and digits by rounds; the reference's Minus; the reference's Add; the reference's Mul; the reference's Add, of any two numbers; the reference's Sub; the reference's Sign; Parse of a valid text; the reference's Cmp; the reference's Text; the reference's Digits, Fits, Told; the reference's Of, at a number that is not negative; the reference's Of at 1, and Part; maps in memory; step.validRule. -/
import Derived.Test.YtbmmilhinbfahaaDoorJG02
import Derived.Deep.LoopGhost
import Derived.Shelf.Strconv.ParseIntEmpty
import Derived.Shelf.Strconv.AtoiFail
import Derived.Shelf.Strconv.Clone
import Derived.Shelf.Strconv.SyntaxError
import Derived.Shelf.LaysC
import Derived.Shelf.Strconv.ToError
import Derived.Shelf.Strconv.Lower
import Derived.Shelf.Strconv.ParseUint10
import Derived.Shelf.Strconv.ParseUint10Empty
import Derived.Shelf.Strconv.ParseUint10Any
import Derived.Shelf.Strconv.ParseInt10
import Derived.Shelf.Strconv.AtoiLong
import Derived.Shelf.Strconv.AtoiInnerAll
import Derived.Shelf.Strconv.RangeError
import Derived.Shelf.Strconv.ToErrorRange
import Derived.Shelf.Strconv.ParseUintEmpty
import Derived.Shelf.Strconv.ParseUint10b64
import Derived.Shelf.Strconv.ParseUint10b32
import Derived.Shelf.Strconv.ParseUint10b16
import Derived.Shelf.Strconv.ParseUint10b8
import Derived.Shelf.Strconv.ParseUint10At
import Derived.Shelf.Strconv.ParseInt10At64
import Derived.Shelf.Strconv.ParseInt10At32
import Derived.Shelf.Strconv.ParseInt10At16
import Derived.Shelf.Strconv.ParseInt10At8
import Derived.Shelf.Strconv.ParseInt10All
import Derived.Shelf.Strconv.ParseIntPublic10
import Derived.Shelf.Strconv.AppendUint10
import Derived.Shelf.Strconv.AppendInt10
import Derived.Shelf.Small.Bits
import Derived.Shelf.Small.Wraps
import Derived.Shelf.Strconv.Atoi
import Derived.Shelf.Strconv.AtoiErrFast
import Derived.Shelf.Strconv.AtoiAll
import Derived.Shelf.Strconv.Itoa0
import Derived.Shelf.Strconv.Itoa1
import Derived.Shelf.LaysM
import Derived.Shelf.Strconv.Itoa2
import Derived.Shelf.Strconv.Itoa3
import Derived.Shelf.Strconv.Itoa4
import Derived.Shelf.Strings.Prefix
import Derived.Ground.Names2Prog
import Derived.Shelf.Slices.SearchI
import Derived.Ground.SlsfProg
import Derived.Shelf.SlSortCmp.Insertion
import Derived.Shelf.SlSortCmp.SiftDown1
import Derived.Shelf.SlSortCmp.HeapSort1
import Derived.Shelf.SlSortCmp.Insertion1
import Derived.Shelf.SlSortCmp.Median1
import Derived.Shelf.SlSortCmp.Pivot1
import Derived.Shelf.SlSortCmp.ReverseRange1
import Derived.Shelf.SlSortCmp.PartialInsertion1
import Derived.Shelf.SlSortCmp.PartitionEqual1
import Derived.Shelf.SlSortCmp.Partition1
import Derived.Shelf.SlSortCmp.Pdq1
import Derived.Shelf.SlSortCmp.Whole1
import Derived.Shelf.SlSortCmp.NoneTotal
import Derived.Test.YtbmmilhinbfahaaDoorProg
import Derived.Lib.AppendIntMem
import Derived.Lib.SmallJoins
import Derived.Lib.AtoiErrMem
import Derived.Test.YtbmmilhinbfahaaDoorJG01
import Derived.Laws.AppendOwn
import Derived.Maps.AppendAt
import Derived.IntWalk
import Derived.Deep.Cut
set_option linter.unusedSimpArgs false
set_option linter.unusedVariables false
/- num.read -/
namespace Go.Proofs.YtbmmilhinbfahaaDoor
open Go.RowKit
/-- the iterator in block b stands at pos -/
def setIt (w : World) (b : Nat) (s : ByteArray) (pos : Nat) : World := { w with heap := w.heap.setIfInBounds b (.stringIter s pos) }
theorem run_next_at {P : Program} (w : World) (b : Nat) (s : ByteArray) (pos : Nat) (ty : TypeId) (hb : w.heap[b]? = some (.stringIter s pos)) (h : pos < s.size) (ha : (s[pos]'h).toNat < 128) :
    (Instr.next (.pointer (some ⟨b, 0, none⟩)) true ty).run P w = .ok (.tuple #[.bool true, .int .i64 pos, .int .i32 (s[pos]'h).toNat]) (setIt w b s (pos + 1)) := by
  simp only [Instr.next, getObj, setObj, Sem.run_bind, Sem.run, hb, Result.andThen, h, if_true, decode_ascii s pos h ha, setIt]
  simp [goInt, Sem.run, hb]
theorem run_next_done {P : Program} (w : World) (b : Nat) (s : ByteArray) (pos : Nat) (ty : TypeId) (hb : w.heap[b]? = some (.stringIter s pos)) (h : ¬ pos < s.size) :
    (Instr.next (.pointer (some ⟨b, 0, none⟩)) true ty).run P w = .ok (.tuple #[.bool false]) w := by
  simp [Instr.next, getObj, Sem.run, hb, h]
theorem setIt_same {w : World} {b : Nat} {s : ByteArray} {pos pos' : Nat} (hb : w.heap[b]? = some (.stringIter s pos')) : (setIt w b s pos).heap[b]? = some (.stringIter s pos) := by
  have hl : b < w.heap.size := by
    rcases Nat.lt_or_ge b w.heap.size with hl | hl
    · exact hl
    · rw [Array.getElem?_eq_none hl] at hb; cases hb
  unfold setIt
  simp [Array.getElem?_setIfInBounds, hl]
theorem setIt_other {w : World} {b k : Nat} {s : ByteArray} {pos : Nat} (hk : k ≠ b) : (setIt w b s pos).heap[k]? = w.heap[k]? := by
  unfold setIt
  rw [Array.getElem?_setIfInBounds, if_neg (fun e => hk e.symm)]
theorem Ext.setIt {a w : World} (h : Ext a w) {b : Nat} (hb : a.heap.size ≤ b) (s : ByteArray) (pos : Nat) : Ext a (setIt w b s pos) :=
  ⟨h.os, h.tape, h.output, by unfold Proofs.YtbmmilhinbfahaaDoor.setIt; simpa using h.size, fun k hk => (setIt_other (by omega)).trans (h.block k hk)⟩
theorem setCell_heap {w : World} {a : Addr} {u : Value} {k : Nat} (h : k ≠ a.block) : (w.setCell a u).heap[k]? = w.heap[k]? := Below.heap_setCell w a u k h
def ReadPost (l : List UInt8) (w : World) (e : Ending) (w' : World) : Prop :=
  (K.validL l = true → ∃ v, e = .returned (.tuple #[v, .int .i64 0]) ∧ NumV w' v (K.numL l)) ∧ (K.validL l = false → e = .returned (.tuple #[.agg #[.bool false, .slice none 0 0], .int .i64 1])) ∧ Ext w w'
theorem body_all {l : List UInt8} (h : K.validL l = true) : (K.body l).all K.dig = true ∧ (K.body l).length ≤ 2000 ∧ 0 < (K.body l).length := by
  have e := (K.txt_numL l h).1
  have h2 := (K.fits_len _).1 (K.txt_numL l h).2
  rw [← e, K.body_txt]
  exact ⟨K.dgs_dig _, h2, K.len_pos (K.dgs_ne _)⟩
theorem body_val {l : List UInt8} (h : K.validL l = true) : K.dv (K.body l) = (K.numL l).natAbs ∧ (K.body l).length + (if K.numL l < 0 then 1 else 0) = l.length := by
  have e := (K.txt_numL l h).1
  constructor
  · conv => lhs; rw [← e]
    rw [K.body_txt, K.dv_dgs]
  · conv => lhs; lhs; rw [← e]
    conv => rhs; rw [← e]
    rw [K.body_txt]
    unfold K.txt
    split <;> simp
set_option maxRecDepth 100000 in
set_option maxHeartbeats 1600000 in
theorem read_ok (l : List UInt8) (w : World) (hl : l.length ≤ 140737488351232) (hv : K.validL l = true) :
    Calls Tryd.prog 36 #[.string (Str l)] w (fun e w' => (∃ v, e = .returned (.tuple #[v, .int .i64 0]) ∧ NumV w' v (K.numL l)) ∧ Ext w w') := by
  obtain ⟨hd, hlen, hpos⟩ := body_all hv
  obtain ⟨hval, hll⟩ := body_val hv
  have HV := hid hv
  have HD := hid hd
  have HVL := hid hval
  obtain ⟨b, hb⟩ : ∃ b, K.body l = b := ⟨_, rfl⟩
  obtain ⟨L, hL⟩ : ∃ L, b.length = L := ⟨_, rfl⟩
  rw [hb] at hd hlen hpos hll
  rw [hL] at hlen hpos hll
  have HB := hid hb
  have HL := hid hL
  have s1 := Str_size l
  have s2 : (Str b).size = L := by rw [Str_size, hL]
  have hE1 : Ext w (w.alloc (.cells #[.bool false, .slice none 0 0] 72)) := (Ext.rfl' w).alloc' _
  have HE1 := hid hE1
  have hmk := fun w => mkNat ((L + 8) / 9) (((L : Int) + 9 - 1) / 9) (by omega) (by omega) w
  have hrev : (b.reverse).all K.dig = true := by simpa using hd
  have HR := hid hrev
  have hneg : (decide ((L : Int) < (l.length : Int))) = decide (K.numL l < 0) := by
    rw [Bool.eq_iff_iff]; simp only [decide_eq_true_eq]; split at hll <;> omega
  have HN := hid hneg
  clear hv hd hval hb hL hE1 hrev hneg hll
  go_enter Tryd.func36, Tryd.ntmps36
  go_wp2_with fail
  refine (valid_any l _ hl).mono ?_
  rintro e w1 ⟨rfl, hx1⟩
  rw [HV.out]
  go_wp2_with fail
  refine (trimPrefix_any _ _).mono ?_
  rintro e w2 ⟨rfl, rfl⟩
  rw [HB.out]
  obtain ⟨m, hm⟩ : ∃ m, (L + 8) / 9 = m := ⟨_, rfl⟩
  have hLm : L ≤ 9 * m := by omega
  have hm3 : m ≤ 300 := by omega
  have hE2 : Ext w w1 := HE1.out.step hx1
  obtain ⟨-, -, -, -, -, hr0⟩ := two_facts (W := w) (H := w.heap.size) hx1 rfl
  have HM := hid hm
  have HX2 := hid hE2
  have HR0 := hid hr0
  have HX1 := hid hx1
  clear hE2 hr0 hm
  go_wp2_with fail
  rw [HM.out]
  have hrow0 : Row ((w1.alloc (.cells (madeCells #[.int .u64 0] m) 75)).iter (Str b) 0) w1.heap.size 75 (U64s (grps b.reverse L m)) := by
    have h1 := (Row.made w1 75 (.int .u64 0) m).alloc (.stringIter (Str b) 0)
    rw [U64s_zeros] at h1
    have h2 := grps_start b.reverse m
    rw [List.length_reverse, HL.out] at h2
    rw [h2]
    exact h1
  have hit0 : ((w1.alloc (.cells (madeCells #[.int .u64 0] m) 75)).iter (Str b) 0).heap[w1.heap.size + 1]? = some (.stringIter (Str b) 0) := by
    have h := World.iter_heap (w1.alloc (.cells (madeCells #[.int .u64 0] m) 75)) (Str b) 0
    simpa using h
  have hext0 : Ext w1 ((w1.alloc (.cells (madeCells #[.int .u64 0] m) 75)).iter (Str b) 0) := ((Ext.rfl' w1).alloc' _).step (Ext.iter _ _ _)
  clear hmk
  go_loopw [5] (fun left wr => ∃ k pos : Nat, Hid (pos + k = L) ∧ k ≤ L ∧ left = .int .i64 k ∧ wr.heap[w1.heap.size + 1]? = some (.stringIter (Str b) pos) ∧ Row wr w1.heap.size 75 (U64s (grps b.reverse k m)) ∧ Ext w1 wr) (fun left _ => (intOf left).toNat)
  case atStart => exact ⟨L, 0, hid (by omega), by omega, rfl, hit0, hrow0, hext0⟩
  case round =>
    obtain ⟨k, pos, hpk, hkL, rfl, hit, hrow, hext⟩ := hrel
    clear hrow0 hit0 hext0
    by_cases hk0 : 0 < k
    · obtain ⟨p, rfl⟩ : ∃ p, k = p + 1 := ⟨k - 1, by omega⟩
      obtain ⟨x, ex⟩ : ∃ x, b[pos]? = some x := ⟨_, List.getElem?_eq_getElem (by rw [HL.out]; have := hpk.out; omega)⟩
      have ee : b.reverse[p]? = some x := by
        rw [List.getElem?_reverse (by rw [HL.out]; omega), HL.out, show L - 1 - p = pos by have := hpk.out; omega]
        exact ex
      have hdx : K.dig x = true := by
        have h := HR.out
        rw [List.all_eq_true] at h
        exact h x (List.mem_of_getElem? ee)
      have hx48 : 48 ≤ x.toNat ∧ x.toNat ≤ 57 := by unfold K.dig at hdx; simpa using hdx
      obtain ⟨hh, e0⟩ := Str_at ex
      have hnx : ∀ ty, (Instr.next (.pointer (some ⟨w1.heap.size + 1, 0, none⟩)) true ty).run Tryd.prog wr = .ok (.tuple #[.bool true, .int .i64 pos, .int .i32 x.toNat]) (setIt wr (w1.heap.size + 1) (Str b) (pos + 1)) := fun ty => by
        have h := run_next_at (P := Tryd.prog) wr (w1.heap.size + 1) (Str b) pos ty hit hh (by rw [e0]; omega)
        rw [e0] at h
        exact h
      have hpm : p / 9 < m := by omega
      obtain ⟨y, hy⟩ : ∃ y, grp b.reverse (p + 1) (p / 9) = y := ⟨_, rfl⟩
      have hyB : y < 100000000 := by rw [← hy]; exact grp_open _ _ HR.out
      have hrow1 : Row (setIt wr (w1.heap.size + 1) (Str b) (pos + 1)) w1.heap.size 75 (U64s (grps b.reverse (p + 1) m)) := (setIt_other (by omega)).trans hrow
      have hit1 := setIt_same (s := Str b) (pos := pos + 1) hit
      have hext1 : Ext w1 (setIt wr (w1.heap.size + 1) (Str b) (pos + 1)) := hext.setIt (by omega) _ _
      generalize setIt wr (w1.heap.size + 1) (Str b) (pos + 1) = wn at *
      have hcell : wn.cell? ⟨w1.heap.size, p / 9, none⟩ = some (.int .u64 y) := by
        rw [hrow1.cell, ← hy]
        exact U64s_at (grps_at _ _ _ _ hpm)
      have hfree := hrow1.free (p / 9)
      have hnew : Row (wn.setCell ⟨w1.heap.size, p / 9, none⟩ (.int .u64 ((y : Int) * 10 + ((x.toNat : Int) - 48)))) w1.heap.size 75 (U64s (grps b.reverse p m)) := by
        have h1 := hrow1.set (p / 9) (.int .u64 ((y : Int) * 10 + ((x.toNat : Int) - 48)))
        have e1 : ((y : Int) * 10 + ((x.toNat : Int) - 48)) = ((y * 10 + (x.toNat - 48) : Nat) : Int) := by omega
        rw [e1, U64s_set, ← hy, grps_step b.reverse p m x ee hpm] at h1
        rw [e1, ← hy]
        exact h1
      have hit2 : (wn.setCell ⟨w1.heap.size, p / 9, none⟩ (.int .u64 ((y : Int) * 10 + ((x.toNat : Int) - 48)))).heap[w1.heap.size + 1]? = some (.stringIter (Str b) (pos + 1)) := by
        rw [setCell_heap (by show w1.heap.size + 1 ≠ w1.heap.size; omega)]; exact hit1
      have HNEW := hid hnew
      have HIT := hid hit2
      have HEX := hid (hext1.set' (p := ⟨w1.heap.size, p / 9, none⟩) (Nat.le_refl _) (.int .u64 ((y : Int) * 10 + ((x.toNat : Int) - 48))))
      have hxa : 48 ≤ x.toNat := hx48.1
      have hxb : x.toNat ≤ 57 := hx48.2
      clear ex ee hdx hx48 e0 hh hit hrow hrow1 hit1 hext1 hnew hit2 hy hk0
      go_wp2
      go_roundw
      case rel => exact ⟨p, pos + 1, hid (by have := hpk.out; omega), by omega, rfl, HIT.out, HNEW.out, HEX.out⟩
      case measure => simp [intOf]
    · obtain rfl : k = 0 := by omega
      have hnx : ∀ ty, (Instr.next (.pointer (some ⟨w1.heap.size + 1, 0, none⟩)) true ty).run Tryd.prog wr = .ok (.tuple #[.bool false]) wr := fun ty => run_next_done (P := Tryd.prog) wr (w1.heap.size + 1) (Str b) pos ty hit (by rw [s2]; have := hpk.out; omega)
      have hglen := grps_len b.reverse 0 m
      have hglt := grps_lt b.reverse 0 m HR.out
      have hgval : K.lv (grps b.reverse 0 m) = (K.numL l).natAbs := by
        rw [lv_grps, List.take_of_length_le (by rw [List.length_reverse, HL.out]; exact hLm)]
        have h := HVL.out
        rw [HB.out] at h
        exact h
      generalize grps b.reverse 0 m = G at *
      have HGL := hid hglen
      have HGV := hid hgval
      clear hglen hgval hit
      go_wp2_with fail
      refine (trimmed _ m m G _ hrow.rd0 HGL.out (by omega) (by omega)).mono ?_
      intro e w' hp
      have hq : SumPost (K.numL l).natAbs w1 e w' := SumPost.of_trim hrow hext hglt HGV.out e w' (by rw [HGL.out]; exact hp)
      obtain ⟨v, rfl, hq, hxx⟩ := hq
      obtain ⟨A, ka, ca, rfl⟩ := hq.slice
      have hr1 := HR0.out.ext hxx
      obtain ⟨g0, g1, g2, g3⟩ := hr1.facts
      by_cases hs : L < l.length
      · have hfin := NumPost.stored (w := w) (W := w) (n := K.numL l) (t := 72) (HX1.out.step hxx) (Ext.rfl' w) (H := w.heap.size) rfl hq true (by rw [← HN.out]; symm; simp; omega)
        have HF := hid hfin
        clear hfin hr1 hxx hq hp hrow hext hnx
        go_wp2
        refine bodyPost_ret (v := .tuple #[.agg #[.bool true, .slice A ka ca], .int .i64 0]) (by simp [results, Tryd.results36, go_sem, g0, g1]) rfl ?_
        obtain ⟨v, hv, hn, he⟩ := HF.out
        injection hv with hv
        subst hv
        exact ⟨⟨_, rfl, hn⟩, he⟩
      · have hfin := NumPost.stored (w := w) (W := w) (n := K.numL l) (t := 72) (HX1.out.step hxx) (Ext.rfl' w) (H := w.heap.size) rfl hq false (by rw [← HN.out]; symm; simp; omega)
        have HF := hid hfin
        clear hfin hr1 hxx hq hp hrow hext hnx
        go_wp2
        refine bodyPost_ret (v := .tuple #[.agg #[.bool false, .slice A ka ca], .int .i64 0]) (by simp [results, Tryd.results36, go_sem, g0, g1]) rfl ?_
        obtain ⟨v, hv, hn, he⟩ := HF.out
        injection hv with hv
        subst hv
        exact ⟨⟨_, rfl, hn⟩, he⟩
set_option maxRecDepth 100000 in
set_option maxHeartbeats 400000 in
theorem read_bad (l : List UInt8) (w : World) (hl : l.length ≤ 140737488351232) (hv : K.validL l = false) :
    Calls Tryd.prog 36 #[.string (Str l)] w (fun e w' => e = .returned (.tuple #[.agg #[.bool false, .slice none 0 0], .int .i64 1]) ∧ Ext w w') := by
  have HV := hid hv
  have hE1 : Ext w (w.alloc (.cells #[.bool false, .slice none 0 0] 72)) := (Ext.rfl' w).alloc' _
  have HE1 := hid hE1
  clear hv hE1
  go_enter Tryd.func36, Tryd.ntmps36
  go_wp2_with fail
  refine (valid_any l _ hl).mono ?_
  rintro e w1 ⟨rfl, hx1⟩
  rw [HV.out]
  obtain ⟨g0, g1, g2, g3, g4, hr0⟩ := two_facts (W := w) (H := w.heap.size) hx1 rfl
  have hE2 : Ext w w1 := HE1.out.step hx1
  clear hx1 hr0
  go_wp2
  refine bodyPost_ret (v := .tuple #[.agg #[.bool false, .slice none 0 0], .int .i64 1]) (by simp [results, Tryd.results36, go_sem, g0, g1]) rfl ?_
  exact ⟨rfl, (hE2.set' (Nat.le_refl _) _).set' (Nat.le_refl _) _⟩
end Go.Proofs.YtbmmilhinbfahaaDoor
/- num.readBoth -/
namespace Go.Proofs.YtbmmilhinbfahaaDoor
open Go.RowKit
abbrev Z : Obj := .cells #[.bool false, .slice none 0 0] 72
theorem twoZ {w w' : World} (e : Ext ((w.alloc (.cells #[.bool false, .slice none 0 0] 72)).alloc (.cells #[.bool false, .slice none 0 0] 72)) w') :
    Row w' w.heap.size 72 [.bool false, .slice none 0 0] ∧ Row w' (w.heap.size + 1) 72 [.bool false, .slice none 0 0] ∧ w.heap.size + 1 < w'.heap.size ∧ Ext w w' := by
  have h1 := two_facts (W := w) (H := w.heap.size) (t := 72) (a := .bool false) (b := .slice none 0 0) (Ext.step ((Ext.rfl' _).alloc' _) e) rfl
  have h2 := two_facts (H := w.heap.size + 1) e (by simp)
  exact ⟨h1.2.2.2.2.2, h2.2.2.2.2.2, h2.2.2.2.2.1, (((Ext.rfl' w).alloc' _).alloc' _).step e⟩
def BothOk (m n : Int) (w : World) (e : Ending) (w' : World) : Prop := (∃ v1 v2, e = .returned (.tuple #[v1, v2, .int .i64 0]) ∧ NumV w' v1 m ∧ NumV w' v2 n) ∧ Ext w w'
def BothBad (w : World) (e : Ending) (w' : World) : Prop := e = .returned (.tuple #[.agg #[.bool false, .slice none 0 0], .agg #[.bool false, .slice none 0 0], .int .i64 1]) ∧ Ext w w'
end Go.Proofs.YtbmmilhinbfahaaDoor
/- (number).gcd -/
namespace Go.Proofs.YtbmmilhinbfahaaDoor
open Go.RowKit Go.Deep
theorem gcd_step (x y : Nat) (h : 0 < y) : Nat.gcd y (x % y) = Nat.gcd x y := by
  rw [Nat.gcd_comm x y, Nat.gcd_rec y x, Nat.gcd_comm]
end Go.Proofs.YtbmmilhinbfahaaDoor
/- (number).power -/
namespace Go.Proofs.YtbmmilhinbfahaaDoor
open Go.RowKit
/-! ### bounds by limbs -/
def TOP (k : Nat) : Nat := 1000000000 ^ k
theorem TOP_add (a b : Nat) : TOP (a + b) = TOP a * TOP b := Nat.pow_add _ _ _
theorem TOP_pos (k : Nat) : 0 < TOP k := Nat.pow_pos (by omega)
theorem TOP_mono {a b : Nat} (h : a ≤ b) : TOP a ≤ TOP b := Nat.pow_le_pow_right (by omega) h
theorem nines_top (k : Nat) : K.lv (List.replicate k 999999999) + 1 = TOP k := lv_nines k
theorem BIG_top : BIG + 1 = TOP 1000 := nines_top 1000
theorem pw_top (k : Nat) : K.pw (9 * k) = TOP k := by unfold K.pw TOP; rw [Nat.pow_mul]
theorem LIM_top : K.LIM ≤ TOP 223 := by rw [← pw_top]; exact K.pw_mono (by omega)
theorem le_big {x a : Nat} (h : x < TOP a) (ha : a ≤ 1000) : x ≤ BIG := by
  have h1 := TOP_mono ha
  have h2 := BIG_top
  omega
theorem mul_top {x y a b : Nat} (hx : x < TOP a) (hy : y < TOP b) : x * y < TOP (a + b) := by rw [TOP_add]; exact Nat.mul_lt_mul'' hx hy
theorem fits_top {m : Int} (h : K.fits m) : m.natAbs < TOP 223 := Nat.lt_of_lt_of_le h LIM_top
theorem fits_big {m : Int} (h : K.fits m) : m.natAbs ≤ BIG := le_big (fits_top h) (by omega)
theorem NatV.top {w : World} {A : Option Addr} {k c n : Nat} (h : NatV w (.slice A k c) n) : n < TOP k ∧ (0 < k → TOP (k - 1) ≤ n) := by
  obtain ⟨A', k', c', xs, hv, hl, _, _, hL, hm⟩ := h
  injection hv with _ hk _
  subst hk hm hl
  exact ⟨K.lv_lt xs hL.1, fun h0 => hL.ge (by intro e; subst e; simp at h0)⟩
theorem pow_big {m : Int} {k n : Nat} (hk : k ≤ n) (h : 1 < (m ^ k).natAbs) : (m ^ k).natAbs ≤ (m ^ n).natAbs := by
  rw [Int.natAbs_pow] at h ⊢
  rw [Int.natAbs_pow]
  have h0 : m.natAbs ≠ 0 := by
    intro e; rw [e] at h
    rcases Nat.eq_zero_or_pos k with h1 | h1
    · subst h1; simp at h
    · rw [Nat.zero_pow h1] at h; omega
  exact Nat.pow_le_pow_right (by omega) hk
theorem band1 (q : Nat) (hq : q < 9223372036854775808) : bits .and .i64 (q : Int) 1 = ((q % 2 : Nat) : Int) := by
  have e1 : (BitVec.ofInt 64 (q : Int)).toNat = q := by
    rw [BitVec.ofInt_natCast, BitVec.toNat_ofNat]; exact Nat.mod_eq_of_lt (by omega)
  show IntKind.i64.wrap ((BitVec.ofInt 64 (q : Int) &&& BitVec.ofInt 64 1).toNat : Int) = _
  rw [BitVec.toNat_and, e1, show (BitVec.ofInt 64 1).toNat = 1 from rfl, Nat.and_one_is_mod, IntKind.wrap_i64]
  omega
theorem half (n j : Nat) : n / 2 ^ j = 2 * (n / 2 ^ (j + 1)) + n / 2 ^ j % 2 := by
  rw [Nat.pow_succ, ← Nat.div_div_eq_div_mul]; omega

def PowInv (w : World) (ba : Bool) (A : Option Addr) (ka ca : Nat) (r : Int) (wr : World) : Prop :=
  ∃ b A1 k1 c1, Row wr w.heap.size 72 [.bool ba, .slice A ka ca] ∧ Row wr (w.heap.size + 1) 72 [.bool false, .slice none 0 0] ∧ Row wr (w.heap.size + 1 + 1 + 1) 72 [.bool b, .slice A1 k1 c1] ∧
    Hid (b = decide (r < 0)) ∧ NatV wr (.slice A1 k1 c1) r.natAbs ∧ Ext w wr
theorem NumV.mk' {w : World} {b : Bool} {sz : Value} {n : Int} (hb : Hid (b = decide (n < 0))) (hz : NatV w sz n.natAbs) : NumV w (.agg #[.bool b, sz]) n := ⟨sz, b, rfl, hb, hz⟩
/-- the variable is overwritten -/
theorem PowInv.put {w wr w' : World} {ba b b' : Bool} {A A1 A2 : Option Addr} {ka ca k1 c1 k2 c2 : Nat} {r : Int} (h0 : Row wr w.heap.size 72 [.bool ba, .slice A ka ca]) (h1 : Row wr (w.heap.size + 1) 72 [.bool false, .slice none 0 0])
    (h2 : Row wr (w.heap.size + 1 + 1 + 1) 72 [.bool b, .slice A1 k1 c1]) (hw : Ext w wr) (hx : Ext wr w') (hb : Hid (b' = decide (r < 0))) (hz : NatV w' (.slice A2 k2 c2) r.natAbs) :
    let W := (w'.setCell ⟨w.heap.size + 1 + 1 + 1, 0, none⟩ (.bool b')).setCell ⟨w.heap.size + 1 + 1 + 1, 1, none⟩ (.slice A2 k2 c2)
    Row W w.heap.size 72 [.bool ba, .slice A ka ca] ∧ Row W (w.heap.size + 1) 72 [.bool false, .slice none 0 0] ∧ Row W (w.heap.size + 1 + 1 + 1) 72 [.bool b', .slice A2 k2 c2] ∧ NatV W (.slice A2 k2 c2) r.natAbs ∧ Ext w W := by
  have r0 := h0.ext hx
  have r1 := h1.ext hx
  have r2 := h2.ext hx
  exact ⟨(r0.far (by show _ ≠ w.heap.size + 1 + 1 + 1; omega) _).far (by show _ ≠ w.heap.size + 1 + 1 + 1; omega) _, (r1.far (by show _ ≠ w.heap.size + 1 + 1 + 1; omega) _).far (by show _ ≠ w.heap.size + 1 + 1 + 1; omega) _, (r2.set 0 (.bool b')).set 1 (.slice A2 k2 c2), hz.two r2,
    ((hw.step hx).set' (by show _ ≤ w.heap.size + 1 + 1 + 1; omega) _).set' (by show _ ≤ w.heap.size + 1 + 1 + 1; omega) _⟩
def PowPost (m : Int) (n : Nat) (w : World) (e : Ending) (w' : World) : Prop :=
  ∃ v r, e = .returned v ∧ NumV w' v r ∧ r.natAbs ≤ BIG ∧ (r = m ^ n ∨ (¬ K.fits r ∧ ¬ K.fits (m ^ n))) ∧ Ext w w'
/-- the variable becomes the result -/
theorem PowPost.stored {w W : World} {b : Bool} {A1 : Option Addr} {k1 c1 : Nat} {m r : Int} {n : Nat} (r1 : Row W (w.heap.size + 1) 72 [.bool false, .slice none 0 0]) (hb : Hid (b = decide (r < 0))) (hz : NatV W (.slice A1 k1 c1) r.natAbs) (he : Ext w W)
    (hB : r.natAbs ≤ BIG) (hr : r = m ^ n ∨ (¬ K.fits r ∧ ¬ K.fits (m ^ n))) :
    PowPost m n w (.returned (.agg #[.bool b, .slice A1 k1 c1])) ((W.setCell ⟨w.heap.size + 1, 0, none⟩ (.bool b)).setCell ⟨w.heap.size + 1, 1, none⟩ (.slice A1 k1 c1)) :=
  ⟨_, r, rfl, NumV.mk' hb (hz.two r1), hB, hr, (he.set' (by show _ ≤ w.heap.size + 1; omega) _).set' (by show _ ≤ w.heap.size + 1; omega) _⟩
end Go.Proofs.YtbmmilhinbfahaaDoor
/- num.combine, Add, Sub, Mul, Gcd -/
namespace Go.Proofs.YtbmmilhinbfahaaDoor
open Go.RowKit
theorem enter_of {P : Program} {f : FuncId} {fn : Func} (hf : P.funcs[f]? = some fn) (hname : (fn.name == "runtime.NumGoroutine") = false) (hb : fn.body.isSome = true) (args : Array Value) (w : World) :
    (callFunc f args).run P w = .ok (.enter f args) w := by
  obtain ⟨c, hc⟩ := Option.isSome_iff_exists.1 hb
  have h1 : fn.name ≠ "runtime.NumGoroutine" := by simpa using hname
  simp [callFunc, hf, h1, hc]
def BadStr (w : World) (e : Ending) (w' : World) : Prop := e = .returned (.tuple #[.string ⟨#[]⟩, .int .i64 1]) ∧ Ext w w'
theorem told_step {n : Int} {w w1 : World} {e : Ending} {w' : World} (h : Ext w w1) (k : ToldPost n w1 e w') : ToldPost n w e w' := ⟨k.1, k.2.1, h.step k.2.2⟩
end Go.Proofs.YtbmmilhinbfahaaDoor
/- num.Compare, Power, Rest -/
namespace Go.Proofs.YtbmmilhinbfahaaDoor
open Go.RowKit
end Go.Proofs.YtbmmilhinbfahaaDoor
/- num.Divide -/
namespace Go.Proofs.YtbmmilhinbfahaaDoor
open Go.RowKit
def Bad2 (k : Int) (w : World) (e : Ending) (w' : World) : Prop := e = .returned (.tuple #[.string ⟨#[]⟩, .string ⟨#[]⟩, .int .i64 k]) ∧ Ext w w'
def DivOk (q r : Int) (w : World) (e : Ending) (w' : World) : Prop := e = .returned (.tuple #[.string (Str (K.txt q)), .string (Str (K.txt r)), .int .i64 0]) ∧ Ext w w'
end Go.Proofs.YtbmmilhinbfahaaDoor
/- katabasisref01.Valid -/
namespace Go.Proofs.YtbmmilhinbfahaaDoor
open Go.RowKit
theorem Str_list (l : List UInt8) : (Str l).toList = l := Str_toList l
theorem ne_lit {c d : UInt8} (h : ¬ c = d) : ((c.toNat : Int) == (d.toNat : Int)) = false := by
  rw [beq_eq_false_iff_ne]; intro e; exact h (UInt8.toNat.inj (by omega))
/-- the loop over the digits from 'a' on -/
theorem all_drop {l : List UInt8} {a k : Nat} {c : UInt8} (hk : a ≤ k) (h : l[k]? = some c) (ha : ((l.take k).drop a).all K.dig = true) (hc : K.dig c = true) : ((l.take (k + 1)).drop a).all K.dig = true := by
  obtain ⟨hk', e⟩ := List.getElem?_eq_some_iff.1 h
  rw [List.take_succ_eq_append_getElem hk', e, List.drop_append_of_le_length (by rw [List.length_take]; omega), List.all_append, ha]
  simp [hc]
theorem all_drop_false {l : List UInt8} {a k : Nat} {c : UInt8} (hk : a ≤ k) (h : l[k]? = some c) (hc : K.dig c = false) : (l.drop a).all K.dig = false := by
  rw [List.all_eq_false]
  refine ⟨c, ?_, by simp [hc]⟩
  apply List.mem_of_getElem? (i := k - a)
  rw [List.getElem?_drop, show a + (k - a) = k by omega]
  exact h
theorem body_drop (l : List UInt8) : K.body l = l.drop (if l.head? = some 45 then 1 else 0) := by
  unfold K.body; split <;> simp
end Go.Proofs.YtbmmilhinbfahaaDoor
/- the law package's helpers: texts of numbers, Power at two inputs -/
namespace Go.Proofs.YtbmmilhinbfahaaDoor
open Go.RowKit
def told (n : Int) : List UInt8 := if n.natAbs < K.LIM then K.txt n else []
theorem told_fits {n : Int} (h : K.fits n) : told n = K.txt n := if_pos h
theorem told_not {n : Int} (h : ¬ K.fits n) : told n = [] := if_neg h
theorem told_len (n : Int) : (told n).length ≤ 2001 := by
  by_cases h : K.fits n
  · rw [told_fits h]; exact K.txt_len n h
  · rw [told_not h]; simp
def sL (a b : List UInt8) : List UInt8 := if K.validL a = true ∧ K.validL b = true then told (K.numL a + K.numL b) else []
def mL (a b : List UInt8) : List UInt8 := if K.validL a = true ∧ K.validL b = true then told (K.numL a * K.numL b) else []
theorem sL_len (a b : List UInt8) : (sL a b).length ≤ 2001 := by unfold sL; split; exact told_len _; simp
theorem mL_len (a b : List UInt8) : (mL a b).length ≤ 2001 := by unfold mL; split; exact told_len _; simp
theorem not_both {a b : List UInt8} (h : ¬ (K.validL a = true ∧ K.validL b = true)) : K.validL a = false ∨ K.validL b = false := by
  cases h1 : K.validL a <;> cases h2 : K.validL b <;> simp_all
theorem told_any (n : Int) (w : World) {e : Ending} {w' : World} (h : ToldPost n w e w') : ∃ c : Int, e = .returned (.tuple #[.string (Str (told n)), .int .i64 c]) := by
  by_cases hf : K.fits n
  · exact ⟨0, by rw [told_fits hf]; exact h.1 hf⟩
  · exact ⟨3, by rw [told_not hf]; exact h.2.1 hf⟩
def tw (k : Nat) : Nat := 2 ^ k
theorem natAbs_two (k : Nat) : ((2 : Int) ^ k).natAbs = tw k := by unfold tw; rw [Int.natAbs_pow]; rfl
theorem tw_big : K.LIM ≤ tw 10000 := by decide +kernel
theorem not_fits_tw : ¬ K.fits ((2 : Int) ^ 10000) := by
  unfold K.fits; rw [natAbs_two]; exact Nat.not_lt.mpr tw_big
def L100 : List UInt8 := [49, 50, 54, 55, 54, 53, 48, 54, 48, 48, 50, 50, 56, 50, 50, 57, 52, 48, 49, 52, 57, 54, 55, 48, 51, 50, 48, 53, 51, 55, 54]
theorem L100_ok : K.validL L100 = true := by decide +kernel
theorem L100_num : K.numL L100 = (2 : Int) ^ 100 := by decide +kernel
theorem lit_eq {l : List UInt8} {n : Int} (h : K.validL l = true) (e : K.numL l = n) : K.fits n ∧ K.txt n = l := by
  subst e; exact ⟨(K.txt_numL l h).2, (K.txt_numL l h).1⟩
end Go.Proofs.YtbmmilhinbfahaaDoor
/- maps: plain mathematics -/
namespace Go.Proofs.YtbmmilhinbfahaaDoor
/-- a rule of a map, at the rest r -/
def ruleP (m r u a : Int) : Prop := 1 ≤ u ∧ u ≤ 999 ∧ -999999 ≤ a ∧ a ≤ 999999 ∧ (u * r + a) % m = 0
instance (n : Int) : Decidable (K.fits n) := by unfold K.fits; infer_instance
instance (m r u a : Int) : Decidable (ruleP m r u a) := by unfold ruleP; infer_instance
def ruleB (m r u a : Int) : Bool := decide (ruleP m r u a)
/-- a valid map -/
def mapP (m : Int) (us ad : List Int) : Prop := 2 ≤ m ∧ m ≤ 12 ∧ (us.length : Int) = m ∧ (ad.length : Int) = m ∧ ∀ r : Nat, r < us.length → ruleP m r (us.getD r 0) (ad.getD r 0)
def mapB (m : Int) (us ad : List Int) : Bool := decide (2 ≤ m ∧ m ≤ 12 ∧ (us.length : Int) = m ∧ (ad.length : Int) = m) && (List.range us.length).all fun r => ruleB m (r : Int) (us.getD r 0) (ad.getD r 0)
theorem mapB_iff (m : Int) (us ad : List Int) : mapB m us ad = true ↔ mapP m us ad := by
  unfold mapB mapP ruleB
  simp only [Bool.and_eq_true, decide_eq_true_eq, List.all_eq_true, List.mem_range]
  constructor
  · rintro ⟨⟨h1, h2, h3, h4⟩, h5⟩; exact ⟨h1, h2, h3, h4, fun r hr => h5 r hr⟩
  · rintro ⟨h1, h2, h3, h4, h5⟩; exact ⟨⟨h1, h2, h3, h4⟩, fun r hr => h5 r hr⟩
theorem tmod_zero {x m : Int} : x.tmod m = 0 ↔ x % m = 0 := by
  rw [← Int.dvd_iff_tmod_eq_zero, Int.dvd_iff_emod_eq_zero]
/-- a step of a map -/
def rOf (m x : Int) : Nat := (x % m).toNat
def stepI (m : Int) (us ad : List Int) (x : Int) : Int := (us.getD (rOf m x) 0 * x + ad.getD (rOf m x) 0) / m
theorem rOf_lt {m x : Int} (h : 0 < m) : (rOf m x : Int) < m ∧ (rOf m x : Int) = x % m := by
  have h1 := Int.emod_nonneg x (show m ≠ 0 by omega)
  have h2 := Int.emod_lt_of_pos x h
  unfold rOf; omega
theorem rule_at {m : Int} {us ad : List Int} (h : mapP m us ad) (x : Int) : ruleP m (rOf m x) (us.getD (rOf m x) 0) (ad.getD (rOf m x) 0) := by
  have h1 := rOf_lt (m := m) (x := x) (by have := h.1; omega)
  exact h.2.2.2.2 _ (by have := h.2.2.1; omega)
/-- the step, by the quotient and the rest -/
theorem stepI_parts {m : Int} {us ad : List Int} (h : mapP m us ad) (x : Int) :
    stepI m us ad x = us.getD (rOf m x) 0 * (x / m) + (us.getD (rOf m x) 0 * (rOf m x : Int) + ad.getD (rOf m x) 0) / m := by
  have hm : 0 < m := by have := h.1; omega
  have h1 := (rOf_lt (m := m) (x := x) hm).2
  unfold stepI
  generalize us.getD (rOf m x) 0 = u
  generalize ad.getD (rOf m x) 0 = a
  rw [h1]
  have h2 : u * x + a = (u * (x % m) + a) + m * (u * (x / m)) := by
    have := Int.mul_ediv_add_emod x m
    have h3 : u * x = u * (m * (x / m)) + u * (x % m) := by rw [← Int.mul_add, this]
    have h4 : u * (m * (x / m)) = m * (u * (x / m)) := by rw [← Int.mul_assoc, Int.mul_comm u m, Int.mul_assoc]
    rw [h3, h4]; omega
  rw [h2, Int.add_mul_ediv_left _ _ (by omega)]
  omega
def fitsB (n : Int) : Bool := decide (K.fits n)
theorem fitsB_yes {n : Int} (h : K.fits n) : fitsB n = true := decide_eq_true h
theorem fitsB_no {n : Int} (h : ¬ K.fits n) : fitsB n = false := decide_eq_false h
theorem fitsB_iff {n : Int} : fitsB n = true ↔ K.fits n := decide_eq_true_iff
/-- the number after some steps, if all of them fit -/
def runO (m : Int) (us ad : List Int) : Nat → Int → Option Int
  | 0, x => some x
  | k + 1, x => if fitsB (stepI m us ad x) = true then runO m us ad k (stepI m us ad x) else none
theorem runO_succ {m : Int} {us ad : List Int} {k : Nat} {x : Int} : runO m us ad (k + 1) x = if fitsB (stepI m us ad x) = true then runO m us ad k (stepI m us ad x) else none := rfl
theorem runO_add (m : Int) (us ad : List Int) : ∀ (k l : Nat) (x : Int), runO m us ad (k + l) x = (runO m us ad k x).bind (runO m us ad l)
  | 0, l, x => by rw [Nat.zero_add]; rfl
  | k + 1, l, x => by
    rw [show k + 1 + l = k + l + 1 by omega, runO_succ, runO_succ]
    split
    · exact runO_add m us ad k l _
    · rfl
theorem runO_snoc (m : Int) (us ad : List Int) (k : Nat) (x : Int) : runO m us ad (k + 1) x = (runO m us ad k x).bind fun y => if fitsB (stepI m us ad y) = true then some (stepI m us ad y) else none := by
  rw [runO_add]; rfl
theorem runO_fits {m : Int} {us ad : List Int} (k : Nat) : ∀ (x y : Int), K.fits x → runO m us ad k x = some y → K.fits y := by
  induction k with
  | zero =>
    intro x y hx h
    have h2 : some x = some y := h
    rw [Option.some.inj h2] at hx
    exact hx
  | succ k ih =>
    intro x y _ h
    rw [runO_succ] at h
    by_cases hf : fitsB (stepI m us ad x) = true
    · rw [if_pos hf] at h
      exact ih _ _ (fitsB_iff.1 hf) h
    · rw [if_neg hf] at h
      exact absurd h (by simp)
/-- the quotient outweighs what is added -/
theorem sum_mono {u q c : Int} (hu : 1 ≤ u) (hq : 2 * c.natAbs ≤ q.natAbs) : ((u - 1) * q).natAbs ≤ (u * q + c).natAbs ∧ ((u - 1) * q + c).natAbs ≤ (u * q + c).natAbs := by
  have e : u * q = (u - 1) * q + q := by rw [Int.sub_mul]; omega
  rw [e]
  obtain ⟨v, hv⟩ := Int.eq_ofNat_of_zero_le (show 0 ≤ u - 1 by omega)
  rw [hv]
  generalize hp : (v : Int) * q = p
  have hs : 0 ≤ q → 0 ≤ p := fun h => by rw [← hp]; exact Int.mul_nonneg (by omega) h
  have hs2 : q ≤ 0 → p ≤ 0 := fun h => by rw [← hp]; exact Int.mul_nonpos_of_nonneg_of_nonpos (by omega) h
  rcases Int.le_total 0 q with h | h
  · have := hs h; omega
  · have := hs2 h; omega
end Go.Proofs.YtbmmilhinbfahaaDoor
/- Contracts of the library, laid over this dump's numbers. -/
namespace Go.Proofs.YtbmmilhinbfahaaDoor.ShelfB
open Go.Shelf Go.Proofs
def l_laysM173_ren : Go.Shelf.Ren := ⟨fun | 173 => 39 | 246 => 47 | 283 => 67 | 284 => 68 | 285 => 69 | 286 => 70 | 129 => 57 | 317 => 79 | 318 => 80 | 319 => 81 | 320 => 82 | 337 => 85 | 338 => 86 | n => n, fun | 2 => 2 | 3 => 3 | 9 => 9 | 4 => 4 | 171 => 103 | 0 => 0 | 53 => 75 | 37 => 105 | 5 => 5 | 173 => 106 | 212 => 117 | 51 => 94 | 20 => 20 | 213 => 118 | 46 => 80 | 232 => 123 | 233 => 124 | n => n, fun | 17 => 0 | 18 => 1 | 19 => 2 | n => n⟩
theorem l_laysM173 : Go.Proofs.LaysM.n173 Tryd.prog l_laysM173_ren := {
  mixed := by kernel_rfl
  f129 := Tryd.func57.trans (congrArg some (by kernel_rfl))
  f173 := Tryd.func39.trans (congrArg some (by kernel_rfl))
  f246 := Tryd.func47.trans (congrArg some (by kernel_rfl))
  f283 := Tryd.func67.trans (congrArg some (by kernel_rfl))
  f284 := Tryd.func68.trans (congrArg some (by kernel_rfl))
  f285 := Tryd.func69.trans (congrArg some (by kernel_rfl))
  f286 := Tryd.func70.trans (congrArg some (by kernel_rfl))
  f317 := Tryd.func79.trans (congrArg some (by kernel_rfl))
  f318 := Tryd.func80.trans (congrArg some (by kernel_rfl))
  f319 := Tryd.func81.trans (congrArg some (by kernel_rfl))
  f320 := Tryd.func82.trans (congrArg some (by kernel_rfl))
  f337 := Tryd.func85.trans (congrArg some (by kernel_rfl))
  f338 := Tryd.func86.trans (congrArg some (by kernel_rfl))
  t0 := Tryd.underlying0
  a0 := Tryd.isAgg0
  z0 := Tryd.sizeOf0
  v0 := Tryd.zeroValue0
  t2 := Tryd.underlying2
  a2 := Tryd.isAgg2
  z2 := Tryd.sizeOf2
  v2 := Tryd.zeroValue2
  t3 := Tryd.underlying3
  a3 := Tryd.isAgg3
  z3 := Tryd.sizeOf3
  v3 := Tryd.zeroValue3
  t4 := Tryd.underlying4
  a4 := Tryd.isAgg4
  z4 := Tryd.sizeOf4
  v4 := Tryd.zeroValue4
  t5 := Tryd.underlying5
  a5 := Tryd.isAgg5
  z5 := Tryd.sizeOf5
  v5 := Tryd.zeroValue5
  t9 := Tryd.underlying9
  a9 := Tryd.isAgg9
  z9 := Tryd.sizeOf9
  v9 := Tryd.zeroValue9
  t20 := Tryd.underlying20
  a20 := Tryd.isAgg20
  z20 := Tryd.sizeOf20
  v20 := Tryd.zeroValue20
  t37 := Tryd.underlying105
  a37 := Tryd.isAgg105
  z37 := Tryd.sizeOf105
  v37 := Tryd.zeroValue105
  t46 := Tryd.underlying80
  a46 := Tryd.isAgg80
  z46 := Tryd.sizeOf80
  v46 := Tryd.zeroValue80
  t51 := Tryd.underlying94
  a51 := Tryd.isAgg94
  z51 := Tryd.sizeOf94
  v51 := Tryd.zeroValue94
  t53 := Tryd.underlying75
  a53 := Tryd.isAgg75
  z53 := Tryd.sizeOf75
  v53 := Tryd.zeroValue75
  t171 := Tryd.underlying103
  a171 := Tryd.isAgg103
  z171 := Tryd.sizeOf103
  v171 := Tryd.zeroValue103
  t173 := Tryd.underlying106
  a173 := Tryd.isAgg106
  z173 := Tryd.sizeOf106
  v173 := Tryd.zeroValue106
  t212 := Tryd.underlying117
  a212 := Tryd.isAgg117
  z212 := Tryd.sizeOf117
  v212 := Tryd.zeroValue117
  t213 := Tryd.underlying118
  a213 := Tryd.isAgg118
  z213 := Tryd.sizeOf118
  t232 := Tryd.underlying123
  a232 := Tryd.isAgg123
  z232 := Tryd.sizeOf123
  v232 := Tryd.zeroValue123
  t233 := Tryd.underlying124
  a233 := Tryd.isAgg124
  z233 := Tryd.sizeOf124
  v233 := Tryd.zeroValue124
  g17 := by kernel_rfl
  g18 := by kernel_rfl
  g19 := by kernel_rfl
  i0 := by kernel_rfl
  i2 := by kernel_rfl
  i3 := by kernel_rfl
  i4 := by kernel_rfl
  i5 := by kernel_rfl
  i9 := by kernel_rfl
  i20 := by kernel_rfl
  i37 := by kernel_rfl
  i46 := by kernel_rfl
  i51 := by kernel_rfl
  i53 := by kernel_rfl
  i171 := by kernel_rfl
  i173 := by kernel_rfl
  i212 := by kernel_rfl
  i232 := by kernel_rfl
  i233 := by kernel_rfl
  m17 := by kernel_rfl
  m18 := by kernel_rfl
  m19 := by kernel_rfl }
open Go.RowKit Go.Sort Go.Lib in
theorem l_strconv_FormatInt_10 (n : Int) (h0 : -9223372036854775808 ≤ n) (h1 : n ≤ 9223372036854775807) (w : World) (htab : Lib.TabIs Tryd.prog w "internal/strconv.uint64pow10" .u64 Lib.pow10Tab) :
    Calls Tryd.prog 39 #[.int .i64 n, .int .i64 10] w fun e w' => e = .returned (.string ⟨(Lib.itoa n).toArray⟩) ∧ ∃ k os, w' = grow (w.drewN k) os := Any.strconv_FormatInt_10 l_laysM173 n h0 h1 w htab
end Go.Proofs.YtbmmilhinbfahaaDoor.ShelfB
/- numbers as texts by the library: Itoa, FormatInt, ParseInt, Atoi, in the words of K -/
namespace Go.Proofs.YtbmmilhinbfahaaDoor
open Go.RowKit
theorem itoa_txt (n : Int) : Lib.itoa n = K.txt n := by
  unfold Lib.itoa K.txt
  split
  · rw [decDigits_dgs]
  · rw [decDigits_dgs]; congr 1; omega
theorem dv_cons (c : UInt8) (r : List UInt8) : K.dv (c :: r) = K.dv r + 10 ^ r.length * (c.toNat - 48) := by
  have h := K.dv_append [c] r
  rw [List.singleton_append] at h
  have h2 := K.dv_snoc [] c
  rw [List.nil_append, K.dv_nil] at h2
  rw [h, show K.dv [c] = c.toNat - 48 by omega]
theorem dig_mem {c : UInt8} {r : List UInt8} (h : (c :: r).all K.dig = true) : (48 ≤ c.toNat ∧ c.toNat ≤ 57) ∧ r.all K.dig = true := by
  rw [List.all_cons, Bool.and_eq_true] at h
  exact ⟨by have := h.1; unfold K.dig at this; simpa using this, h.2⟩
theorem parseM_ok : ∀ (l : List UInt8) (acc : Nat), l.all K.dig = true → (acc + 1) * 10 ^ l.length ≤ 1000000000000000000 → Lib.parseUintM 18446744073709551615 acc l = .ok (acc * 10 ^ l.length + K.dv l)
  | [], acc, _, _ => by rw [Lib.parseUintM, K.dv_nil]; simp
  | c :: r, acc, hd, hb => by
    obtain ⟨hc, hr⟩ := dig_mem hd
    have hp : 1 ≤ 10 ^ r.length := Nat.pow_pos (by omega)
    have e : (acc + 1) * 10 ^ (c :: r).length = ((acc + 1) * 10) * 10 ^ r.length := by rw [List.length_cons, Nat.pow_succ, Nat.mul_comm (10 ^ r.length) 10, Nat.mul_assoc]
    rw [e] at hb
    have h1 : (acc + 1) * 10 ≤ 1000000000000000000 := Nat.le_trans (Nat.le_mul_of_pos_right _ hp) hb
    rw [Lib.parseUintM, if_pos hc, if_neg (by omega), if_neg (by omega)]
    have h2 : (acc * 10 + (c.toNat - 48) + 1) * 10 ^ r.length ≤ 1000000000000000000 := Nat.le_trans (Nat.mul_le_mul_right _ (by omega)) hb
    rw [parseM_ok r _ hr h2, dv_cons, List.length_cons, Nat.pow_succ, Nat.add_mul, Nat.mul_assoc, Nat.mul_comm 10 (10 ^ r.length), Nat.mul_comm (c.toNat - 48)]
    congr 1
    omega
theorem decFrom_ok : ∀ (l : List UInt8) (acc : Nat), l.all K.dig = true → Lib.decFrom acc l = some (acc * 10 ^ l.length + K.dv l)
  | [], acc, _ => by rw [Lib.decFrom, K.dv_nil]; simp
  | c :: r, acc, hd => by
    obtain ⟨hc, hr⟩ := dig_mem hd
    rw [Lib.decFrom]
    have e : Lib.digitVal c = some (c.toNat - 48) := by unfold Lib.digitVal; rw [if_pos hc]
    rw [e]
    show Lib.decFrom (acc * 10 + (c.toNat - 48)) r = _
    rw [decFrom_ok r _ hr, dv_cons, List.length_cons, Nat.pow_succ, Nat.add_mul, Nat.mul_assoc, Nat.mul_comm 10 (10 ^ r.length), Nat.mul_comm (c.toNat - 48)]
    congr 1
    omega
/-- a valid text, by its sign -/
theorem valid_shape {l : List UInt8} (h : K.validL l = true) : (∃ r, l = 45 :: r ∧ r.all K.dig = true ∧ 0 < r.length ∧ K.numL l = -(K.dv r : Int)) ∨ (∃ c r, l = c :: r ∧ 48 ≤ c.toNat ∧ c.toNat ≤ 57 ∧ (c :: r).all K.dig = true ∧ K.numL l = (K.dv (c :: r) : Int)) := by
  obtain ⟨hd, -, hpos⟩ := body_all h
  cases l with
  | nil => cases h
  | cons c r =>
    by_cases hc : c = 45
    · subst hc
      have hb : K.body (45 :: r) = r := rfl
      rw [hb] at hd hpos
      exact .inl ⟨r, rfl, hd, hpos, rfl⟩
    · have hh : ¬ (c :: r).head? = some 45 := by simpa using hc
      have hb : K.body (c :: r) = c :: r := by unfold K.body; rw [if_neg hh]
      rw [hb] at hd
      obtain ⟨h1, -⟩ := dig_mem hd
      exact .inr ⟨c, r, rfl, h1.1, h1.2, hd, by unfold K.numL; rw [if_neg hh]⟩
theorem parse64_ok {l : List UInt8} (h : K.validL l = true) (hl : l.length ≤ 17) : Lib.parseIntB 64 l = .ok (K.numL l) := by
  have hp : ∀ r : List UInt8, r.all K.dig = true → r.length ≤ 17 → K.dv r < 1000000000000000000 ∧ (0 + 1) * 10 ^ r.length ≤ 1000000000000000000 := by
    intro r hr hlr
    have h1 := K.dv_lt r hr
    have h2 : 10 ^ r.length ≤ 10 ^ 17 := Nat.pow_le_pow_right (by omega) hlr
    omega
  rcases valid_shape h with ⟨r, rfl, hr, h0, hn⟩ | ⟨c, r, rfl, h1, h2, hr, hn⟩
  · obtain ⟨h3, h4⟩ := hp r hr (by rw [List.length_cons] at hl; omega)
    have hne : r ≠ [] := List.length_pos_iff.1 h0
    have e : Lib.parseUintB 64 r = .ok (K.dv r) := by
      unfold Lib.parseUintB
      rw [if_neg hne]
      have := parseM_ok r 0 hr h4
      rw [Nat.zero_mul, Nat.zero_add] at this
      exact this
    rw [hn]
    show Lib.parseIntB 64 (45 :: r) = _
    unfold Lib.parseIntB
    simp only [e, show (45 : UInt8).toNat = 45 from rfl]
    rw [if_pos (.inr trivial), e]
    show (if ¬True ∧ 2 ^ (64 - 1) ≤ K.dv r then Lib.NumEnd.range else if True ∧ 2 ^ (64 - 1) < K.dv r then Lib.NumEnd.range else Lib.NumEnd.ok (if True then -(K.dv r : Int) else (K.dv r : Int))) = _
    have p63 : (2 : Nat) ^ (64 - 1) = 9223372036854775808 := rfl
    rw [p63, if_neg (by simp), if_neg (by simp; omega), if_pos trivial]
  · obtain ⟨h3, h4⟩ := hp (c :: r) hr hl
    have e : Lib.parseUintB 64 (c :: r) = .ok (K.dv (c :: r)) := by
      unfold Lib.parseUintB
      rw [if_neg (by simp)]
      have := parseM_ok (c :: r) 0 hr h4
      rw [Nat.zero_mul, Nat.zero_add] at this
      exact this
    rw [hn]
    unfold Lib.parseIntB
    have n1 : ¬ (c.toNat = 43 ∨ c.toNat = 45) := by omega
    have n2 : ¬ c.toNat = 45 := by omega
    simp only [n2]
    rw [if_neg (by simp; omega), e]
    show (if ¬False ∧ 2 ^ (64 - 1) ≤ K.dv (c :: r) then Lib.NumEnd.range else if False ∧ 2 ^ (64 - 1) < K.dv (c :: r) then Lib.NumEnd.range else Lib.NumEnd.ok (if False then -(K.dv (c :: r) : Int) else (K.dv (c :: r) : Int))) = _
    have p63 : (2 : Nat) ^ (64 - 1) = 9223372036854775808 := rfl
    rw [p63, if_neg (by simp; omega), if_neg (by simp), if_neg (by simp)]
theorem atoi_ok {l : List UInt8} (h : K.validL l = true) : Lib.atoi l = some (K.numL l) := by
  rcases valid_shape h with ⟨r, rfl, hr, h0, hn⟩ | ⟨c, r, rfl, h1, h2, hr, hn⟩
  · have hne : r.isEmpty = false := by cases r with
      | nil => simp at h0
      | cons => rfl
    rw [hn]
    unfold Lib.atoi Lib.decNat
    simp [hne, decFrom_ok r 0 hr]
  · rw [hn]
    have n1 : (c == 45) = false := by rw [beq_eq_false_iff_ne]; intro e; subst e; simp at h1
    have n2 : (c == 43) = false := by rw [beq_eq_false_iff_ne]; intro e; subst e; simp at h1
    unfold Lib.atoi Lib.decNat
    simp [n1, n2, decFrom_ok (c :: r) 0 hr]
theorem data_Str (l : List UInt8) : (Str l).data.toList = l := by simp [Str]
theorem format_any (n : Int) (w : World) (h0 : -9223372036854775808 ≤ n) (h1 : n ≤ 9223372036854775807) (ht : Tab w) :
    Calls Tryd.prog 39 #[.int .i64 n, .int .i64 10] w (StrPost (K.txt n) w) := by
  refine (ShelfB.l_strconv_FormatInt_10 n h0 h1 w ht).mono ?_
  rintro e w' ⟨rfl, k, os, rfl⟩
  exact ⟨by rw [itoa_txt]; rfl, Lib.below_grow _ _ (Nat.le_refl _) _ _⟩
end Go.Proofs.YtbmmilhinbfahaaDoor
/- the reference's trim -/
namespace Go.Proofs.YtbmmilhinbfahaaDoor
open Go.RowKit
/-- a number of the reference's -/
def RefV (w : World) (v : Value) (n : Int) : Prop :=
  ∃ A k c xs b, v = .agg #[.bool b, .slice A k c] ∧ Hid (b = decide (n < 0)) ∧ xs.length = k ∧ k ≤ c ∧ Rd w A (I64s xs) ∧ K.Lim xs ∧ K.lv xs = n.natAbs
theorem RefV.ext {w w' : World} {v : Value} {n : Int} (h : RefV w v n) (e : Ext w w') : RefV w' v n := by
  obtain ⟨A, k, c, xs, b, h1, h2, h3, h4, h5, h6⟩ := h
  exact ⟨A, k, c, xs, b, h1, h2, h3, h4, h5.ext e, h6⟩
def RefPost (n : Int) (w : World) (e : Ending) (w' : World) : Prop := ∃ v, e = .returned v ∧ RefV w' v n ∧ Ext w w'
/-- what trim leaves -/
def RTrimPost (neg : Bool) (A : Option Addr) (c : Nat) (xs : List Nat) (w : World) (e : Ending) (w' : World) : Prop :=
  ∃ k b, k ≤ xs.length ∧ e = .returned (.agg #[.bool b, .slice A k c]) ∧ Hid (b = (neg && decide (0 < k))) ∧ Cut xs (xs.take k) ∧ Ext w w'
end Go.Proofs.YtbmmilhinbfahaaDoor
/- the reference's Parse and Sign -/
namespace Go.Proofs.YtbmmilhinbfahaaDoor
open Go.RowKit
/-- one group more -/
theorem seg_step (l : List UInt8) (f E j : Nat) (hf : f < E) (hE : E + 9 * j = l.length) :
    K.dv (l.drop (max f (E - 9))) = K.dv (l.drop E) + 1000000000 ^ j * K.dv ((l.take E).drop (max f (E - 9))) := by
  have h : l.drop (max f (E - 9)) = (l.take E).drop (max f (E - 9)) ++ l.drop E := by
    conv => lhs; rw [← List.take_append_drop E l]
    rw [List.drop_append_of_le_length (by rw [List.length_take]; omega)]
  rw [h, K.dv_append, List.length_drop, show l.length - E = 9 * j by omega, pow9]
theorem seg_digit (l : List UInt8) (s i : Nat) (c : UInt8) (hs : s ≤ i) (hc : l[i]? = some c) : K.dv ((l.take (i + 1)).drop s) = (c.toNat - 48) + 10 * K.dv ((l.take i).drop s) := by
  obtain ⟨hi, e⟩ := List.getElem?_eq_some_iff.1 hc
  rw [List.take_succ_eq_append_getElem hi, List.drop_append_of_le_length (by rw [List.length_take]; omega), e, K.dv_snoc]
theorem seg_lt (l : List UInt8) (f s i k : Nat) (hd : (l.drop f).all K.dig = true) (hs : f ≤ s) (hk : i - s ≤ k) : K.dv ((l.take i).drop s) < 10 ^ k := by
  have h1 := K.dv_lt ((l.take i).drop s) (by
    rw [List.all_eq_true] at hd ⊢
    intro x hx
    apply hd
    rw [List.mem_iff_getElem?] at hx ⊢
    obtain ⟨j, hj⟩ := hx
    rw [List.getElem?_drop, List.getElem?_take] at hj
    split at hj
    · exact ⟨s - f + j, by rw [List.getElem?_drop, ← hj]; congr 1; omega⟩
    · cases hj)
  exact Nat.lt_of_lt_of_le h1 (Nat.pow_le_pow_right (by omega) (by rw [List.length_drop, List.length_take]; omega))
theorem dig_at {l : List UInt8} {f i : Nat} {c : UInt8} (hd : (l.drop f).all K.dig = true) (hf : f ≤ i) (hc : l[i]? = some c) : 48 ≤ c.toNat ∧ c.toNat ≤ 57 := by
  rw [List.all_eq_true] at hd
  have := hd c (by rw [List.mem_iff_getElem?]; exact ⟨i - f, by rw [List.getElem?_drop, ← hc]; congr 1; omega⟩)
  unfold K.dig at this
  simpa using this
theorem lv_snoc (xs : List Nat) (x : Nat) : K.lv (xs ++ [x]) = K.lv xs + 1000000000 ^ xs.length * x := by
  rw [K.lv_append]; simp [K.lv]
end Go.Proofs.YtbmmilhinbfahaaDoor
/- the reference's part and more -/
namespace Go.Proofs.YtbmmilhinbfahaaDoor
open Go.RowKit
theorem lv_getD (xs : List Nat) (j : Nat) : K.lv (xs.drop j) = xs.getD j 0 + 1000000000 * K.lv (xs.drop (j + 1)) := by
  by_cases hj : j < xs.length
  · have ex := List.getElem?_eq_getElem hj
    rw [drop_at ex, List.getD_eq_getElem?_getD, ex]; rfl
  · rw [List.drop_of_length_le (by omega), List.drop_of_length_le (by omega), List.getD_eq_getElem?_getD, List.getElem?_eq_none (by omega)]; rfl
theorem getD_lt {xs : List Nat} (h : ∀ x ∈ xs, x < 1000000000) (j : Nat) : xs.getD j 0 < 1000000000 := by
  rw [List.getD_eq_getElem?_getD]
  by_cases hj : j < xs.length
  · rw [List.getElem?_eq_getElem hj]; exact h _ (List.getElem_mem hj)
  · rw [List.getElem?_eq_none (by omega)]; simp
/-- a list of parts in memory, not yet trimmed -/
def Parts (n : Nat) (w : World) (e : Ending) (w' : World) : Prop :=
  ∃ A k c zs, e = .returned (.slice A k c) ∧ zs.length = k ∧ k ≤ c ∧ k ≤ 100002 ∧ Rd w' A (I64s zs) ∧ (∀ z ∈ zs, z < 1000000000) ∧ K.lv zs = n ∧ Ext w w'
end Go.Proofs.YtbmmilhinbfahaaDoor
/- the reference's size -/
namespace Go.Proofs.YtbmmilhinbfahaaDoor
open Go.RowKit
end Go.Proofs.YtbmmilhinbfahaaDoor
/- the reference's less -/
namespace Go.Proofs.YtbmmilhinbfahaaDoor
open Go.RowKit
theorem less_step (X Y Z P x y z bw bw' X' Y' : Nat) (h : X + P * (bw + (y + 1000000000 * Y')) = Z + P * (x + 1000000000 * X') + Y) (hz : x + 1000000000 * bw' = z + y + bw) :
    X + P * 1000000000 * (bw' + Y') = Z + P * z + P * 1000000000 * X' + Y := by
  have k := congrArg (P * ·) hz
  simp only [Nat.mul_add] at h k ⊢
  have e1 : P * (1000000000 * Y') = P * 1000000000 * Y' := (Nat.mul_assoc ..).symm
  have e2 : P * (1000000000 * X') = P * 1000000000 * X' := (Nat.mul_assoc ..).symm
  have e3 : P * (1000000000 * bw') = P * 1000000000 * bw' := (Nat.mul_assoc ..).symm
  rw [e1, e2] at h
  rw [e3] at k
  omega
end Go.Proofs.YtbmmilhinbfahaaDoor
/- plain facts on lists of parts: a part that is set; products, quotients and digits by rounds -/
namespace Go.Proofs.YtbmmilhinbfahaaDoor
theorem lv_set : ∀ (xs : List Nat) (j v : Nat), j < xs.length → K.lv (xs.set j v) + 1000000000 ^ j * xs.getD j 0 = K.lv xs + 1000000000 ^ j * v
  | [], j, v, h => by simp at h
  | x :: r, 0, v, _ => by simp [K.lv]; omega
  | x :: r, j + 1, v, h => by
    have ih := lv_set r j v (by simpa using h)
    have e1 : 1000000000 ^ j * 1000000000 * r.getD j 0 = 1000000000 * (1000000000 ^ j * r.getD j 0) := by rw [Nat.mul_comm (1000000000 ^ j), Nat.mul_assoc]
    have e2 : 1000000000 ^ j * 1000000000 * v = 1000000000 * (1000000000 ^ j * v) := by rw [Nat.mul_comm (1000000000 ^ j), Nat.mul_assoc]
    simp only [List.set_cons_succ, List.getD_cons_succ, K.lv, Nat.pow_succ, e1, e2]
    omega
/-- one round of a product -/
theorem mul_step {Os : List Nat} {p c x y Y' T o s : Nat} (hp : p < Os.length) (ho : Os.getD p 0 = o) (hs : s = o + x * y + c) (h : K.lv Os + 1000000000 ^ p * (c + x * (y + 1000000000 * Y')) = T) :
    K.lv (Os.set p (s % 1000000000)) + 1000000000 ^ (p + 1) * (s / 1000000000 + x * Y') = T := by
  have h1 := lv_set Os p (s % 1000000000) hp
  rw [ho] at h1
  have h2 : 1000000000 ^ p * (s % 1000000000) + 1000000000 ^ p * 1000000000 * (s / 1000000000) = 1000000000 ^ p * s := by
    rw [Nat.mul_assoc, ← Nat.mul_add, Nat.mod_add_div]
  have h3 : 1000000000 ^ p * s = 1000000000 ^ p * o + 1000000000 ^ p * (x * y) + 1000000000 ^ p * c := by rw [hs, Nat.mul_add, Nat.mul_add]
  have h4 : x * (1000000000 * Y') = 1000000000 * (x * Y') := by rw [← Nat.mul_assoc, Nat.mul_comm x, Nat.mul_assoc]
  rw [Nat.mul_add x, h4, Nat.mul_add, Nat.mul_add, ← Nat.mul_assoc (1000000000 ^ p) 1000000000] at h
  rw [Nat.pow_succ, Nat.mul_add]
  omega
theorem lv_take_at {xs : List Nat} {i x : Nat} (h : xs[i]? = some x) : K.lv (xs.take (i + 1)) = K.lv (xs.take i) + 1000000000 ^ i * x := by
  obtain ⟨hi, e⟩ := List.getElem?_eq_some_iff.1 h
  rw [List.take_succ_eq_append_getElem hi, e, lv_snoc, List.length_take, Nat.min_eq_left (by omega)]
theorem set_lt {xs : List Nat} (h : ∀ x ∈ xs, x < 1000000000) {j v : Nat} (hv : v < 1000000000) : ∀ x ∈ xs.set j v, x < 1000000000 := by
  intro x hx
  rcases List.mem_or_eq_of_mem_set hx with h1 | h1
  · exact h x h1
  · omega
theorem lv_lt' (xs : List Nat) (h : ∀ x ∈ xs, x < 1000000000) : K.lv xs < 1000000000 ^ xs.length := K.lv_lt xs h
/-- where a carry is left, the place lies within the row -/
theorem mul_place {L p c Y T i m a b : Nat} (h : L + 1000000000 ^ p * (c + Y) = T) (hc : 0 < c) (hT : T = a * b) (ha : a < 1000000000 ^ i) (hb : b < 1000000000 ^ m) : p < i + m := by
  have h1 : 1000000000 ^ p ≤ 1000000000 ^ p * (c + Y) := Nat.le_mul_of_pos_right _ (by omega)
  have h2 : a * b < 1000000000 ^ i * 1000000000 ^ m := Nat.mul_lt_mul'' ha hb
  rw [← Nat.pow_add] at h2
  rcases Nat.lt_or_ge p (i + m) with h | h
  · exact h
  · have := Nat.pow_le_pow_right (n := 1000000000) (by omega) h
    omega
end Go.Proofs.YtbmmilhinbfahaaDoor
/- the reference's Minus -/
namespace Go.Proofs.YtbmmilhinbfahaaDoor
open Go.RowKit
end Go.Proofs.YtbmmilhinbfahaaDoor
/- the reference's Add -/
namespace Go.Proofs.YtbmmilhinbfahaaDoor
open Go.RowKit
theorem RefV.two {w : World} {A1 : Option Addr} {H k1 c1 : Nat} {t : TypeId} {x : Bool} {a b : Value} {A : Option Addr} {xs : List Nat} (h : Rd w A (I64s xs)) (r : Row w H t [.bool x, .slice A1 k1 c1]) :
    Rd ((w.setCell ⟨H, 0, none⟩ a).setCell ⟨H, 1, none⟩ b) A (I64s xs) :=
  h.two (by intro u hu; obtain ⟨y, _, rfl⟩ := List.mem_map.1 hu; exact ⟨_, _, rfl⟩) r
end Go.Proofs.YtbmmilhinbfahaaDoor
/- the reference's Mul -/
namespace Go.Proofs.YtbmmilhinbfahaaDoor
open Go.RowKit
theorem I64s_put {w : World} {g : Nat} {t : TypeId} {Os : List Nat} (h : Row w g t (I64s Os)) (j v : Nat) : Row (w.setCell ⟨g, j, none⟩ (.int .i64 (v : Int))) g t (I64s (Os.set j v)) := by
  have := h.set j (.int .i64 (v : Int))
  rwa [I64s_set] at this
theorem at_of_getD {Os : List Nat} {j : Nat} (h : j < Os.length) : Os[j]? = some (Os.getD j 0) := by
  rw [List.getD_eq_getElem?_getD, List.getElem?_eq_getElem h]; rfl
end Go.Proofs.YtbmmilhinbfahaaDoor
/- the reference's Add, of any two numbers -/
namespace Go.Proofs.YtbmmilhinbfahaaDoor
open Go.RowKit
theorem lim_len {xs ys : List Nat} (hx : K.Lim xs) (hy : K.Lim ys) (h : K.lv ys ≤ K.lv xs) : ys.length ≤ xs.length := by
  rcases Nat.lt_or_ge xs.length ys.length with hl | hl
  · have h1 := K.lv_lt xs hx.1
    have h2 := hy.ge (by intro e; subst e; simp at hl)
    have h3 : 1000000000 ^ xs.length ≤ 1000000000 ^ (ys.length - 1) := Nat.pow_le_pow_right (by omega) (by omega)
    omega
  · exact hl
end Go.Proofs.YtbmmilhinbfahaaDoor
/- the reference's Sub -/
namespace Go.Proofs.YtbmmilhinbfahaaDoor
open Go.RowKit
end Go.Proofs.YtbmmilhinbfahaaDoor
/- the reference's Sign; Parse of a valid text -/
namespace Go.Proofs.YtbmmilhinbfahaaDoor
open Go.RowKit
def sgn0 (n : Int) : Int := if n = 0 then 0 else if n < 0 then -1 else 1
theorem valid_len {l : List UInt8} (h : K.validL l = true) : l.length ≤ 2001 := by
  rw [← (K.txt_numL l h).1]; exact K.txt_len _ (K.txt_numL l h).2
end Go.Proofs.YtbmmilhinbfahaaDoor
/- the reference's Cmp -/
namespace Go.Proofs.YtbmmilhinbfahaaDoor
open Go.RowKit
theorem sgn0_lt {a b : Int} (h : ¬ sgn0 a = sgn0 b) : (sgn0 a < sgn0 b → sgnI a b = -1) ∧ (¬ sgn0 a < sgn0 b → sgnI a b = 1) := by
  unfold sgn0 at *; unfold sgnI
  repeat' (split at h)
  all_goals (constructor <;> intro h2 <;> simp_all <;> omega)
theorem sgn0_eq {a b : Int} (h : sgn0 a = sgn0 b) : (a < 0 → sgn b.natAbs a.natAbs = sgnI a b) ∧ (¬ a < 0 → sgn a.natAbs b.natAbs = sgnI a b) := by
  have h2 : (a < 0 ↔ b < 0) ∧ (a = 0 ↔ b = 0) := by
    unfold sgn0 at h
    repeat' (split at h)
    all_goals (constructor <;> omega)
  unfold sgn sgnI
  constructor <;> intro h3 <;> (repeat' split) <;> omega
end Go.Proofs.YtbmmilhinbfahaaDoor
/- the reference's Text -/
namespace Go.Proofs.YtbmmilhinbfahaaDoor
open Go.RowKit
theorem text_end (bs : List UInt8) (N : Nat) (hd : bs.all K.dig = true) (hv : K.dvl bs = N) (hne : bs ≠ []) (hl : bs.getLast? ≠ some 48) : K.dgs N = bs.reverse := by
  have h := K.dgs_dv bs.reverse (by simpa using hne) (by simpa using hd) (fun e => absurd (by simpa using e) hl)
  rwa [K.dv, List.reverse_reverse, hv] at h
theorem text_step (bs : List UInt8) (N p r m : Nat) (h : K.dvl bs + 10 ^ m * (p + 10 * r) = N) (hm : bs.length = m) (c : UInt8) (hc : c.toNat = 48 + p % 10) :
    K.dvl (bs ++ [c]) + 10 ^ (m + 1) * (p / 10 + r) = N := by
  rw [K.dvl_append, hm]
  have e1 : K.dvl [c] = p % 10 := by simp [K.dvl, hc]
  rw [e1, ← h, Nat.pow_succ, Nat.mul_assoc, Nat.add_assoc, ← Nat.mul_add]
  congr 2
  omega
theorem Bytes_snoc (bs : List UInt8) (c : UInt8) : Bytes (bs ++ [c]) = Bytes bs ++ [.int .u8 (c.toNat : Int)] := by simp [Bytes]
theorem Rd.byte {w : World} {A : Option Addr} {l : List UInt8} (h : Rd w A (Bytes l)) {k : Nat} {x : UInt8} (hx : l[k]? = some x) :
    ∃ b o, A = some ⟨b, o, none⟩ ∧ w.cell? ⟨b, o + k, none⟩ = some (.int .u8 (x.toNat : Int)) := by
  rcases h with h | ⟨b, o, ha, hb, hc⟩
  · have : l = [] := by simpa [Bytes] using h
    subst this; simp at hx
  · exact ⟨b, o, ha, hc k _ (by simp [Bytes, hx])⟩
/-- what stands while a number is written, before limb i -/
def TxO (xs : List Nat) (N i m : Nat) (bs : List UInt8) : Prop :=
  bs.length = m ∧ bs.all K.dig = true ∧ (i < xs.length → m = 9 * i ∧ K.dvl bs + 10 ^ (9 * i) * K.lv (xs.drop i) = N) ∧ (i = xs.length → K.dvl bs = N ∧ bs ≠ [] ∧ bs.getLast? ≠ some 48)
/-- .. inside limb i, t digits of it written, p left -/
def TxI (xs : List Nat) (N i t p : Nat) (bs : List UInt8) : Prop :=
  bs.length = 9 * i + t ∧ bs.all K.dig = true ∧ K.dvl bs + 10 ^ (9 * i + t) * (p + 10 ^ (9 - t) * K.lv (xs.drop (i + 1))) = N ∧ p < 10 ^ (9 - t) ∧ (i + 1 = xs.length → 0 < p ∨ (bs ≠ [] ∧ bs.getLast? ≠ some 48))
theorem TxO.enter {xs : List Nat} {N i m x : Nat} {bs : List UInt8} (h : TxO xs N i m bs) (hL : K.Lim xs) (hx : xs[i]? = some x) : m = 9 * i ∧ TxI xs N i 0 x bs := by
  obtain ⟨hi, hxe⟩ := List.getElem?_eq_some_iff.1 hx
  obtain ⟨h1, h2, h3, _⟩ := h
  obtain ⟨h3, h4⟩ := h3 hi
  have hlt : x < 1000000000 := hL.1 x (by rw [← hxe]; exact List.getElem_mem hi)
  refine ⟨h3, by omega, h2, ?_, hlt, fun e => ?_⟩
  · rw [drop_at hx] at h4; exact h4
  · left
    apply Nat.pos_of_ne_zero
    intro e0
    apply hL.2
    rw [List.getLast?_eq_getElem?, show xs.length - 1 = i by omega, hx, e0]
theorem TxI.step {xs : List Nat} {N i t p : Nat} {bs : List UInt8} (h : TxI xs N i t p bs) (ht : t < 9) (hx : 0 < p ∨ i + 1 < xs.length) : TxI xs N i (t + 1) (p / 10) (bs ++ [K.chr (p % 10)]) := by
  obtain ⟨h1, h2, h3, h4, h5⟩ := h
  have hp : 10 ^ (9 - t) = 10 * 10 ^ (9 - (t + 1)) := by rw [← Nat.pow_succ']; congr 1; omega
  have hc := K.chr_toNat (n := p % 10) (by omega)
  refine ⟨by simp; omega, ?_, ?_, ?_, fun e => ?_⟩
  · rw [List.all_append, h2]; simp [K.dig_chr (n := p % 10) (by omega)]
  · rw [hp, Nat.mul_assoc] at h3
    exact text_step bs N p _ (9 * i + t) h3 h1 _ hc
  · rw [hp] at h4; omega
  · by_cases h0 : 0 < p / 10
    · exact .inl h0
    · right
      refine ⟨by simp, ?_⟩
      rw [List.getLast?_append]
      simp only [List.getLast?_singleton, Option.some_or]
      intro e2
      have e3 : (K.chr (p % 10)).toNat = 48 := by rw [Option.some.inj e2]; rfl
      rw [hc] at e3
      omega
theorem TxI.leave {xs : List Nat} {N i t p : Nat} {bs : List UInt8} (h : TxI xs N i t p bs) (hi : i < xs.length) (ht : t ≤ 9) (hx : ¬ (t < 9 ∧ (0 < p ∨ i + 1 < xs.length))) : TxO xs N (i + 1) (9 * i + t) bs := by
  obtain ⟨h1, h2, h3, h4, h5⟩ := h
  have hp : p = 0 := by
    by_cases h9 : t = 9
    · subst h9; simp at h4; exact h4
    · omega
  subst hp
  refine ⟨h1, h2, fun e => ?_, fun e => ?_⟩
  · obtain rfl : t = 9 := by omega
    refine ⟨by omega, ?_⟩
    simpa [Nat.mul_add] using h3
  · rw [List.drop_of_length_le (by omega)] at h3
    simp [K.lv] at h3
    exact ⟨h3, (h5 e).resolve_left (by omega)⟩
end Go.Proofs.YtbmmilhinbfahaaDoor
/- the reference's Digits, Fits, Told -/
namespace Go.Proofs.YtbmmilhinbfahaaDoor
open Go.RowKit
def cnt (p : Nat) : Nat := if p = 0 then 0 else (K.dgs p).length
theorem cnt_pos {p : Nat} (h : 0 < p) : cnt p = cnt (p / 10) + 1 := by
  unfold cnt
  rw [if_neg (by omega)]
  by_cases h1 : p < 10
  · rw [K.dgs_small h1, if_pos (by omega)]; rfl
  · rw [K.dgs_big h1, if_neg (by omega)]; simp
theorem cnt_le (p : Nat) (h : p < 1000000000) : cnt p ≤ 9 := by
  unfold cnt
  split
  · omega
  · exact (K.dgs_len p 9 (by omega)).2 h
theorem dgs_top {xs : List Nat} {top : Nat} {j : Nat} (hL : K.Lim xs) (hl : xs.length = j + 1) (ht : xs[j]? = some top) : 0 < top ∧ (K.dgs (K.lv xs)).length = 9 * j + cnt top := by
  have e := lv_take_at ht
  rw [List.take_of_length_le (by omega)] at e
  have h0 : 0 < top := by
    rcases Nat.eq_zero_or_pos top with h | h
    · exfalso
      apply hL.2
      rw [List.getLast?_eq_getElem?, hl, Nat.add_sub_cancel, ht, h]
    · exact h
  have h1 : K.lv (xs.take j) < 1000000000 ^ j := by
    have := K.lv_lt (xs.take j) (fun z hz => hL.1 z (List.mem_of_mem_take hz))
    rwa [List.length_take, Nat.min_eq_left (by omega)] at this
  have hc : cnt top = (K.dgs top).length := if_neg (by omega)
  refine ⟨h0, ?_⟩
  have hp : (1000000000 : Nat) ^ j = 10 ^ (9 * j) := by rw [Nat.pow_mul]
  rw [hp] at e h1
  have hct : 1 ≤ cnt top := by rw [cnt_pos h0]; omega
  have up : (K.dgs (K.lv xs)).length ≤ 9 * j + cnt top := by
    refine (K.dgs_len _ _ (by omega)).2 ?_
    have ht2 : top < 10 ^ cnt top := (K.dgs_len top _ hct).1 (by omega)
    rw [e, Nat.pow_add]
    have : 10 ^ (9 * j) * (top + 1) ≤ 10 ^ (9 * j) * 10 ^ cnt top := Nat.mul_le_mul_left _ ht2
    rw [Nat.mul_add] at this
    omega
  have lo : ¬ (K.dgs (K.lv xs)).length ≤ 9 * j + cnt top - 1 := by
    intro h
    by_cases hz : 1 ≤ 9 * j + cnt top - 1
    · have h2 := (K.dgs_len _ _ hz).1 h
      by_cases h3 : cnt top = 1
      · have h4 : 10 ^ (9 * j) * 1 ≤ 10 ^ (9 * j) * top := Nat.mul_le_mul_left _ h0
        rw [h3, show 9 * j + 1 - 1 = 9 * j by omega] at h2
        omega
      · have h4 : ¬ top < 10 ^ (cnt top - 1) := by
          intro h5
          have := (K.dgs_len top (cnt top - 1) (by omega)).2 h5
          omega
        have h5 : 10 ^ (9 * j) * 10 ^ (cnt top - 1) ≤ 10 ^ (9 * j) * top := Nat.mul_le_mul_left _ (by omega)
        rw [← Nat.pow_add, show 9 * j + (cnt top - 1) = 9 * j + cnt top - 1 by omega] at h5
        omega
    · have := len_pos' (K.dgs_ne (K.lv xs))
      omega
  omega
where
  len_pos' {a : List UInt8} (h : a ≠ []) : 0 < a.length := List.length_pos_iff.2 h
theorem fits_digits (n : Int) : (K.fits n ↔ ((K.dgs n.natAbs).length : Int) ≤ 2000) := by rw [K.fits_len]; omega
theorem top_succ (k : Nat) : TOP (k + 1) = TOP k * 1000000000 := TOP_add k 1
theorem add_big {a b : Int} (ha : K.fits a) (hb : K.fits b) : (a + b).natAbs ≤ BIG := by
  have h1 := fits_top ha
  have h2 := fits_top hb
  have h3 := top_succ 223
  exact le_big (a := 223 + 1) (by omega) (by omega)
theorem sub_big {a b : Int} (ha : K.fits a) (hb : K.fits b) : (a - b).natAbs ≤ BIG := by
  have h1 := fits_top ha
  have h2 := fits_top hb
  have h3 := top_succ 223
  exact le_big (a := 223 + 1) (by omega) (by omega)
theorem mul_big {a b : Int} (ha : K.fits a) (hb : K.fits b) : (a * b).natAbs ≤ BIG := by
  rw [Int.natAbs_mul]
  exact le_big (mul_top (fits_top ha) (fits_top hb)) (by omega)
end Go.Proofs.YtbmmilhinbfahaaDoor
/- the reference's Of, at a number that is not negative -/
namespace Go.Proofs.YtbmmilhinbfahaaDoor
open Go.RowKit
end Go.Proofs.YtbmmilhinbfahaaDoor
/- the reference's Of at 1, and Part -/
namespace Go.Proofs.YtbmmilhinbfahaaDoor
open Go.RowKit
theorem row_facts {w : World} {g : Nat} {t : TypeId} {a b : Value} (h : Row w g t [a, b]) : w.cell? ⟨g, 0, none⟩ = some a ∧ w.cell? ⟨g, 1, none⟩ = some b ∧ w.frozen? ⟨g, 0, none⟩ = false ∧ w.frozen? ⟨g, 1, none⟩ = false :=
  ⟨by rw [h.cell]; rfl, by rw [h.cell]; rfl, h.free 0, h.free 1⟩
/-- a number and a small one -/
def NumInt (q r : Int) (w : World) (e : Ending) (w' : World) : Prop := ∃ v, e = .returned (.tuple #[v, .int .i64 r]) ∧ RefV w' v q ∧ Ext w w'
theorem part_step {d x Q r X s : Nat} (h : d * Q + r = X) (hs : s = r * 1000000000 + x) : d * (s / d + 1000000000 * Q) + s % d = x + 1000000000 * X := by
  have h1 := Nat.div_add_mod s d
  rw [Nat.mul_add, ← h, Nat.mul_add, ← Nat.mul_assoc, Nat.mul_comm d 1000000000, Nat.mul_assoc]
  omega
theorem drop_set {l : List Nat} {j v : Nat} (h : j < l.length) : (l.set j v).drop j = v :: l.drop (j + 1) := by
  rw [List.drop_set, if_neg (Nat.lt_irrefl j), Nat.sub_self]
  rw [List.drop_eq_getElem_cons h]; rfl
theorem NumInt.stored {w w3 : World} {q r : Int} {b : Bool} {A : Option Addr} {k c H : Nat} {t : TypeId} (r1 : Row w3 H t [.bool false, .slice none 0 0]) (hw : Ext w w3) (hH : w.heap.size ≤ H) (hv : RefV w3 (.agg #[.bool b, .slice A k c]) q) :
    NumInt q r w (.returned (.tuple #[.agg #[.bool b, .slice A k c], .int .i64 r])) ((w3.setCell ⟨H, 0, none⟩ (.bool b)).setCell ⟨H, 1, none⟩ (.slice A k c)) := by
  obtain ⟨A', k', c', xs, b', e, h1, h2, h3, h4, h5, h6⟩ := hv
  cases e
  exact ⟨_, rfl, ⟨_, _, _, xs, _, rfl, h1, h2, h3, RefV.two h4 r1, h5, h6⟩, (hw.set' (by show _ ≤ H; omega) _).set' (by show _ ≤ H; omega) _⟩
end Go.Proofs.YtbmmilhinbfahaaDoor
/- maps in memory; step.validRule -/
namespace Go.Proofs.YtbmmilhinbfahaaDoor
open Go.RowKit
abbrev Is (l : List Int) : List Value := l.map fun (x : Int) => Value.int .i64 x
theorem Rd.atI {w : World} {A : Option Addr} {l : List Int} (h : Rd w A (Is l)) {k : Nat} (hk : k < l.length) :
    ∃ b o, A = some ⟨b, o, none⟩ ∧ b < w.heap.size ∧ w.cell? ⟨b, o + k, none⟩ = some (.int .i64 (l.getD k 0)) := by
  rcases h with h | ⟨b, o, ha, hb, hc⟩
  · rw [List.map_eq_nil_iff] at h; subst h; cases hk
  · refine ⟨b, o, ha, hb, hc k _ ?_⟩
    rw [List.getElem?_map, List.getElem?_eq_getElem hk, List.getD_eq_getElem?_getD, List.getElem?_eq_getElem hk]; rfl
/-- a map in memory -/
def MapV (w : World) (v : Value) (m : Int) (us ad : List Int) : Prop :=
  ∃ A k c B l d, v = .agg #[.int .i64 m, .slice A k c, .slice B l d] ∧ us.length = k ∧ k ≤ c ∧ ad.length = l ∧ l ≤ d ∧ Rd w A (Is us) ∧ Rd w B (Is ad) ∧ k ≤ 140737488351232 ∧ l ≤ 140737488351232
/-- a map whose lists can be copied -/
def Fit8 (v : Value) : Prop := ∀ m A k c B l d, v = .agg #[.int .i64 m, .slice A k c, .slice B l d] → k * 8 ≤ 140737488355328 ∧ l * 8 ≤ 140737488355328
theorem MapV.ext {w w' : World} {v : Value} {m : Int} {us ad : List Int} (h : MapV w v m us ad) (e : Ext w w') : MapV w' v m us ad := by
  obtain ⟨A, k, c, B, l, d, h1, h2, h3, h4, h5, h6, h7, h8⟩ := h
  exact ⟨A, k, c, B, l, d, h1, h2, h3, h4, h5, h6.ext e, h7.ext e, h8⟩
/-- the box of a map -/
theorem three_facts {W w' : World} {a b c : Value} {t : TypeId} {H : Nat} (e : Ext (W.alloc (.cells #[a, b, c] t)) w') (hH : W.heap.size = H) :
    w'.cell? ⟨H, 0, none⟩ = some a ∧ w'.cell? ⟨H, 1, none⟩ = some b ∧ w'.cell? ⟨H, 2, none⟩ = some c ∧ Row w' H t [a, b, c] := by
  subst hH
  have r : Row w' W.heap.size t [a, b, c] := (Row.new W t [a, b, c]).ext e
  exact ⟨by rw [r.cell]; rfl, by rw [r.cell]; rfl, by rw [r.cell]; rfl, r⟩
set_option maxRecDepth 100000 in
set_option maxHeartbeats 800000 in
theorem validRule_any (m r u a : Int) (w : World) (hm : 2 ≤ m) (hm2 : m ≤ 12) (hr : 0 ≤ r) (hr2 : r < m) {b : Bool} (hb : Hid (ruleB m r u a = b)) :
    Calls Tryd.prog 26 #[.int .i64 m, .int .i64 r, .int .i64 u, .int .i64 a] w (fun e w' => e = .returned (.bool b) ∧ w = w') := by
  have hno : ∀ (_ : ¬ ruleP m r u a), Hid (b = false) := fun h => hid (by rw [← hb.out]; exact decide_eq_false h)
  by_cases h1 : u < 1
  · have HF := hno (fun h => by unfold ruleP at h; omega)
    clear hno hb
    go_enter Tryd.func26, Tryd.ntmps26
    go_wp2
    go_ret
    exact ⟨by rw [HF.out]; rfl, rfl⟩
  · by_cases h2 : 999 < u
    · have HF := hno (fun h => by unfold ruleP at h; omega)
      clear hno hb
      go_enter Tryd.func26, Tryd.ntmps26
      go_wp2
      go_ret
      exact ⟨by rw [HF.out]; rfl, rfl⟩
    · by_cases h3 : a < -999999
      · have HF := hno (fun h => by unfold ruleP at h; omega)
        clear hno hb
        go_enter Tryd.func26, Tryd.ntmps26
        go_wp2
        go_ret
        exact ⟨by rw [HF.out]; rfl, rfl⟩
      · by_cases h4 : 999999 < a
        · have HF := hno (fun h => by unfold ruleP at h; omega)
          clear hno hb
          go_enter Tryd.func26, Tryd.ntmps26
          go_wp2
          go_ret
          exact ⟨by rw [HF.out]; rfl, rfl⟩
        · have hp : 0 ≤ u * r ∧ u * r ≤ 10989 := by
            refine ⟨Int.mul_nonneg (by omega) hr, ?_⟩
            have := Int.mul_le_mul (show u ≤ 999 by omega) (show r ≤ 11 by omega) hr (by omega)
            omega
          obtain ⟨q, hq⟩ : ∃ q, u * r = q := ⟨_, rfl⟩
          rw [hq] at hp
          have hp1 := hp.1
          have hp2 := hp.2
          have HQ := hid hq
          have HF : Hid (((q + a).tmod m == 0) = b) := hid (by
            rw [← hb.out, Bool.eq_iff_iff]
            unfold ruleB
            rw [beq_iff_eq, decide_eq_true_iff, tmod_zero]
            unfold ruleP
            rw [hq]
            constructor
            · intro h; exact ⟨by omega, by omega, by omega, by omega, h⟩
            · intro h; exact h.2.2.2.2)
          clear hno hb hp
          go_enter Tryd.func26, Tryd.ntmps26
          go_wp2
          go_ret
          exact ⟨by show Ending.returned (.bool ((q + a).tmod m == 0)) = _; rw [HF.out], rfl⟩
end Go.Proofs.YtbmmilhinbfahaaDoor
