/- Joined texts: num.read; num.readBoth; (number).gcd; (number).power; (number).power: the walk. -/
import Derived.Test.YtoilkfohhhidpaaDoorJCNumDivides06
import Derived.Deep.LoopGhost
/- num.read -/
namespace Go.Proofs.YtoilkfohhhidpaaDoor
open Go.RowKit
/-- the iterator in block b stands at pos -/
def setIt (w : World) (b : Nat) (s : ByteArray) (pos : Nat) : World := { w with heap := w.heap.setIfInBounds b (.stringIter s pos) }
theorem run_next_at {P : Program} (w : World) (b : Nat) (s : ByteArray) (pos : Nat) (ty : TypeId) (hb : w.heap[b]? = some (.stringIter s pos)) (h : pos < s.size) (ha : (s[pos]'h).toNat < 128) :
    (Instr.next (.pointer (some ⟨b, 0, none⟩)) true ty).run P w = .ok (.tuple #[.bool true, .int .i64 pos, .int .i32 (s[pos]'h).toNat]) (setIt w b s (pos + 1)) := by
  simp only [Instr.next, getObj, setObj, Sem.run_bind, Sem.run, hb, Result.andThen, h, if_true, decode_ascii s pos h ha, setIt]
  simp [goInt, Sem.run, hb]
theorem run_next_done {P : Program} (w : World) (b : Nat) (s : ByteArray) (pos : Nat) (ty : TypeId) (hb : w.heap[b]? = some (.stringIter s pos)) (h : ¬ pos < s.size) :
    (Instr.next (.pointer (some ⟨b, 0, none⟩)) true ty).run P w = .ok (.tuple #[.bool false]) w := by
  simp [Instr.next, getObj, Sem.run, hb, h]
theorem setIt_same {w : World} {b : Nat} {s : ByteArray} {pos pos' : Nat} (hb : w.heap[b]? = some (.stringIter s pos')) : (setIt w b s pos).heap[b]? = some (.stringIter s pos) := by
  have hl : b < w.heap.size := by
    rcases Nat.lt_or_ge b w.heap.size with hl | hl
    · exact hl
    · rw [Array.getElem?_eq_none hl] at hb; cases hb
  unfold setIt
  simp [Array.getElem?_setIfInBounds, hl]
theorem setIt_other {w : World} {b k : Nat} {s : ByteArray} {pos : Nat} (hk : k ≠ b) : (setIt w b s pos).heap[k]? = w.heap[k]? := by
  unfold setIt
  rw [Array.getElem?_setIfInBounds, if_neg (fun e => hk e.symm)]
theorem Ext.setIt {a w : World} (h : Ext a w) {b : Nat} (hb : a.heap.size ≤ b) (s : ByteArray) (pos : Nat) : Ext a (setIt w b s pos) :=
  ⟨h.os, h.tape, h.output, by unfold Proofs.YtoilkfohhhidpaaDoor.setIt; simpa using h.size, fun k hk => (setIt_other (by omega)).trans (h.block k hk)⟩
theorem setCell_heap {w : World} {a : Addr} {u : Value} {k : Nat} (h : k ≠ a.block) : (w.setCell a u).heap[k]? = w.heap[k]? := Below.heap_setCell w a u k h
def ReadPost (l : List UInt8) (w : World) (e : Ending) (w' : World) : Prop :=
  (K.validL l = true → ∃ v, e = .returned (.tuple #[v, .int .i64 0]) ∧ NumV w' v (K.numL l)) ∧ (K.validL l = false → e = .returned (.tuple #[.agg #[.bool false, .slice none 0 0], .int .i64 1])) ∧ Ext w w'
theorem body_all {l : List UInt8} (h : K.validL l = true) : (K.body l).all K.dig = true ∧ (K.body l).length ≤ 2000 ∧ 0 < (K.body l).length := by
  have e := (K.txt_numL l h).1
  have h2 := (K.fits_len _).1 (K.txt_numL l h).2
  rw [← e, K.body_txt]
  exact ⟨K.dgs_dig _, h2, K.len_pos (K.dgs_ne _)⟩
theorem body_val {l : List UInt8} (h : K.validL l = true) : K.dv (K.body l) = (K.numL l).natAbs ∧ (K.body l).length + (if K.numL l < 0 then 1 else 0) = l.length := by
  have e := (K.txt_numL l h).1
  constructor
  · conv => lhs; rw [← e]
    rw [K.body_txt, K.dv_dgs]
  · conv => lhs; lhs; rw [← e]
    conv => rhs; rw [← e]
    rw [K.body_txt]
    unfold K.txt
    split <;> simp
set_option maxRecDepth 100000 in
set_option maxHeartbeats 1600000 in
theorem read_ok (l : List UInt8) (w : World) (hl : l.length ≤ 140737488351232) (hv : K.validL l = true) :
    Calls Tryd.prog 64 #[.string (Str l)] w (fun e w' => (∃ v, e = .returned (.tuple #[v, .int .i64 0]) ∧ NumV w' v (K.numL l)) ∧ Ext w w') := by
  obtain ⟨hd, hlen, hpos⟩ := body_all hv
  obtain ⟨hval, hll⟩ := body_val hv
  have HV := hid hv
  have HD := hid hd
  have HVL := hid hval
  obtain ⟨b, hb⟩ : ∃ b, K.body l = b := ⟨_, rfl⟩
  obtain ⟨L, hL⟩ : ∃ L, b.length = L := ⟨_, rfl⟩
  rw [hb] at hd hlen hpos hll
  rw [hL] at hlen hpos hll
  have HB := hid hb
  have HL := hid hL
  have s1 := Str_size l
  have s2 : (Str b).size = L := by rw [Str_size, hL]
  have hE1 : Ext w (w.alloc (.cells #[.bool false, .slice none 0 0] 72)) := (Ext.rfl' w).alloc' _
  have HE1 := hid hE1
  have hmk := fun w => mkNat ((L + 8) / 9) (((L : Int) + 9 - 1) / 9) (by omega) (by omega) w
  have hrev : (b.reverse).all K.dig = true := by simpa using hd
  have HR := hid hrev
  have hneg : (decide ((L : Int) < (l.length : Int))) = decide (K.numL l < 0) := by
    rw [Bool.eq_iff_iff]; simp only [decide_eq_true_eq]; split at hll <;> omega
  have HN := hid hneg
  clear hv hd hval hb hL hE1 hrev hneg hll
  go_enter Tryd.func64, Tryd.ntmps64
  go_wp2_with fail
  refine (valid_any l _ hl).mono ?_
  rintro e w1 ⟨rfl, hx1⟩
  rw [HV.out]
  go_wp2_with fail
  refine (trimPrefix_any _ _).mono ?_
  rintro e w2 ⟨rfl, rfl⟩
  rw [HB.out]
  obtain ⟨m, hm⟩ : ∃ m, (L + 8) / 9 = m := ⟨_, rfl⟩
  have hLm : L ≤ 9 * m := by omega
  have hm3 : m ≤ 300 := by omega
  have hE2 : Ext w w1 := HE1.out.step hx1
  obtain ⟨-, -, -, -, -, hr0⟩ := two_facts (W := w) (H := w.heap.size) hx1 rfl
  have HM := hid hm
  have HX2 := hid hE2
  have HR0 := hid hr0
  have HX1 := hid hx1
  clear hE2 hr0 hm
  go_wp2_with fail
  rw [HM.out]
  have hrow0 : Row ((w1.alloc (.cells (madeCells #[.int .u64 0] m) 91)).iter (Str b) 0) w1.heap.size 91 (U64s (grps b.reverse L m)) := by
    have h1 := (Row.made w1 91 (.int .u64 0) m).alloc (.stringIter (Str b) 0)
    rw [U64s_zeros] at h1
    have h2 := grps_start b.reverse m
    rw [List.length_reverse, HL.out] at h2
    rw [h2]
    exact h1
  have hit0 : ((w1.alloc (.cells (madeCells #[.int .u64 0] m) 91)).iter (Str b) 0).heap[w1.heap.size + 1]? = some (.stringIter (Str b) 0) := by
    have h := World.iter_heap (w1.alloc (.cells (madeCells #[.int .u64 0] m) 91)) (Str b) 0
    simpa using h
  have hext0 : Ext w1 ((w1.alloc (.cells (madeCells #[.int .u64 0] m) 91)).iter (Str b) 0) := ((Ext.rfl' w1).alloc' _).step (Ext.iter _ _ _)
  clear hmk
  go_loopw [5] (fun left wr => ∃ k pos : Nat, Hid (pos + k = L) ∧ k ≤ L ∧ left = .int .i64 k ∧ wr.heap[w1.heap.size + 1]? = some (.stringIter (Str b) pos) ∧ Row wr w1.heap.size 91 (U64s (grps b.reverse k m)) ∧ Ext w1 wr) (fun left _ => (intOf left).toNat)
  case atStart => exact ⟨L, 0, hid (by omega), by omega, rfl, hit0, hrow0, hext0⟩
  case round =>
    obtain ⟨k, pos, hpk, hkL, rfl, hit, hrow, hext⟩ := hrel
    clear hrow0 hit0 hext0
    by_cases hk0 : 0 < k
    · obtain ⟨p, rfl⟩ : ∃ p, k = p + 1 := ⟨k - 1, by omega⟩
      obtain ⟨x, ex⟩ : ∃ x, b[pos]? = some x := ⟨_, List.getElem?_eq_getElem (by rw [HL.out]; have := hpk.out; omega)⟩
      have ee : b.reverse[p]? = some x := by
        rw [List.getElem?_reverse (by rw [HL.out]; omega), HL.out, show L - 1 - p = pos by have := hpk.out; omega]
        exact ex
      have hdx : K.dig x = true := by
        have h := HR.out
        rw [List.all_eq_true] at h
        exact h x (List.mem_of_getElem? ee)
      have hx48 : 48 ≤ x.toNat ∧ x.toNat ≤ 57 := by unfold K.dig at hdx; simpa using hdx
      obtain ⟨hh, e0⟩ := Str_at ex
      have hnx : ∀ ty, (Instr.next (.pointer (some ⟨w1.heap.size + 1, 0, none⟩)) true ty).run Tryd.prog wr = .ok (.tuple #[.bool true, .int .i64 pos, .int .i32 x.toNat]) (setIt wr (w1.heap.size + 1) (Str b) (pos + 1)) := fun ty => by
        have h := run_next_at (P := Tryd.prog) wr (w1.heap.size + 1) (Str b) pos ty hit hh (by rw [e0]; omega)
        rw [e0] at h
        exact h
      have hpm : p / 9 < m := by omega
      obtain ⟨y, hy⟩ : ∃ y, grp b.reverse (p + 1) (p / 9) = y := ⟨_, rfl⟩
      have hyB : y < 100000000 := by rw [← hy]; exact grp_open _ _ HR.out
      have hrow1 : Row (setIt wr (w1.heap.size + 1) (Str b) (pos + 1)) w1.heap.size 91 (U64s (grps b.reverse (p + 1) m)) := (setIt_other (by omega)).trans hrow
      have hit1 := setIt_same (s := Str b) (pos := pos + 1) hit
      have hext1 : Ext w1 (setIt wr (w1.heap.size + 1) (Str b) (pos + 1)) := hext.setIt (by omega) _ _
      generalize setIt wr (w1.heap.size + 1) (Str b) (pos + 1) = wn at *
      have hcell : wn.cell? ⟨w1.heap.size, p / 9, none⟩ = some (.int .u64 y) := by
        rw [hrow1.cell, ← hy]
        exact U64s_at (grps_at _ _ _ _ hpm)
      have hfree := hrow1.free (p / 9)
      have hnew : Row (wn.setCell ⟨w1.heap.size, p / 9, none⟩ (.int .u64 ((y : Int) * 10 + ((x.toNat : Int) - 48)))) w1.heap.size 91 (U64s (grps b.reverse p m)) := by
        have h1 := hrow1.set (p / 9) (.int .u64 ((y : Int) * 10 + ((x.toNat : Int) - 48)))
        have e1 : ((y : Int) * 10 + ((x.toNat : Int) - 48)) = ((y * 10 + (x.toNat - 48) : Nat) : Int) := by omega
        rw [e1, U64s_set, ← hy, grps_step b.reverse p m x ee hpm] at h1
        rw [e1, ← hy]
        exact h1
      have hit2 : (wn.setCell ⟨w1.heap.size, p / 9, none⟩ (.int .u64 ((y : Int) * 10 + ((x.toNat : Int) - 48)))).heap[w1.heap.size + 1]? = some (.stringIter (Str b) (pos + 1)) := by
        rw [setCell_heap (by show w1.heap.size + 1 ≠ w1.heap.size; omega)]; exact hit1
      have HNEW := hid hnew
      have HIT := hid hit2
      have HEX := hid (hext1.set' (p := ⟨w1.heap.size, p / 9, none⟩) (Nat.le_refl _) (.int .u64 ((y : Int) * 10 + ((x.toNat : Int) - 48))))
      have hxa : 48 ≤ x.toNat := hx48.1
      have hxb : x.toNat ≤ 57 := hx48.2
      clear ex ee hdx hx48 e0 hh hit hrow hrow1 hit1 hext1 hnew hit2 hy hk0
      go_wp2
      go_roundw
      case rel => exact ⟨p, pos + 1, hid (by have := hpk.out; omega), by omega, rfl, HIT.out, HNEW.out, HEX.out⟩
      case measure => simp [intOf]
    · obtain rfl : k = 0 := by omega
      have hnx : ∀ ty, (Instr.next (.pointer (some ⟨w1.heap.size + 1, 0, none⟩)) true ty).run Tryd.prog wr = .ok (.tuple #[.bool false]) wr := fun ty => run_next_done (P := Tryd.prog) wr (w1.heap.size + 1) (Str b) pos ty hit (by rw [s2]; have := hpk.out; omega)
      have hglen := grps_len b.reverse 0 m
      have hglt := grps_lt b.reverse 0 m HR.out
      have hgval : K.lv (grps b.reverse 0 m) = (K.numL l).natAbs := by
        rw [lv_grps, List.take_of_length_le (by rw [List.length_reverse, HL.out]; exact hLm)]
        have h := HVL.out
        rw [HB.out] at h
        exact h
      generalize grps b.reverse 0 m = G at *
      have HGL := hid hglen
      have HGV := hid hgval
      clear hglen hgval hit
      go_wp2_with fail
      refine (trimmed _ m m G _ hrow.rd0 HGL.out (by omega) (by omega)).mono ?_
      intro e w' hp
      have hq : SumPost (K.numL l).natAbs w1 e w' := SumPost.of_trim hrow hext hglt HGV.out e w' (by rw [HGL.out]; exact hp)
      obtain ⟨v, rfl, hq, hxx⟩ := hq
      obtain ⟨A, ka, ca, rfl⟩ := hq.slice
      have hr1 := HR0.out.ext hxx
      obtain ⟨g0, g1, g2, g3⟩ := hr1.facts
      by_cases hs : L < l.length
      · have hfin := NumPost.stored (w := w) (W := w) (n := K.numL l) (t := 72) (HX1.out.step hxx) (Ext.rfl' w) (H := w.heap.size) rfl hq true (by rw [← HN.out]; symm; simp; omega)
        have HF := hid hfin
        clear hfin hr1 hxx hq hp hrow hext hnx
        go_wp2
        refine bodyPost_ret (v := .tuple #[.agg #[.bool true, .slice A ka ca], .int .i64 0]) (by simp [results, Tryd.results64, go_sem, g0, g1]) rfl ?_
        obtain ⟨v, hv, hn, he⟩ := HF.out
        injection hv with hv
        subst hv
        exact ⟨⟨_, rfl, hn⟩, he⟩
      · have hfin := NumPost.stored (w := w) (W := w) (n := K.numL l) (t := 72) (HX1.out.step hxx) (Ext.rfl' w) (H := w.heap.size) rfl hq false (by rw [← HN.out]; symm; simp; omega)
        have HF := hid hfin
        clear hfin hr1 hxx hq hp hrow hext hnx
        go_wp2
        refine bodyPost_ret (v := .tuple #[.agg #[.bool false, .slice A ka ca], .int .i64 0]) (by simp [results, Tryd.results64, go_sem, g0, g1]) rfl ?_
        obtain ⟨v, hv, hn, he⟩ := HF.out
        injection hv with hv
        subst hv
        exact ⟨⟨_, rfl, hn⟩, he⟩
set_option maxRecDepth 100000 in
set_option maxHeartbeats 400000 in
theorem read_bad (l : List UInt8) (w : World) (hl : l.length ≤ 140737488351232) (hv : K.validL l = false) :
    Calls Tryd.prog 64 #[.string (Str l)] w (fun e w' => e = .returned (.tuple #[.agg #[.bool false, .slice none 0 0], .int .i64 1]) ∧ Ext w w') := by
  have HV := hid hv
  have hE1 : Ext w (w.alloc (.cells #[.bool false, .slice none 0 0] 72)) := (Ext.rfl' w).alloc' _
  have HE1 := hid hE1
  clear hv hE1
  go_enter Tryd.func64, Tryd.ntmps64
  go_wp2_with fail
  refine (valid_any l _ hl).mono ?_
  rintro e w1 ⟨rfl, hx1⟩
  rw [HV.out]
  obtain ⟨g0, g1, g2, g3, g4, hr0⟩ := two_facts (W := w) (H := w.heap.size) hx1 rfl
  have hE2 : Ext w w1 := HE1.out.step hx1
  clear hx1 hr0
  go_wp2
  refine bodyPost_ret (v := .tuple #[.agg #[.bool false, .slice none 0 0], .int .i64 1]) (by simp [results, Tryd.results64, go_sem, g0, g1]) rfl ?_
  exact ⟨rfl, (hE2.set' (Nat.le_refl _) _).set' (Nat.le_refl _) _⟩
end Go.Proofs.YtoilkfohhhidpaaDoor
/- num.readBoth -/
namespace Go.Proofs.YtoilkfohhhidpaaDoor
open Go.RowKit
abbrev Z : Obj := .cells #[.bool false, .slice none 0 0] 72
theorem twoZ {w w' : World} (e : Ext ((w.alloc (.cells #[.bool false, .slice none 0 0] 72)).alloc (.cells #[.bool false, .slice none 0 0] 72)) w') :
    Row w' w.heap.size 72 [.bool false, .slice none 0 0] ∧ Row w' (w.heap.size + 1) 72 [.bool false, .slice none 0 0] ∧ w.heap.size + 1 < w'.heap.size ∧ Ext w w' := by
  have h1 := two_facts (W := w) (H := w.heap.size) (t := 72) (a := .bool false) (b := .slice none 0 0) (Ext.step ((Ext.rfl' _).alloc' _) e) rfl
  have h2 := two_facts (H := w.heap.size + 1) e (by simp)
  exact ⟨h1.2.2.2.2.2, h2.2.2.2.2.2, h2.2.2.2.2.1, (((Ext.rfl' w).alloc' _).alloc' _).step e⟩
def BothOk (m n : Int) (w : World) (e : Ending) (w' : World) : Prop := (∃ v1 v2, e = .returned (.tuple #[v1, v2, .int .i64 0]) ∧ NumV w' v1 m ∧ NumV w' v2 n) ∧ Ext w w'
def BothBad (w : World) (e : Ending) (w' : World) : Prop := e = .returned (.tuple #[.agg #[.bool false, .slice none 0 0], .agg #[.bool false, .slice none 0 0], .int .i64 1]) ∧ Ext w w'
set_option maxRecDepth 100000 in
set_option maxHeartbeats 1600000 in
theorem both_bad1 (l1 l2 : List UInt8) (w : World) (h1 : l1.length ≤ 140737488351232) (v1 : K.validL l1 = false) :
    Calls Tryd.prog 48 #[.string (Str l1), .string (Str l2)] w (BothBad w) := by
  go_enter Tryd.func48, Tryd.ntmps48
  go_wp2_with fail
  refine (read_bad l1 _ h1 v1).mono ?_
  rintro e w1 ⟨rfl, hx1⟩
  obtain ⟨r0, r1, hl, hE⟩ := twoZ hx1
  obtain ⟨g0, g1, g2, g3⟩ := (r0.alloc (.cells #[.bool false, .slice none 0 0] 72)).facts
  obtain ⟨i0, i1, i2, i3⟩ := (r1.alloc (.cells #[.bool false, .slice none 0 0] 72)).facts
  have hn1 : ¬ (w.heap.size = w1.heap.size) := by omega
  have hn2 : ¬ (w.heap.size + 1 = w1.heap.size) := by omega
  clear hx1 r0 r1
  go_wp2
  refine bodyPost_ret (v := .tuple #[.agg #[.bool false, .slice none 0 0], .agg #[.bool false, .slice none 0 0], .int .i64 1]) (by simp [results, Tryd.results48, go_sem, g0, g1, i0, i1]) rfl ?_
  exact ⟨rfl, ((((hE.alloc' _).set' (by exact Nat.le_refl _) _).set' (by exact Nat.le_refl _) _).set' (by exact Nat.le_succ _) _).set' (by exact Nat.le_succ _) _⟩
set_option maxRecDepth 100000 in
set_option maxHeartbeats 1600000 in
theorem both_bad2 (l1 l2 : List UInt8) (w : World) (h1 : l1.length ≤ 140737488351232) (h2 : l2.length ≤ 140737488351232) (v1 : K.validL l1 = true) (v2 : K.validL l2 = false) :
    Calls Tryd.prog 48 #[.string (Str l1), .string (Str l2)] w (BothBad w) := by
  go_enter Tryd.func48, Tryd.ntmps48
  go_wp2_with fail
  refine (read_ok l1 _ h1 v1).mono ?_
  rintro e w1 ⟨⟨v1, rfl, ⟨z1, b1, rfl, hb1, hz1⟩⟩, hx1⟩
  obtain ⟨A1, k1, c1, rfl⟩ := hz1.slice
  obtain ⟨r0, r1, hl, hE⟩ := twoZ hx1
  clear hx1
  go_wp2_with fail
  refine (read_bad l2 _ h2 v2).mono ?_
  rintro e w2 ⟨rfl, hx2⟩
  have hx2' : Ext w1 w2 := ((Ext.rfl' w1).alloc' _).step hx2
  have hE2 := hE.step hx2'
  obtain ⟨g0, g1, g2, g3⟩ := ((r0.ext hx2').alloc (.cells #[.bool false, .slice none 0 0] 72)).facts
  obtain ⟨i0, i1, i2, i3⟩ := ((r1.ext hx2').alloc (.cells #[.bool false, .slice none 0 0] 72)).facts
  clear hx2 r0 r1 hx2' hE
  go_wp2
  refine bodyPost_ret (v := .tuple #[.agg #[.bool false, .slice none 0 0], .agg #[.bool false, .slice none 0 0], .int .i64 1]) (by simp [results, Tryd.results48, go_sem, g0, g1, i0, i1]) rfl ?_
  exact ⟨rfl, ((((hE2.alloc' _).set' (by exact Nat.le_refl _) _).set' (by exact Nat.le_refl _) _).set' (by exact Nat.le_succ _) _).set' (by exact Nat.le_succ _) _⟩
set_option maxRecDepth 100000 in
set_option maxHeartbeats 1600000 in
theorem both_ok (l1 l2 : List UInt8) (w : World) (h1 : l1.length ≤ 140737488351232) (h2 : l2.length ≤ 140737488351232) (v1 : K.validL l1 = true) (v2 : K.validL l2 = true) :
    Calls Tryd.prog 48 #[.string (Str l1), .string (Str l2)] w (BothOk (K.numL l1) (K.numL l2) w) := by
  go_enter Tryd.func48, Tryd.ntmps48
  go_wp2_with fail
  refine (read_ok l1 _ h1 v1).mono ?_
  rintro e w1 ⟨⟨v1, rfl, ⟨z1, b1, rfl, hb1, hz1⟩⟩, hx1⟩
  obtain ⟨A1, k1, c1, rfl⟩ := hz1.slice
  obtain ⟨r0, r1, hl, hE⟩ := twoZ hx1
  clear hx1
  go_wp2_with fail
  refine (read_ok l2 _ h2 v2).mono ?_
  rintro e w2 ⟨⟨v2, rfl, ⟨z2, b2, rfl, hb2, hz2⟩⟩, hx2⟩
  obtain ⟨A2, k2, c2, rfl⟩ := hz2.slice
  have hx2' : Ext w1 w2 := ((Ext.rfl' w1).alloc' _).step hx2
  have hE2 := hE.step hx2'
  obtain ⟨-, -, -, -, hl1, rr⟩ := two_facts hx2 rfl
  have R0 := (r0.ext hx2').alloc (.cells #[.bool b2, .slice A2 k2 c2] 72)
  have R1 := (r1.ext hx2').alloc (.cells #[.bool b2, .slice A2 k2 c2] 72)
  obtain ⟨g0, g1, g2, g3⟩ := R0.facts
  obtain ⟨i0, i1, i2, i3⟩ := R1.facts
  obtain ⟨k0, k1', -, -⟩ := (rr.alloc (.cells #[.bool b2, .slice A2 k2 c2] 72)).facts
  have hfin := PairPost.stored (w := w) R0 R1 (hE2.alloc' _) (Nat.le_refl _) hb1 hb2 (hz1.ext (hx2'.alloc' (.cells #[.bool b2, .slice A2 k2 c2] 72))) (hz2.ext ((Ext.rfl' w2).alloc' (.cells #[.bool b2, .slice A2 k2 c2] 72)))
  have HF := hid hfin
  have hn1 : ¬ (w.heap.size = w1.heap.size) := by omega
  have hn2 : ¬ (w.heap.size + 1 = w1.heap.size) := by omega
  have hn3 : ¬ (w1.heap.size = w.heap.size) := by omega
  have hn4 : ¬ (w1.heap.size = w.heap.size + 1) := by omega
  have hn5 : ¬ (w.heap.size = w2.heap.size) := by omega
  have hn6 : ¬ (w.heap.size + 1 = w2.heap.size) := by omega
  have hn7 : ¬ (w2.heap.size = w.heap.size) := by omega
  have hn8 : ¬ (w2.heap.size = w.heap.size + 1) := by omega
  clear hx2 r0 r1 hx2' hE hfin hz1 hz2 R0 R1 rr hb1 hb2
  go_wp2_with fail
  go_region_held3 (fun w' => w'.cell? ⟨w1.heap.size, 0, none⟩ = some (.bool b1) ∧ w'.cell? ⟨w1.heap.size, 1, none⟩ = some (.slice A1 k1 c1) ∧ w'.cell? ⟨w2.heap.size, 0, none⟩ = some (.bool b2) ∧ w'.cell? ⟨w2.heap.size, 1, none⟩ = some (.slice A2 k2 c2))
    (go_keep) (fail)
  go_wp2
  refine bodyPost_ret (v := .tuple #[.agg #[.bool b1, .slice A1 k1 c1], .agg #[.bool b2, .slice A2 k2 c2], .int .i64 0]) (by simp [results, Tryd.results48, go_sem, g0, g1, i0, i1]) rfl ?_
  obtain ⟨y1, y2, hy, m1, m2, he⟩ := HF.out
  injection hy with hy
  injection hy with hy
  simp only [Array.mk.injEq, List.cons.injEq, and_true] at hy
  obtain ⟨rfl, rfl⟩ := hy
  exact ⟨⟨_, _, rfl, m1.ext (Ext.rfl' _).drew', m2.ext (Ext.rfl' _).drew'⟩, he.drew'⟩
end Go.Proofs.YtoilkfohhhidpaaDoor
/- (number).gcd -/
namespace Go.Proofs.YtoilkfohhhidpaaDoor
open Go.RowKit Go.Deep
theorem gcd_step (x y : Nat) (h : 0 < y) : Nat.gcd y (x % y) = Nat.gcd x y := by
  rw [Nat.gcd_comm x y, Nat.gcd_rec y x, Nat.gcd_comm]
set_option maxRecDepth 100000 in
set_option maxHeartbeats 1600000 in
theorem ngcd_any (va vb : Value) (m n : Int) (w : World) (ha : NumV w va m) (hb : NumV w vb n) (la : m.natAbs ≤ BIG) (lb : n.natAbs ≤ BIG) :
    Calls Tryd.prog 61 #[va, vb] w (NumPost (Nat.gcd m.natAbs n.natAbs : Int) w) := by
  obtain ⟨sa, ba, rfl, hba, hza⟩ := ha
  obtain ⟨sb, bb, rfl, hbb, hzb⟩ := hb
  obtain ⟨A, ka, ca, rfl⟩ := hza.slice
  obtain ⟨B, kb, cb, rfl⟩ := hzb.slice
  have hE2 : Ext w ((w.alloc (.cells #[.bool ba, .slice A ka ca] 72)).alloc (.cells #[.bool bb, .slice B kb cb] 72)) := ((Ext.rfl' w).alloc' _).alloc' _
  have hE : Ext w (((w.alloc (.cells #[.bool ba, .slice A ka ca] 72)).alloc (.cells #[.bool bb, .slice B kb cb] 72)).alloc (.cells #[.bool false, .slice none 0 0] 72)) := hE2.alloc' _
  have HE := hid hE
  have HE2 := hid hE2
  clear hba hbb hE hE2
  go_enter Tryd.func61, Tryd.ntmps61
  go_wp2_with fail
  go_region_held3 (fun w' => w'.cell? ⟨w.heap.size, 1, none⟩ = some (.slice A ka ca) ∧ w'.cell? ⟨w.heap.size + 1, 1, none⟩ = some (.slice B kb cb)) (go_keep) (fail)
  go_wp2_with fail
  go_loopg [5, 6] n.natAbs (fun g s5 s6 wr => ∃ (x y : Nat), NatV wr s5 x ∧ NatV wr s6 y ∧ x ≤ BIG ∧ y ≤ BIG ∧ y = g ∧ Hid (Nat.gcd x y = Nat.gcd m.natAbs n.natAbs) ∧ Ext (((w.alloc (.cells #[.bool ba, .slice A ka ca] 72)).alloc (.cells #[.bool bb, .slice B kb cb] 72)).alloc (.cells #[.bool false, .slice none 0 0] 72)) wr)
  case atStart => exact ⟨m.natAbs, n.natAbs, hza.ext HE.out.drew', hzb.ext HE.out.drew', la, lb, rfl, hid rfl, (Ext.rfl' _).drew'⟩
  case round =>
    obtain ⟨x, y, hx, hy, lx, ly, rfl, hg, hext⟩ := hrel
    obtain ⟨A1, k1, c1, rfl⟩ := hx.slice
    obtain ⟨A2, k2, c2, rfl⟩ := hy.slice
    by_cases hk : 0 < k2
    · have hy0 : 0 < y := (hy.len_zero).1 hk
      go_wp2_with fail
      refine (div_any _ _ x y wr hx hy lx ly hy0).mono ?_
      rintro e w2 ⟨v1, v2, rfl, hz1, hz2, hx2⟩
      have hlt := Nat.mod_lt x hy0
      have HLT := hid hlt
      obtain ⟨A3, k3, c3, rfl⟩ := hz2.slice
      clear hlt hk
      go_wp2
      go_roundg (x % y)
      case measure => exact HLT.out
      case rel => exact ⟨y, x % y, hy.ext hx2, hz2, ly, by have := HLT.out; omega, rfl, hid (by rw [← hg.out]; exact gcd_step x y hy0), hext.step hx2⟩
    · obtain rfl : y = 0 := by
        have := hy.len_zero
        omega
      have hfin := hg.out
      rw [Nat.gcd_zero_right] at hfin
      obtain ⟨g0, g1, g2, g3, -, -⟩ := two_facts (H := w.heap.size + 1 + 1) hext (by simp)
      have hst := NumPost.stored (n := (Nat.gcd m.natAbs n.natAbs : Int)) hext HE2.out (H := w.heap.size + 1 + 1) (by simp) (by rw [abs_cast, ← hfin]; exact hx) false (dec_cast _)
      have HF := hid hst
      clear hfin hst hext hg hx hy
      go_wp2
      refine bodyPost_ret (v := .agg #[.bool false, .slice A1 k1 c1]) (by simp [results, Tryd.results61, go_sem, g0, g1]) rfl HF.out
end Go.Proofs.YtoilkfohhhidpaaDoor
/- (number).power -/
namespace Go.Proofs.YtoilkfohhhidpaaDoor
open Go.RowKit
/-! ### bounds by limbs -/
def TOP (k : Nat) : Nat := 1000000000 ^ k
theorem TOP_add (a b : Nat) : TOP (a + b) = TOP a * TOP b := Nat.pow_add _ _ _
theorem TOP_pos (k : Nat) : 0 < TOP k := Nat.pow_pos (by omega)
theorem TOP_mono {a b : Nat} (h : a ≤ b) : TOP a ≤ TOP b := Nat.pow_le_pow_right (by omega) h
theorem nines_top (k : Nat) : K.lv (List.replicate k 999999999) + 1 = TOP k := lv_nines k
theorem BIG_top : BIG + 1 = TOP 1000 := nines_top 1000
theorem pw_top (k : Nat) : K.pw (9 * k) = TOP k := by unfold K.pw TOP; rw [Nat.pow_mul]
theorem LIM_top : K.LIM ≤ TOP 223 := by rw [← pw_top]; exact K.pw_mono (by omega)
theorem le_big {x a : Nat} (h : x < TOP a) (ha : a ≤ 1000) : x ≤ BIG := by
  have h1 := TOP_mono ha
  have h2 := BIG_top
  omega
theorem mul_top {x y a b : Nat} (hx : x < TOP a) (hy : y < TOP b) : x * y < TOP (a + b) := by rw [TOP_add]; exact Nat.mul_lt_mul'' hx hy
theorem fits_top {m : Int} (h : K.fits m) : m.natAbs < TOP 223 := Nat.lt_of_lt_of_le h LIM_top
theorem fits_big {m : Int} (h : K.fits m) : m.natAbs ≤ BIG := le_big (fits_top h) (by omega)
theorem NatV.top {w : World} {A : Option Addr} {k c n : Nat} (h : NatV w (.slice A k c) n) : n < TOP k ∧ (0 < k → TOP (k - 1) ≤ n) := by
  obtain ⟨A', k', c', xs, hv, hl, _, _, hL, hm⟩ := h
  injection hv with _ hk _
  subst hk hm hl
  exact ⟨K.lv_lt xs hL.1, fun h0 => hL.ge (by intro e; subst e; simp at h0)⟩
theorem pow_big {m : Int} {k n : Nat} (hk : k ≤ n) (h : 1 < (m ^ k).natAbs) : (m ^ k).natAbs ≤ (m ^ n).natAbs := by
  rw [Int.natAbs_pow] at h ⊢
  rw [Int.natAbs_pow]
  have h0 : m.natAbs ≠ 0 := by
    intro e; rw [e] at h
    rcases Nat.eq_zero_or_pos k with h1 | h1
    · subst h1; simp at h
    · rw [Nat.zero_pow h1] at h; omega
  exact Nat.pow_le_pow_right (by omega) hk
theorem band1 (q : Nat) (hq : q < 9223372036854775808) : bits .and .i64 (q : Int) 1 = ((q % 2 : Nat) : Int) := by
  have e1 : (BitVec.ofInt 64 (q : Int)).toNat = q := by
    rw [BitVec.ofInt_natCast, BitVec.toNat_ofNat]; exact Nat.mod_eq_of_lt (by omega)
  show IntKind.i64.wrap ((BitVec.ofInt 64 (q : Int) &&& BitVec.ofInt 64 1).toNat : Int) = _
  rw [BitVec.toNat_and, e1, show (BitVec.ofInt 64 1).toNat = 1 from rfl, Nat.and_one_is_mod, IntKind.wrap_i64]
  omega
theorem half (n j : Nat) : n / 2 ^ j = 2 * (n / 2 ^ (j + 1)) + n / 2 ^ j % 2 := by
  rw [Nat.pow_succ, ← Nat.div_div_eq_div_mul]; omega

def PowInv (w : World) (ba : Bool) (A : Option Addr) (ka ca : Nat) (r : Int) (wr : World) : Prop :=
  ∃ b A1 k1 c1, Row wr w.heap.size 72 [.bool ba, .slice A ka ca] ∧ Row wr (w.heap.size + 1) 72 [.bool false, .slice none 0 0] ∧ Row wr (w.heap.size + 1 + 1 + 1) 72 [.bool b, .slice A1 k1 c1] ∧
    Hid (b = decide (r < 0)) ∧ NatV wr (.slice A1 k1 c1) r.natAbs ∧ Ext w wr
theorem NumV.mk' {w : World} {b : Bool} {sz : Value} {n : Int} (hb : Hid (b = decide (n < 0))) (hz : NatV w sz n.natAbs) : NumV w (.agg #[.bool b, sz]) n := ⟨sz, b, rfl, hb, hz⟩
/-- the variable is overwritten -/
theorem PowInv.put {w wr w' : World} {ba b b' : Bool} {A A1 A2 : Option Addr} {ka ca k1 c1 k2 c2 : Nat} {r : Int} (h0 : Row wr w.heap.size 72 [.bool ba, .slice A ka ca]) (h1 : Row wr (w.heap.size + 1) 72 [.bool false, .slice none 0 0])
    (h2 : Row wr (w.heap.size + 1 + 1 + 1) 72 [.bool b, .slice A1 k1 c1]) (hw : Ext w wr) (hx : Ext wr w') (hb : Hid (b' = decide (r < 0))) (hz : NatV w' (.slice A2 k2 c2) r.natAbs) :
    let W := (w'.setCell ⟨w.heap.size + 1 + 1 + 1, 0, none⟩ (.bool b')).setCell ⟨w.heap.size + 1 + 1 + 1, 1, none⟩ (.slice A2 k2 c2)
    Row W w.heap.size 72 [.bool ba, .slice A ka ca] ∧ Row W (w.heap.size + 1) 72 [.bool false, .slice none 0 0] ∧ Row W (w.heap.size + 1 + 1 + 1) 72 [.bool b', .slice A2 k2 c2] ∧ NatV W (.slice A2 k2 c2) r.natAbs ∧ Ext w W := by
  have r0 := h0.ext hx
  have r1 := h1.ext hx
  have r2 := h2.ext hx
  exact ⟨(r0.far (by show _ ≠ w.heap.size + 1 + 1 + 1; omega) _).far (by show _ ≠ w.heap.size + 1 + 1 + 1; omega) _, (r1.far (by show _ ≠ w.heap.size + 1 + 1 + 1; omega) _).far (by show _ ≠ w.heap.size + 1 + 1 + 1; omega) _, (r2.set 0 (.bool b')).set 1 (.slice A2 k2 c2), hz.two r2,
    ((hw.step hx).set' (by show _ ≤ w.heap.size + 1 + 1 + 1; omega) _).set' (by show _ ≤ w.heap.size + 1 + 1 + 1; omega) _⟩
def PowPost (m : Int) (n : Nat) (w : World) (e : Ending) (w' : World) : Prop :=
  ∃ v r, e = .returned v ∧ NumV w' v r ∧ r.natAbs ≤ BIG ∧ (r = m ^ n ∨ (¬ K.fits r ∧ ¬ K.fits (m ^ n))) ∧ Ext w w'
/-- the variable becomes the result -/
theorem PowPost.stored {w W : World} {b : Bool} {A1 : Option Addr} {k1 c1 : Nat} {m r : Int} {n : Nat} (r1 : Row W (w.heap.size + 1) 72 [.bool false, .slice none 0 0]) (hb : Hid (b = decide (r < 0))) (hz : NatV W (.slice A1 k1 c1) r.natAbs) (he : Ext w W)
    (hB : r.natAbs ≤ BIG) (hr : r = m ^ n ∨ (¬ K.fits r ∧ ¬ K.fits (m ^ n))) :
    PowPost m n w (.returned (.agg #[.bool b, .slice A1 k1 c1])) ((W.setCell ⟨w.heap.size + 1, 0, none⟩ (.bool b)).setCell ⟨w.heap.size + 1, 1, none⟩ (.slice A1 k1 c1)) :=
  ⟨_, r, rfl, NumV.mk' hb (hz.two r1), hB, hr, (he.set' (by show _ ≤ w.heap.size + 1; omega) _).set' (by show _ ≤ w.heap.size + 1; omega) _⟩
end Go.Proofs.YtoilkfohhhidpaaDoor
/- (number).power: the walk -/
namespace Go.Proofs.YtoilkfohhhidpaaDoor
open Go.RowKit
theorem bitLen_le : ∀ (k x : Nat), x < 2 ^ k → k ≤ 60 → x < 2 ^ Lib.bitLen x ∧ Lib.bitLen x ≤ k
  | 0, x, h, _ => by
    have : x = 0 := by simpa using h
    subst this
    exact ⟨by decide, by decide⟩
  | k + 1, x, h, hk => by
    by_cases h0 : x = 0
    · subst h0
      exact ⟨by decide, Nat.le_trans (show Lib.bitLen 0 ≤ 0 by decide) (Nat.zero_le _)⟩
    · have h64 : x < 2 ^ 64 := Nat.lt_of_lt_of_le h (Nat.pow_le_pow_right (by omega) (by omega))
      have ih := bitLen_le k (x / 2) (by rw [Nat.pow_succ] at h; omega) (by omega)
      rw [Lib.bitLen_half x h0 h64, Nat.add_comm, Nat.pow_succ]
      omega
theorem bitLen_lt (n : Nat) (hn : n ≤ 10000) : n < 2 ^ Lib.bitLen n ∧ Lib.bitLen n ≤ 14 := bitLen_le 14 n (by omega) (by omega)
set_option maxRecDepth 100000 in
set_option maxHeartbeats 3200000 in
theorem npow_any (va : Value) (m : Int) (n : Nat) (w : World) (ha : NumV w va m) (la : K.fits m) (hn : n ≤ 10000) :
    Calls Tryd.prog 66 #[va, .int .i64 (n : Int)] w (PowPost m n w) := by
  obtain ⟨sa, ba, rfl, hba, hza⟩ := ha
  obtain ⟨A, ka, ca, rfl⟩ := hza.slice
  obtain ⟨hbl, hb14⟩ := bitLen_lt n hn
  have HBL := hid hbl
  have HBA := hid hba
  have HFT := hid (fits_top la)
  have HFB := hid (fits_big la)
  clear hbl hba la
  go_enter Tryd.func66, Tryd.ntmps66
  go_wp2_with fail
  refine (Shelf.l_bits_Len _ _ (by omega) (by omega)).mono ?_
  rintro e w1 ⟨rfl, rfl⟩
  rw [Int.toNat_natCast]
  generalize Lib.bitLen n = bl at *
  go_wp2_with fail
  go_loopw [6] (fun i wr => ∃ (q r : Int), -1 ≤ q ∧ q ≤ 13 ∧ i = .int .i64 q ∧ Hid (r = m ^ (n / 2 ^ (q + 1).toNat)) ∧ Hid (r.natAbs < TOP 223) ∧ PowInv w ba A ka ca r wr) (fun i _ => (intOf i + 1).toNat)
  case atStart =>
    refine ⟨(bl : Int) - 1, 1, by omega, by omega, rfl, hid ?_, hid ?_, false, some ⟨w.heap.size + 1 + 1, 0, none⟩, 1, 1, ?_, ?_, ?_, hid rfl, ?_, ?_⟩
    · rw [show ((bl : Int) - 1 + 1).toNat = bl by omega, Nat.div_eq_of_lt HBL.out]; exact (Int.pow_zero m).symm
    · rw [show (223 : Nat) = 222 + 1 from rfl, TOP_add]; have := TOP_pos 222; show 1 < _; unfold TOP at *; omega
    · exact (((Row.new w 72 [.bool ba, .slice A ka ca]).alloc _).alloc _).alloc _
    · have h := ((Row.new (w.alloc (.cells #[.bool ba, .slice A ka ca] 72)) 72 [.bool false, .slice none 0 0]).alloc (.cells #[.int .u64 1] 91)).alloc (.cells #[.bool false, .slice (some ⟨w.heap.size + 1 + 1, 0, none⟩) 1 1] 72)
      simpa using h
    · have h := Row.new (((w.alloc (.cells #[.bool ba, .slice A ka ca] 72)).alloc (.cells #[.bool false, .slice none 0 0] 72)).alloc (.cells #[.int .u64 1] 91)) 72 [.bool false, .slice (some ⟨w.heap.size + 1 + 1, 0, none⟩) 1 1]
      simpa using h
    · have h := (NatV.one ((w.alloc (.cells #[.bool ba, .slice A ka ca] 72)).alloc (.cells #[.bool false, .slice none 0 0] 72))).ext ((Ext.rfl' _).alloc' (.cells #[.bool false, .slice (some ⟨w.heap.size + 1 + 1, 0, none⟩) 1 1] 72))
      simpa using h
    · exact ((((Ext.rfl' w).alloc' _).alloc' _).alloc' _).alloc' _
  case round =>
    obtain ⟨q, r, hq1, hq2, rfl, hr, hrt, ⟨b, A1, k1, c1, r0, r1, r2, hb, hz, hext⟩⟩ := hrel
    by_cases hq : 0 ≤ q
    · obtain ⟨j, rfl⟩ := Int.eq_ofNat_of_zero_le hq
      have hr' : r = m ^ (n / 2 ^ (j + 1)) := by have := hr.out; rwa [show ((j : Int) + 1).toNat = j + 1 by omega] at this
      have hqn : n / 2 ^ j ≤ n := Nat.div_le_self _ _
      have hsq : r * r = m ^ (2 * (n / 2 ^ (j + 1))) := by rw [hr', ← Int.pow_add]; congr 1; omega
      have HSQ := hid hsq
      have hrr : (r * r).natAbs < TOP 446 := by rw [Int.natAbs_mul]; exact mul_top hrt.out hrt.out
      have HRR := hid hrr
      have HQN := hid hqn
      have hcast : (n : Int) / 2 ^ j = ((n / 2 ^ j : Nat) : Int) := by simp
      obtain ⟨g0, g1, g2, g3⟩ := r2.facts
      have hx0 : ∀ x : Nat, x = n / 2 ^ j % 2 → bits .and .i64 ((n : Int) / 2 ^ j) 1 = (x : Int) := by
        intro x hx
        rw [hcast, band1 _ (by omega), hx]
      clear hsq hrr hr' hqn hr
      by_cases hbit : n / 2 ^ j % 2 = 1
      · have hbb : (bits .and .i64 ((n : Int) / 2 ^ j) 1 == 1) = true := by rw [hx0 1 hbit.symm]; rfl
        have hpw : Hid (r * r * m = m ^ (n / 2 ^ j)) := by
          refine hid ?_
          rw [HSQ.out, ← Int.pow_succ]
          congr 1
          have := half n j
          omega
        have hrm : Hid ((r * r * m).natAbs < TOP 669) := by
          refine hid ?_
          rw [Int.natAbs_mul]; exact mul_top HRR.out HFT.out
        clear hx0 hcast hbit
        go_wp2_with fail
        refine (ntimes_any _ _ r r _ (NumV.mk' hb hz) (NumV.mk' hb hz) (le_big hrt.out (by omega)) (le_big hrt.out (by omega))).mono ?_
        rintro e w2 ⟨v2, rfl, ⟨z2, b2, rfl, hb2, hz2⟩, hx2⟩
        obtain ⟨A2, k2, c2, rfl⟩ := hz2.slice
        obtain ⟨g0, g1, g2, g3⟩ := (r2.ext hx2).facts
        obtain ⟨R0, R1, R2, hz3, hext3⟩ := PowInv.put r0 r1 r2 hext hx2 hb2 hz2
        obtain ⟨e0, e1, e2, e3⟩ := R0.facts
        obtain ⟨f0, f1, f2, f3⟩ := R2.facts
        clear r0 r1 r2 hx2 hz hz2 hext
        go_wp2_with fail
        refine (ntimes_any _ _ (r * r) m _ (NumV.mk' hb2 hz3) ((NumV.mk' HBA.out hza).ext hext3) (le_big HRR.out (by omega)) HFB.out).mono ?_
        rintro e w4 ⟨v4, rfl, ⟨z4, b4, rfl, hb4, hz4⟩, hx4⟩
        obtain ⟨A4, k4, c4, rfl⟩ := hz4.slice
        obtain ⟨e0, e1, e2, e3⟩ := (R2.ext hx4).facts
        obtain ⟨S0, S1, S2, hz5, hext5⟩ := PowInv.put R0 R1 R2 hext3 hx4 hb4 hz4
        obtain ⟨u0, u1, u2, u3⟩ := S1.facts
        obtain ⟨t0, t1, t2, t3⟩ := S2.facts
        have htop := hz5.top
        by_cases hk : 223 < k4
        · have hbig : K.LIM ≤ (r * r * m).natAbs := Nat.le_trans LIM_top (Nat.le_trans (TOP_mono (by omega)) (htop.2 (by omega)))
          have hnf : ¬ K.fits (r * r * m) := fun h => absurd h (by unfold K.fits; omega)
          have hnf2 : ¬ K.fits (m ^ n) := by
            intro h
            have h1 : 1 < K.LIM := by
              have h2 : K.pw 1 ≤ K.LIM := K.pw_mono (by omega)
              have h3 : K.pw 1 = 10 := rfl
              omega
            have h2 := pow_big (m := m) HQN.out (by rw [← hpw.out]; omega)
            rw [← hpw.out] at h2
            exact absurd h (by unfold K.fits; omega)
          have hfin := PowPost.stored (m := m) (n := n) S1 hb4 hz5 hext5 (le_big hrm.out (by omega)) (.inr ⟨hnf, hnf2⟩)
          have HF := hid hfin
          clear hfin hnf hnf2 hbig htop S0 S1 S2 hz5 hext5
          go_wp2
          refine bodyPost_ret (v := .agg #[.bool b4, .slice A4 k4 c4]) (by simp [results, Tryd.results66, go_sem, u0, u1]) rfl HF.out
        · have HTOP := hid (Nat.lt_of_lt_of_le htop.1 (TOP_mono (show k4 ≤ 223 by omega)))
          clear htop
          go_wp2
          go_roundw
          case rel => exact ⟨(j : Int) - 1, r * r * m, by omega, by omega, rfl, hid (by rw [show ((j : Int) - 1 + 1).toNat = j by omega]; exact hpw.out), HTOP, b4, A4, k4, c4, S0, S1, S2, hb4, hz5, hext5⟩
          case measure => simp [intOf]
      · have hbit0 : n / 2 ^ j % 2 = 0 := by omega
        have hbb : (bits .and .i64 ((n : Int) / 2 ^ j) 1 == 1) = false := by rw [hx0 0 hbit0.symm]; rfl
        have hpw : Hid (r * r = m ^ (n / 2 ^ j)) := by
          refine hid ?_
          rw [HSQ.out]
          congr 1
          have := half n j
          omega
        have hrm : Hid ((r * r).natAbs < TOP 669) := hid (Nat.lt_of_lt_of_le HRR.out (TOP_mono (by omega)))
        clear hx0 hcast hbit hbit0
        go_wp2_with fail
        refine (ntimes_any _ _ r r _ (NumV.mk' hb hz) (NumV.mk' hb hz) (le_big hrt.out (by omega)) (le_big hrt.out (by omega))).mono ?_
        rintro e w4 ⟨v4, rfl, ⟨z4, b4, rfl, hb4, hz4⟩, hx4⟩
        obtain ⟨A4, k4, c4, rfl⟩ := hz4.slice
        obtain ⟨e0, e1, e2, e3⟩ := (r2.ext hx4).facts
        obtain ⟨S0, S1, S2, hz5, hext5⟩ := PowInv.put r0 r1 r2 hext hx4 hb4 hz4
        obtain ⟨u0, u1, u2, u3⟩ := S1.facts
        obtain ⟨t0, t1, t2, t3⟩ := S2.facts
        have htop := hz5.top
        by_cases hk : 223 < k4
        · have hbig : K.LIM ≤ (r * r).natAbs := Nat.le_trans LIM_top (Nat.le_trans (TOP_mono (by omega)) (htop.2 (by omega)))
          have hnf : ¬ K.fits (r * r) := fun h => absurd h (by unfold K.fits; omega)
          have hnf2 : ¬ K.fits (m ^ n) := by
            intro h
            have h1 : 1 < K.LIM := by
              have h2 : K.pw 1 ≤ K.LIM := K.pw_mono (by omega)
              have h3 : K.pw 1 = 10 := rfl
              omega
            have h2 := pow_big (m := m) HQN.out (by rw [← hpw.out]; omega)
            rw [← hpw.out] at h2
            exact absurd h (by unfold K.fits; omega)
          have hfin := PowPost.stored (m := m) (n := n) S1 hb4 hz5 hext5 (le_big hrm.out (by omega)) (.inr ⟨hnf, hnf2⟩)
          have HF := hid hfin
          clear hfin hnf hnf2 hbig htop S0 S1 S2 hz5 hext5
          go_wp2
          refine bodyPost_ret (v := .agg #[.bool b4, .slice A4 k4 c4]) (by simp [results, Tryd.results66, go_sem, u0, u1]) rfl HF.out
        · have HTOP := hid (Nat.lt_of_lt_of_le htop.1 (TOP_mono (show k4 ≤ 223 by omega)))
          clear htop
          go_wp2
          go_roundw
          case rel => exact ⟨(j : Int) - 1, r * r, by omega, by omega, rfl, hid (by rw [show ((j : Int) - 1 + 1).toNat = j by omega]; exact hpw.out), HTOP, b4, A4, k4, c4, S0, S1, S2, hb4, hz5, hext5⟩
          case measure => simp [intOf]
    · obtain rfl : q = -1 := by omega
      obtain ⟨g0, g1, g2, g3⟩ := r1.facts
      obtain ⟨i0, i1, i2, i3⟩ := r2.facts
      have hfin := PowPost.stored (m := m) (n := n) r1 hb hz hext (le_big hrt.out (by omega)) (.inl (by have := hr.out; simpa using this))
      have HF := hid hfin
      clear hfin r0 r1 r2 hz hext
      go_wp2
      refine bodyPost_ret (v := .agg #[.bool b, .slice A1 k1 c1]) (by simp [results, Tryd.results66, go_sem, g0, g1]) rfl HF.out
end Go.Proofs.YtoilkfohhhidpaaDoor
