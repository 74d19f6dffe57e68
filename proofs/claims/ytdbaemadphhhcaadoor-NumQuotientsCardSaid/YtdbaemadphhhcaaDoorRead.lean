/- num.read -/
import Derived.Test.YtdbaemadphhhcaaDoorValid
import Derived.Test.YtdbaemadphhhcaaDoorGroups
namespace Go.Proofs.YtdbaemadphhhcaaDoor
open Go.RowKit
/-- the iterator in block b stands at pos -/
def setIt (w : World) (b : Nat) (s : ByteArray) (pos : Nat) : World := { w with heap := w.heap.setIfInBounds b (.stringIter s pos) }
theorem run_next_at {P : Program} (w : World) (b : Nat) (s : ByteArray) (pos : Nat) (ty : TypeId) (hb : w.heap[b]? = some (.stringIter s pos)) (h : pos < s.size) (ha : (s[pos]'h).toNat < 128) :
    (Instr.next (.pointer (some ⟨b, 0, none⟩)) true ty).run P w = .ok (.tuple #[.bool true, .int .i64 pos, .int .i32 (s[pos]'h).toNat]) (setIt w b s (pos + 1)) := by
  simp only [Instr.next, getObj, setObj, Sem.run_bind, Sem.run, hb, Result.andThen, h, if_true, decode_ascii s pos h ha, setIt]
  simp [goInt, Sem.run, hb]
theorem run_next_done {P : Program} (w : World) (b : Nat) (s : ByteArray) (pos : Nat) (ty : TypeId) (hb : w.heap[b]? = some (.stringIter s pos)) (h : ¬ pos < s.size) :
    (Instr.next (.pointer (some ⟨b, 0, none⟩)) true ty).run P w = .ok (.tuple #[.bool false]) w := by
  simp [Instr.next, getObj, Sem.run, hb, h]
theorem setIt_same {w : World} {b : Nat} {s : ByteArray} {pos pos' : Nat} (hb : w.heap[b]? = some (.stringIter s pos')) : (setIt w b s pos).heap[b]? = some (.stringIter s pos) := by
  have hl : b < w.heap.size := by
    rcases Nat.lt_or_ge b w.heap.size with hl | hl
    · exact hl
    · rw [Array.getElem?_eq_none hl] at hb; cases hb
  unfold setIt
  simp [Array.getElem?_setIfInBounds, hl]
theorem setIt_other {w : World} {b k : Nat} {s : ByteArray} {pos : Nat} (hk : k ≠ b) : (setIt w b s pos).heap[k]? = w.heap[k]? := by
  unfold setIt
  rw [Array.getElem?_setIfInBounds, if_neg (fun e => hk e.symm)]
theorem Ext.setIt {a w : World} (h : Ext a w) {b : Nat} (hb : a.heap.size ≤ b) (s : ByteArray) (pos : Nat) : Ext a (setIt w b s pos) :=
  ⟨h.os, h.tape, h.output, by unfold Proofs.YtdbaemadphhhcaaDoor.setIt; simpa using h.size, fun k hk => (setIt_other (by omega)).trans (h.block k hk)⟩
theorem setCell_heap {w : World} {a : Addr} {u : Value} {k : Nat} (h : k ≠ a.block) : (w.setCell a u).heap[k]? = w.heap[k]? := Below.heap_setCell w a u k h
def ReadPost (l : List UInt8) (w : World) (e : Ending) (w' : World) : Prop :=
  (K.validL l = true → ∃ v, e = .returned (.tuple #[v, .int .i64 0]) ∧ NumV w' v (K.numL l)) ∧ (K.validL l = false → e = .returned (.tuple #[.agg #[.bool false, .slice none 0 0], .int .i64 1])) ∧ Ext w w'
theorem body_all {l : List UInt8} (h : K.validL l = true) : (K.body l).all K.dig = true ∧ (K.body l).length ≤ 2000 ∧ 0 < (K.body l).length := by
  have e := (K.txt_numL l h).1
  have h2 := (K.fits_len _).1 (K.txt_numL l h).2
  rw [← e, K.body_txt]
  exact ⟨K.dgs_dig _, h2, K.len_pos (K.dgs_ne _)⟩
theorem body_val {l : List UInt8} (h : K.validL l = true) : K.dv (K.body l) = (K.numL l).natAbs ∧ (K.body l).length + (if K.numL l < 0 then 1 else 0) = l.length := by
  have e := (K.txt_numL l h).1
  constructor
  · conv => lhs; rw [← e]
    rw [K.body_txt, K.dv_dgs]
  · conv => lhs; lhs; rw [← e]
    conv => rhs; rw [← e]
    rw [K.body_txt]
    unfold K.txt
    split <;> simp
set_option maxRecDepth 100000 in
set_option maxHeartbeats 1600000 in
theorem read_ok (l : List UInt8) (w : World) (hl : l.length ≤ 140737488351232) (hv : K.validL l = true) :
    Calls Tryd.prog 58 #[.string (Str l)] w (fun e w' => (∃ v, e = .returned (.tuple #[v, .int .i64 0]) ∧ NumV w' v (K.numL l)) ∧ Ext w w') := by
  obtain ⟨hd, hlen, hpos⟩ := body_all hv
  obtain ⟨hval, hll⟩ := body_val hv
  have HV := hid hv
  have HD := hid hd
  have HVL := hid hval
  obtain ⟨b, hb⟩ : ∃ b, K.body l = b := ⟨_, rfl⟩
  obtain ⟨L, hL⟩ : ∃ L, b.length = L := ⟨_, rfl⟩
  rw [hb] at hd hlen hpos hll
  rw [hL] at hlen hpos hll
  have HB := hid hb
  have HL := hid hL
  have s1 := Str_size l
  have s2 : (Str b).size = L := by rw [Str_size, hL]
  have hE1 : Ext w (w.alloc (.cells #[.bool false, .slice none 0 0] 59)) := (Ext.rfl' w).alloc' _
  have HE1 := hid hE1
  have hmk := fun w => mkNat ((L + 8) / 9) (((L : Int) + 9 - 1) / 9) (by omega) (by omega) w
  have hrev : (b.reverse).all K.dig = true := by simpa using hd
  have HR := hid hrev
  have hneg : (decide ((L : Int) < (l.length : Int))) = decide (K.numL l < 0) := by
    rw [Bool.eq_iff_iff]; simp only [decide_eq_true_eq]; split at hll <;> omega
  have HN := hid hneg
  clear hv hd hval hb hL hE1 hrev hneg hll
  go_enter Tryd.func58, Tryd.ntmps58
  go_wp2_with fail
  refine (valid_any l _ hl).mono ?_
  rintro e w1 ⟨rfl, hx1⟩
  rw [HV.out]
  go_wp2_with fail
  refine (trimPrefix_any _ _).mono ?_
  rintro e w2 ⟨rfl, rfl⟩
  rw [HB.out]
  obtain ⟨m, hm⟩ : ∃ m, (L + 8) / 9 = m := ⟨_, rfl⟩
  have hLm : L ≤ 9 * m := by omega
  have hm3 : m ≤ 300 := by omega
  have hE2 : Ext w w1 := HE1.out.step hx1
  obtain ⟨-, -, -, -, -, hr0⟩ := two_facts (W := w) (H := w.heap.size) hx1 rfl
  have HM := hid hm
  have HX2 := hid hE2
  have HR0 := hid hr0
  have HX1 := hid hx1
  clear hE2 hr0 hm
  go_wp2_with fail
  rw [HM.out]
  have hrow0 : Row ((w1.alloc (.cells (madeCells #[.int .u64 0] m) 76)).iter (Str b) 0) w1.heap.size 76 (U64s (grps b.reverse L m)) := by
    have h1 := (Row.made w1 76 (.int .u64 0) m).alloc (.stringIter (Str b) 0)
    rw [U64s_zeros] at h1
    have h2 := grps_start b.reverse m
    rw [List.length_reverse, HL.out] at h2
    rw [h2]
    exact h1
  have hit0 : ((w1.alloc (.cells (madeCells #[.int .u64 0] m) 76)).iter (Str b) 0).heap[w1.heap.size + 1]? = some (.stringIter (Str b) 0) := by
    have h := World.iter_heap (w1.alloc (.cells (madeCells #[.int .u64 0] m) 76)) (Str b) 0
    simpa using h
  have hext0 : Ext w1 ((w1.alloc (.cells (madeCells #[.int .u64 0] m) 76)).iter (Str b) 0) := ((Ext.rfl' w1).alloc' _).step (Ext.iter _ _ _)
  clear hmk
  go_loopw [5] (fun left wr => ∃ k pos : Nat, Hid (pos + k = L) ∧ k ≤ L ∧ left = .int .i64 k ∧ wr.heap[w1.heap.size + 1]? = some (.stringIter (Str b) pos) ∧ Row wr w1.heap.size 76 (U64s (grps b.reverse k m)) ∧ Ext w1 wr) (fun left _ => (intOf left).toNat)
  case atStart => exact ⟨L, 0, hid (by omega), by omega, rfl, hit0, hrow0, hext0⟩
  case round =>
    obtain ⟨k, pos, hpk, hkL, rfl, hit, hrow, hext⟩ := hrel
    clear hrow0 hit0 hext0
    by_cases hk0 : 0 < k
    · obtain ⟨p, rfl⟩ : ∃ p, k = p + 1 := ⟨k - 1, by omega⟩
      obtain ⟨x, ex⟩ : ∃ x, b[pos]? = some x := ⟨_, List.getElem?_eq_getElem (by rw [HL.out]; have := hpk.out; omega)⟩
      have ee : b.reverse[p]? = some x := by
        rw [List.getElem?_reverse (by rw [HL.out]; omega), HL.out, show L - 1 - p = pos by have := hpk.out; omega]
        exact ex
      have hdx : K.dig x = true := by
        have h := HR.out
        rw [List.all_eq_true] at h
        exact h x (List.mem_of_getElem? ee)
      have hx48 : 48 ≤ x.toNat ∧ x.toNat ≤ 57 := by unfold K.dig at hdx; simpa using hdx
      obtain ⟨hh, e0⟩ := Str_at ex
      have hnx : ∀ ty, (Instr.next (.pointer (some ⟨w1.heap.size + 1, 0, none⟩)) true ty).run Tryd.prog wr = .ok (.tuple #[.bool true, .int .i64 pos, .int .i32 x.toNat]) (setIt wr (w1.heap.size + 1) (Str b) (pos + 1)) := fun ty => by
        have h := run_next_at (P := Tryd.prog) wr (w1.heap.size + 1) (Str b) pos ty hit hh (by rw [e0]; omega)
        rw [e0] at h
        exact h
      have hpm : p / 9 < m := by omega
      obtain ⟨y, hy⟩ : ∃ y, grp b.reverse (p + 1) (p / 9) = y := ⟨_, rfl⟩
      have hyB : y < 100000000 := by rw [← hy]; exact grp_open _ _ HR.out
      have hrow1 : Row (setIt wr (w1.heap.size + 1) (Str b) (pos + 1)) w1.heap.size 76 (U64s (grps b.reverse (p + 1) m)) := (setIt_other (by omega)).trans hrow
      have hit1 := setIt_same (s := Str b) (pos := pos + 1) hit
      have hext1 : Ext w1 (setIt wr (w1.heap.size + 1) (Str b) (pos + 1)) := hext.setIt (by omega) _ _
      generalize setIt wr (w1.heap.size + 1) (Str b) (pos + 1) = wn at *
      have hcell : wn.cell? ⟨w1.heap.size, p / 9, none⟩ = some (.int .u64 y) := by
        rw [hrow1.cell, ← hy]
        exact U64s_at (grps_at _ _ _ _ hpm)
      have hfree := hrow1.free (p / 9)
      have hnew : Row (wn.setCell ⟨w1.heap.size, p / 9, none⟩ (.int .u64 ((y : Int) * 10 + ((x.toNat : Int) - 48)))) w1.heap.size 76 (U64s (grps b.reverse p m)) := by
        have h1 := hrow1.set (p / 9) (.int .u64 ((y : Int) * 10 + ((x.toNat : Int) - 48)))
        have e1 : ((y : Int) * 10 + ((x.toNat : Int) - 48)) = ((y * 10 + (x.toNat - 48) : Nat) : Int) := by omega
        rw [e1, U64s_set, ← hy, grps_step b.reverse p m x ee hpm] at h1
        rw [e1, ← hy]
        exact h1
      have hit2 : (wn.setCell ⟨w1.heap.size, p / 9, none⟩ (.int .u64 ((y : Int) * 10 + ((x.toNat : Int) - 48)))).heap[w1.heap.size + 1]? = some (.stringIter (Str b) (pos + 1)) := by
        rw [setCell_heap (by show w1.heap.size + 1 ≠ w1.heap.size; omega)]; exact hit1
      have HNEW := hid hnew
      have HIT := hid hit2
      have HEX := hid (hext1.set' (p := ⟨w1.heap.size, p / 9, none⟩) (Nat.le_refl _) (.int .u64 ((y : Int) * 10 + ((x.toNat : Int) - 48))))
      have hxa : 48 ≤ x.toNat := hx48.1
      have hxb : x.toNat ≤ 57 := hx48.2
      clear ex ee hdx hx48 e0 hh hit hrow hrow1 hit1 hext1 hnew hit2 hy hk0
      go_wp2
      go_roundw
      case rel => exact ⟨p, pos + 1, hid (by have := hpk.out; omega), by omega, rfl, HIT.out, HNEW.out, HEX.out⟩
      case measure => simp [intOf]
    · obtain rfl : k = 0 := by omega
      have hnx : ∀ ty, (Instr.next (.pointer (some ⟨w1.heap.size + 1, 0, none⟩)) true ty).run Tryd.prog wr = .ok (.tuple #[.bool false]) wr := fun ty => run_next_done (P := Tryd.prog) wr (w1.heap.size + 1) (Str b) pos ty hit (by rw [s2]; have := hpk.out; omega)
      have hglen := grps_len b.reverse 0 m
      have hglt := grps_lt b.reverse 0 m HR.out
      have hgval : K.lv (grps b.reverse 0 m) = (K.numL l).natAbs := by
        rw [lv_grps, List.take_of_length_le (by rw [List.length_reverse, HL.out]; exact hLm)]
        have h := HVL.out
        rw [HB.out] at h
        exact h
      generalize grps b.reverse 0 m = G at *
      have HGL := hid hglen
      have HGV := hid hgval
      clear hglen hgval hit
      go_wp2_with fail
      refine (trimmed _ m m G _ hrow.rd0 HGL.out (by omega) (by omega)).mono ?_
      intro e w' hp
      have hq : SumPost (K.numL l).natAbs w1 e w' := SumPost.of_trim hrow hext hglt HGV.out e w' (by rw [HGL.out]; exact hp)
      obtain ⟨v, rfl, hq, hxx⟩ := hq
      obtain ⟨A, ka, ca, rfl⟩ := hq.slice
      have hr1 := HR0.out.ext hxx
      obtain ⟨g0, g1, g2, g3⟩ := hr1.facts
      by_cases hs : L < l.length
      · have hfin := NumPost.stored (w := w) (W := w) (n := K.numL l) (t := 59) (HX1.out.step hxx) (Ext.rfl' w) (H := w.heap.size) rfl hq true (by rw [← HN.out]; symm; simp; omega)
        have HF := hid hfin
        clear hfin hr1 hxx hq hp hrow hext hnx
        go_wp2
        refine bodyPost_ret (v := .tuple #[.agg #[.bool true, .slice A ka ca], .int .i64 0]) (by simp [results, Tryd.results58, go_sem, g0, g1]) rfl ?_
        obtain ⟨v, hv, hn, he⟩ := HF.out
        injection hv with hv
        subst hv
        exact ⟨⟨_, rfl, hn⟩, he⟩
      · have hfin := NumPost.stored (w := w) (W := w) (n := K.numL l) (t := 59) (HX1.out.step hxx) (Ext.rfl' w) (H := w.heap.size) rfl hq false (by rw [← HN.out]; symm; simp; omega)
        have HF := hid hfin
        clear hfin hr1 hxx hq hp hrow hext hnx
        go_wp2
        refine bodyPost_ret (v := .tuple #[.agg #[.bool false, .slice A ka ca], .int .i64 0]) (by simp [results, Tryd.results58, go_sem, g0, g1]) rfl ?_
        obtain ⟨v, hv, hn, he⟩ := HF.out
        injection hv with hv
        subst hv
        exact ⟨⟨_, rfl, hn⟩, he⟩
set_option maxRecDepth 100000 in
set_option maxHeartbeats 400000 in
theorem read_bad (l : List UInt8) (w : World) (hl : l.length ≤ 140737488351232) (hv : K.validL l = false) :
    Calls Tryd.prog 58 #[.string (Str l)] w (fun e w' => e = .returned (.tuple #[.agg #[.bool false, .slice none 0 0], .int .i64 1]) ∧ Ext w w') := by
  have HV := hid hv
  have hE1 : Ext w (w.alloc (.cells #[.bool false, .slice none 0 0] 59)) := (Ext.rfl' w).alloc' _
  have HE1 := hid hE1
  clear hv hE1
  go_enter Tryd.func58, Tryd.ntmps58
  go_wp2_with fail
  refine (valid_any l _ hl).mono ?_
  rintro e w1 ⟨rfl, hx1⟩
  rw [HV.out]
  obtain ⟨g0, g1, g2, g3, g4, hr0⟩ := two_facts (W := w) (H := w.heap.size) hx1 rfl
  have hE2 : Ext w w1 := HE1.out.step hx1
  clear hx1 hr0
  go_wp2
  refine bodyPost_ret (v := .tuple #[.agg #[.bool false, .slice none 0 0], .int .i64 1]) (by simp [results, Tryd.results58, go_sem, g0, g1]) rfl ?_
  exact ⟨rfl, (hE2.set' (Nat.le_refl _) _).set' (Nat.le_refl _) _⟩
end Go.Proofs.YtdbaemadphhhcaaDoor
