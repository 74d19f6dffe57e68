/- Joined texts: Plain mathematics of reading: decimal digits in groups of nine.; num.read; num.readBoth; (number).gcd; (number).power; num.combine, Add, Sub, Mul, Gcd; num.Compare, Power, Rest; num.Divide. -/
import Derived.Test.YtoilkfohhhidpaaGreatDoorJCStepFirst01
import Derived.Test.YtoilkfohhhidpaaGreatDoorJCStepFirst05
import Derived.Deep.LoopGhost
/- Plain mathematics of reading: decimal digits in groups of nine. -/
namespace Go.Proofs.YtoilkfohhhidpaaGreatDoor
open K
/-- the groups when the digits from 'left' on have been read (the lowest digit first) -/
def grp (e : List UInt8) (left j : Nat) : Nat := dvl ((e.take (9 * j + 9)).drop (max left (9 * j)))
def grps (e : List UInt8) (left m : Nat) : List Nat := (List.range m).map (grp e left)
theorem grps_len (e : List UInt8) (left m : Nat) : (grps e left m).length = m := by simp [grps]
theorem grps_at (e : List UInt8) (left m j : Nat) (h : j < m) : (grps e left m)[j]? = some (grp e left j) := by simp [grps, h]
theorem grps_start (e : List UInt8) (m : Nat) : grps e e.length m = List.replicate m 0 := by
  apply List.ext_getElem
  · simp [grps]
  · intro j h1 h2
    simp only [grps, List.getElem_map, List.getElem_range, List.getElem_replicate, grp]
    rw [List.drop_of_length_le (by rw [List.length_take]; omega)]
    rfl
theorem grps_step (e : List UInt8) (p m : Nat) (c : UInt8) (hc : e[p]? = some c) (hm : p / 9 < m) : (grps e (p + 1) m).set (p / 9) (grp e (p + 1) (p / 9) * 10 + (c.toNat - 48)) = grps e p m := by
  apply List.ext_getElem
  · simp [grps]
  · intro j h1 h2
    rw [List.getElem_set]
    obtain ⟨hp, hcc⟩ := List.getElem?_eq_some_iff.1 hc
    split
    · rename_i hj
      subst hj
      simp only [grps, List.getElem_map, List.getElem_range, grp]
      have e1 : max p (9 * (p / 9)) = p := by omega
      have e2 : (e.take (9 * (p / 9) + 9))[p]? = some c := by rw [List.getElem?_take, if_pos (by omega)]; exact hc
      rw [e1, drop_at e2, dvl]
      by_cases h9 : p + 1 = 9 * (p / 9) + 9
      · rw [List.drop_of_length_le (by rw [List.length_take]; omega), List.drop_of_length_le (by rw [List.length_take]; omega)]
        simp [dvl]
      · rw [show max (p + 1) (9 * (p / 9)) = p + 1 by omega]
        omega
    · rename_i hj
      simp only [grps, List.getElem_map, List.getElem_range, grp]
      rcases Nat.lt_or_ge j (p / 9) with h | h
      · rw [List.drop_of_length_le (by rw [List.length_take]; omega), List.drop_of_length_le (by rw [List.length_take]; omega)]
      · rw [show max (p + 1) (9 * j) = max p (9 * j) by omega]
theorem pow9 (m : Nat) : (10 : Nat) ^ (9 * m) = 1000000000 ^ m := by rw [Nat.pow_mul]
theorem lv_grps (e : List UInt8) : ∀ m, lv (grps e 0 m) = dvl (e.take (9 * m))
  | 0 => by simp [grps, lv, dvl]
  | m + 1 => by
    have h1 : grps e 0 (m + 1) = grps e 0 m ++ [grp e 0 m] := by simp [grps, List.range_succ]
    rw [h1, lv_append, lv_grps e m, grps_len]
    simp only [lv, Nat.mul_zero, Nat.add_zero]
    have h2 : e.take (9 * m + 9) = e.take (9 * m) ++ (e.take (9 * m + 9)).drop (9 * m) := by
      conv => lhs; rw [← List.take_append_drop (9 * m) (e.take (9 * m + 9))]
      rw [List.take_take, Nat.min_eq_left (by omega)]
    rw [show 9 * (m + 1) = 9 * m + 9 by omega]
    conv => rhs; rw [h2, dvl_append]
    unfold grp
    rw [show max 0 (9 * m) = 9 * m by omega]
    by_cases hl : 9 * m ≤ e.length
    · rw [List.length_take, Nat.min_eq_left hl, pow9]
    · rw [List.drop_of_length_le (by rw [List.length_take]; omega)]
      simp [dvl]
theorem grp_lt (e : List UInt8) (left j : Nat) (hd : e.all dig = true) : grp e left j < 1000000000 := by
  unfold grp
  have h1 := dvl_lt ((e.take (9 * j + 9)).drop (max left (9 * j))) (by
    rw [List.all_eq_true] at hd ⊢
    exact fun x hx => hd x (List.mem_of_mem_take (List.mem_of_mem_drop hx)))
  refine Nat.lt_of_lt_of_le h1 ?_
  rw [show (1000000000 : Nat) = 10 ^ 9 from rfl]
  apply Nat.pow_le_pow_right (by omega)
  rw [List.length_drop, List.length_take]
  omega
theorem grps_lt (e : List UInt8) (left m : Nat) (hd : e.all dig = true) : ∀ x ∈ grps e left m, x < 1000000000 := by
  intro x hx
  obtain ⟨j, _, rfl⟩ := List.mem_map.1 hx
  exact grp_lt e left j hd
/-- while a group is being read it is small enough for one digit more -/
theorem grp_open (e : List UInt8) (p : Nat) (hd : e.all dig = true) : grp e (p + 1) (p / 9) < 100000000 := by
  unfold grp
  have h1 := dvl_lt ((e.take (9 * (p / 9) + 9)).drop (max (p + 1) (9 * (p / 9)))) (by
    rw [List.all_eq_true] at hd ⊢
    exact fun x hx => hd x (List.mem_of_mem_take (List.mem_of_mem_drop hx)))
  refine Nat.lt_of_lt_of_le h1 ?_
  rw [show (100000000 : Nat) = 10 ^ 8 from rfl]
  apply Nat.pow_le_pow_right (by omega)
  rw [List.length_drop, List.length_take]
  omega
end Go.Proofs.YtoilkfohhhidpaaGreatDoor
/- num.read -/
namespace Go.Proofs.YtoilkfohhhidpaaGreatDoor
open Go.RowKit
/-- the iterator in block b stands at pos -/
def setIt (w : World) (b : Nat) (s : ByteArray) (pos : Nat) : World := { w with heap := w.heap.setIfInBounds b (.stringIter s pos) }
theorem run_next_at {P : Program} (w : World) (b : Nat) (s : ByteArray) (pos : Nat) (ty : TypeId) (hb : w.heap[b]? = some (.stringIter s pos)) (h : pos < s.size) (ha : (s[pos]'h).toNat < 128) :
    (Instr.next (.pointer (some ⟨b, 0, none⟩)) true ty).run P w = .ok (.tuple #[.bool true, .int .i64 pos, .int .i32 (s[pos]'h).toNat]) (setIt w b s (pos + 1)) := by
  simp only [Instr.next, getObj, setObj, Sem.run_bind, Sem.run, hb, Result.andThen, h, if_true, decode_ascii s pos h ha, setIt]
  simp [goInt, Sem.run, hb]
theorem run_next_done {P : Program} (w : World) (b : Nat) (s : ByteArray) (pos : Nat) (ty : TypeId) (hb : w.heap[b]? = some (.stringIter s pos)) (h : ¬ pos < s.size) :
    (Instr.next (.pointer (some ⟨b, 0, none⟩)) true ty).run P w = .ok (.tuple #[.bool false]) w := by
  simp [Instr.next, getObj, Sem.run, hb, h]
theorem setIt_same {w : World} {b : Nat} {s : ByteArray} {pos pos' : Nat} (hb : w.heap[b]? = some (.stringIter s pos')) : (setIt w b s pos).heap[b]? = some (.stringIter s pos) := by
  have hl : b < w.heap.size := by
    rcases Nat.lt_or_ge b w.heap.size with hl | hl
    · exact hl
    · rw [Array.getElem?_eq_none hl] at hb; cases hb
  unfold setIt
  simp [Array.getElem?_setIfInBounds, hl]
theorem setIt_other {w : World} {b k : Nat} {s : ByteArray} {pos : Nat} (hk : k ≠ b) : (setIt w b s pos).heap[k]? = w.heap[k]? := by
  unfold setIt
  rw [Array.getElem?_setIfInBounds, if_neg (fun e => hk e.symm)]
theorem Ext.setIt {a w : World} (h : Ext a w) {b : Nat} (hb : a.heap.size ≤ b) (s : ByteArray) (pos : Nat) : Ext a (setIt w b s pos) :=
  ⟨h.os, h.tape, h.output, by unfold Proofs.YtoilkfohhhidpaaGreatDoor.setIt; simpa using h.size, fun k hk => (setIt_other (by omega)).trans (h.block k hk)⟩
theorem setCell_heap {w : World} {a : Addr} {u : Value} {k : Nat} (h : k ≠ a.block) : (w.setCell a u).heap[k]? = w.heap[k]? := Below.heap_setCell w a u k h
def ReadPost (l : List UInt8) (w : World) (e : Ending) (w' : World) : Prop :=
  (K.validL l = true → ∃ v, e = .returned (.tuple #[v, .int .i64 0]) ∧ NumV w' v (K.numL l)) ∧ (K.validL l = false → e = .returned (.tuple #[.agg #[.bool false, .slice none 0 0], .int .i64 1])) ∧ Ext w w'
theorem body_all {l : List UInt8} (h : K.validL l = true) : (K.body l).all K.dig = true ∧ (K.body l).length ≤ 2000 ∧ 0 < (K.body l).length := by
  have e := (K.txt_numL l h).1
  have h2 := (K.fits_len _).1 (K.txt_numL l h).2
  rw [← e, K.body_txt]
  exact ⟨K.dgs_dig _, h2, K.len_pos (K.dgs_ne _)⟩
theorem body_val {l : List UInt8} (h : K.validL l = true) : K.dv (K.body l) = (K.numL l).natAbs ∧ (K.body l).length + (if K.numL l < 0 then 1 else 0) = l.length := by
  have e := (K.txt_numL l h).1
  constructor
  · conv => lhs; rw [← e]
    rw [K.body_txt, K.dv_dgs]
  · conv => lhs; lhs; rw [← e]
    conv => rhs; rw [← e]
    rw [K.body_txt]
    unfold K.txt
    split <;> simp
set_option maxRecDepth 100000 in
set_option maxHeartbeats 1600000 in
theorem read_ok (l : List UInt8) (w : World) (hl : l.length ≤ 140737488351232) (hv : K.validL l = true) :
    Calls Tryz.prog 60 #[.string (Str l)] w (fun e w' => (∃ v, e = .returned (.tuple #[v, .int .i64 0]) ∧ NumV w' v (K.numL l)) ∧ Ext w w') := by
  obtain ⟨hd, hlen, hpos⟩ := body_all hv
  obtain ⟨hval, hll⟩ := body_val hv
  have HV := hid hv
  have HD := hid hd
  have HVL := hid hval
  obtain ⟨b, hb⟩ : ∃ b, K.body l = b := ⟨_, rfl⟩
  obtain ⟨L, hL⟩ : ∃ L, b.length = L := ⟨_, rfl⟩
  rw [hb] at hd hlen hpos hll
  rw [hL] at hlen hpos hll
  have HB := hid hb
  have HL := hid hL
  have s1 := Str_size l
  have s2 : (Str b).size = L := by rw [Str_size, hL]
  have hE1 : Ext w (w.alloc (.cells #[.bool false, .slice none 0 0] 84)) := (Ext.rfl' w).alloc' _
  have HE1 := hid hE1
  have hmk := fun w => mkNat ((L + 8) / 9) (((L : Int) + 9 - 1) / 9) (by omega) (by omega) w
  have hrev : (b.reverse).all K.dig = true := by simpa using hd
  have HR := hid hrev
  have hneg : (decide ((L : Int) < (l.length : Int))) = decide (K.numL l < 0) := by
    rw [Bool.eq_iff_iff]; simp only [decide_eq_true_eq]; split at hll <;> omega
  have HN := hid hneg
  clear hv hd hval hb hL hE1 hrev hneg hll
  go_enter Tryz.func60, Tryz.ntmps60
  go_wp2_with fail
  refine (valid_any l _ hl).mono ?_
  rintro e w1 ⟨rfl, hx1⟩
  rw [HV.out]
  go_wp2_with fail
  refine (trimPrefix_any _ _).mono ?_
  rintro e w2 ⟨rfl, rfl⟩
  rw [HB.out]
  obtain ⟨m, hm⟩ : ∃ m, (L + 8) / 9 = m := ⟨_, rfl⟩
  have hLm : L ≤ 9 * m := by omega
  have hm3 : m ≤ 300 := by omega
  have hE2 : Ext w w1 := HE1.out.step hx1
  obtain ⟨-, -, -, -, -, hr0⟩ := two_facts (W := w) (H := w.heap.size) hx1 rfl
  have HM := hid hm
  have HX2 := hid hE2
  have HR0 := hid hr0
  have HX1 := hid hx1
  clear hE2 hr0 hm
  go_wp2_with fail
  rw [HM.out]
  have hrow0 : Row ((w1.alloc (.cells (madeCells #[.int .u64 0] m) 104)).iter (Str b) 0) w1.heap.size 104 (U64s (grps b.reverse L m)) := by
    have h1 := (Row.made w1 104 (.int .u64 0) m).alloc (.stringIter (Str b) 0)
    rw [U64s_zeros] at h1
    have h2 := grps_start b.reverse m
    rw [List.length_reverse, HL.out] at h2
    rw [h2]
    exact h1
  have hit0 : ((w1.alloc (.cells (madeCells #[.int .u64 0] m) 104)).iter (Str b) 0).heap[w1.heap.size + 1]? = some (.stringIter (Str b) 0) := by
    have h := World.iter_heap (w1.alloc (.cells (madeCells #[.int .u64 0] m) 104)) (Str b) 0
    simpa using h
  have hext0 : Ext w1 ((w1.alloc (.cells (madeCells #[.int .u64 0] m) 104)).iter (Str b) 0) := ((Ext.rfl' w1).alloc' _).step (Ext.iter _ _ _)
  clear hmk
  go_loopw [5] (fun left wr => ∃ k pos : Nat, Hid (pos + k = L) ∧ k ≤ L ∧ left = .int .i64 k ∧ wr.heap[w1.heap.size + 1]? = some (.stringIter (Str b) pos) ∧ Row wr w1.heap.size 104 (U64s (grps b.reverse k m)) ∧ Ext w1 wr) (fun left _ => (intOf left).toNat)
  case atStart => exact ⟨L, 0, hid (by omega), by omega, rfl, hit0, hrow0, hext0⟩
  case round =>
    obtain ⟨k, pos, hpk, hkL, rfl, hit, hrow, hext⟩ := hrel
    clear hrow0 hit0 hext0
    by_cases hk0 : 0 < k
    · obtain ⟨p, rfl⟩ : ∃ p, k = p + 1 := ⟨k - 1, by omega⟩
      obtain ⟨x, ex⟩ : ∃ x, b[pos]? = some x := ⟨_, List.getElem?_eq_getElem (by rw [HL.out]; have := hpk.out; omega)⟩
      have ee : b.reverse[p]? = some x := by
        rw [List.getElem?_reverse (by rw [HL.out]; omega), HL.out, show L - 1 - p = pos by have := hpk.out; omega]
        exact ex
      have hdx : K.dig x = true := by
        have h := HR.out
        rw [List.all_eq_true] at h
        exact h x (List.mem_of_getElem? ee)
      have hx48 : 48 ≤ x.toNat ∧ x.toNat ≤ 57 := by unfold K.dig at hdx; simpa using hdx
      obtain ⟨hh, e0⟩ := Str_at ex
      have hnx : ∀ ty, (Instr.next (.pointer (some ⟨w1.heap.size + 1, 0, none⟩)) true ty).run Tryz.prog wr = .ok (.tuple #[.bool true, .int .i64 pos, .int .i32 x.toNat]) (setIt wr (w1.heap.size + 1) (Str b) (pos + 1)) := fun ty => by
        have h := run_next_at (P := Tryz.prog) wr (w1.heap.size + 1) (Str b) pos ty hit hh (by rw [e0]; omega)
        rw [e0] at h
        exact h
      have hpm : p / 9 < m := by omega
      obtain ⟨y, hy⟩ : ∃ y, grp b.reverse (p + 1) (p / 9) = y := ⟨_, rfl⟩
      have hyB : y < 100000000 := by rw [← hy]; exact grp_open _ _ HR.out
      have hrow1 : Row (setIt wr (w1.heap.size + 1) (Str b) (pos + 1)) w1.heap.size 104 (U64s (grps b.reverse (p + 1) m)) := (setIt_other (by omega)).trans hrow
      have hit1 := setIt_same (s := Str b) (pos := pos + 1) hit
      have hext1 : Ext w1 (setIt wr (w1.heap.size + 1) (Str b) (pos + 1)) := hext.setIt (by omega) _ _
      generalize setIt wr (w1.heap.size + 1) (Str b) (pos + 1) = wn at *
      have hcell : wn.cell? ⟨w1.heap.size, p / 9, none⟩ = some (.int .u64 y) := by
        rw [hrow1.cell, ← hy]
        exact U64s_at (grps_at _ _ _ _ hpm)
      have hfree := hrow1.free (p / 9)
      have hnew : Row (wn.setCell ⟨w1.heap.size, p / 9, none⟩ (.int .u64 ((y : Int) * 10 + ((x.toNat : Int) - 48)))) w1.heap.size 104 (U64s (grps b.reverse p m)) := by
        have h1 := hrow1.set (p / 9) (.int .u64 ((y : Int) * 10 + ((x.toNat : Int) - 48)))
        have e1 : ((y : Int) * 10 + ((x.toNat : Int) - 48)) = ((y * 10 + (x.toNat - 48) : Nat) : Int) := by omega
        rw [e1, U64s_set, ← hy, grps_step b.reverse p m x ee hpm] at h1
        rw [e1, ← hy]
        exact h1
      have hit2 : (wn.setCell ⟨w1.heap.size, p / 9, none⟩ (.int .u64 ((y : Int) * 10 + ((x.toNat : Int) - 48)))).heap[w1.heap.size + 1]? = some (.stringIter (Str b) (pos + 1)) := by
        rw [setCell_heap (by show w1.heap.size + 1 ≠ w1.heap.size; omega)]; exact hit1
      have HNEW := hid hnew
      have HIT := hid hit2
      have HEX := hid (hext1.set' (p := ⟨w1.heap.size, p / 9, none⟩) (Nat.le_refl _) (.int .u64 ((y : Int) * 10 + ((x.toNat : Int) - 48))))
      have hxa : 48 ≤ x.toNat := hx48.1
      have hxb : x.toNat ≤ 57 := hx48.2
      clear ex ee hdx hx48 e0 hh hit hrow hrow1 hit1 hext1 hnew hit2 hy hk0
      go_wp2
      go_roundw
      case rel => exact ⟨p, pos + 1, hid (by have := hpk.out; omega), by omega, rfl, HIT.out, HNEW.out, HEX.out⟩
      case measure => simp [intOf]
    · obtain rfl : k = 0 := by omega
      have hnx : ∀ ty, (Instr.next (.pointer (some ⟨w1.heap.size + 1, 0, none⟩)) true ty).run Tryz.prog wr = .ok (.tuple #[.bool false]) wr := fun ty => run_next_done (P := Tryz.prog) wr (w1.heap.size + 1) (Str b) pos ty hit (by rw [s2]; have := hpk.out; omega)
      have hglen := grps_len b.reverse 0 m
      have hglt := grps_lt b.reverse 0 m HR.out
      have hgval : K.lv (grps b.reverse 0 m) = (K.numL l).natAbs := by
        rw [lv_grps, List.take_of_length_le (by rw [List.length_reverse, HL.out]; exact hLm)]
        have h := HVL.out
        rw [HB.out] at h
        exact h
      generalize grps b.reverse 0 m = G at *
      have HGL := hid hglen
      have HGV := hid hgval
      clear hglen hgval hit
      go_wp2_with fail
      refine (trimmed _ m m G _ hrow.rd0 HGL.out (by omega) (by omega)).mono ?_
      intro e w' hp
      have hq : SumPost (K.numL l).natAbs w1 e w' := SumPost.of_trim hrow hext hglt HGV.out e w' (by rw [HGL.out]; exact hp)
      obtain ⟨v, rfl, hq, hxx⟩ := hq
      obtain ⟨A, ka, ca, rfl⟩ := hq.slice
      have hr1 := HR0.out.ext hxx
      obtain ⟨g0, g1, g2, g3⟩ := hr1.facts
      by_cases hs : L < l.length
      · have hfin := NumPost.stored (w := w) (W := w) (n := K.numL l) (t := 84) (HX1.out.step hxx) (Ext.rfl' w) (H := w.heap.size) rfl hq true (by rw [← HN.out]; symm; simp; omega)
        have HF := hid hfin
        clear hfin hr1 hxx hq hp hrow hext hnx
        go_wp2
        refine bodyPost_ret (v := .tuple #[.agg #[.bool true, .slice A ka ca], .int .i64 0]) (by simp [results, Tryz.results60, go_sem, g0, g1]) rfl ?_
        obtain ⟨v, hv, hn, he⟩ := HF.out
        injection hv with hv
        subst hv
        exact ⟨⟨_, rfl, hn⟩, he⟩
      · have hfin := NumPost.stored (w := w) (W := w) (n := K.numL l) (t := 84) (HX1.out.step hxx) (Ext.rfl' w) (H := w.heap.size) rfl hq false (by rw [← HN.out]; symm; simp; omega)
        have HF := hid hfin
        clear hfin hr1 hxx hq hp hrow hext hnx
        go_wp2
        refine bodyPost_ret (v := .tuple #[.agg #[.bool false, .slice A ka ca], .int .i64 0]) (by simp [results, Tryz.results60, go_sem, g0, g1]) rfl ?_
        obtain ⟨v, hv, hn, he⟩ := HF.out
        injection hv with hv
        subst hv
        exact ⟨⟨_, rfl, hn⟩, he⟩
set_option maxRecDepth 100000 in
set_option maxHeartbeats 400000 in
theorem read_bad (l : List UInt8) (w : World) (hl : l.length ≤ 140737488351232) (hv : K.validL l = false) :
    Calls Tryz.prog 60 #[.string (Str l)] w (fun e w' => e = .returned (.tuple #[.agg #[.bool false, .slice none 0 0], .int .i64 1]) ∧ Ext w w') := by
  have HV := hid hv
  have hE1 : Ext w (w.alloc (.cells #[.bool false, .slice none 0 0] 84)) := (Ext.rfl' w).alloc' _
  have HE1 := hid hE1
  clear hv hE1
  go_enter Tryz.func60, Tryz.ntmps60
  go_wp2_with fail
  refine (valid_any l _ hl).mono ?_
  rintro e w1 ⟨rfl, hx1⟩
  rw [HV.out]
  obtain ⟨g0, g1, g2, g3, g4, hr0⟩ := two_facts (W := w) (H := w.heap.size) hx1 rfl
  have hE2 : Ext w w1 := HE1.out.step hx1
  clear hx1 hr0
  go_wp2
  refine bodyPost_ret (v := .tuple #[.agg #[.bool false, .slice none 0 0], .int .i64 1]) (by simp [results, Tryz.results60, go_sem, g0, g1]) rfl ?_
  exact ⟨rfl, (hE2.set' (Nat.le_refl _) _).set' (Nat.le_refl _) _⟩
end Go.Proofs.YtoilkfohhhidpaaGreatDoor
/- num.readBoth -/
namespace Go.Proofs.YtoilkfohhhidpaaGreatDoor
open Go.RowKit
abbrev Z : Obj := .cells #[.bool false, .slice none 0 0] 84
theorem twoZ {w w' : World} (e : Ext ((w.alloc (.cells #[.bool false, .slice none 0 0] 84)).alloc (.cells #[.bool false, .slice none 0 0] 84)) w') :
    Row w' w.heap.size 84 [.bool false, .slice none 0 0] ∧ Row w' (w.heap.size + 1) 84 [.bool false, .slice none 0 0] ∧ w.heap.size + 1 < w'.heap.size ∧ Ext w w' := by
  have h1 := two_facts (W := w) (H := w.heap.size) (t := 84) (a := .bool false) (b := .slice none 0 0) (Ext.step ((Ext.rfl' _).alloc' _) e) rfl
  have h2 := two_facts (H := w.heap.size + 1) e (by simp)
  exact ⟨h1.2.2.2.2.2, h2.2.2.2.2.2, h2.2.2.2.2.1, (((Ext.rfl' w).alloc' _).alloc' _).step e⟩
def BothOk (m n : Int) (w : World) (e : Ending) (w' : World) : Prop := (∃ v1 v2, e = .returned (.tuple #[v1, v2, .int .i64 0]) ∧ NumV w' v1 m ∧ NumV w' v2 n) ∧ Ext w w'
def BothBad (w : World) (e : Ending) (w' : World) : Prop := e = .returned (.tuple #[.agg #[.bool false, .slice none 0 0], .agg #[.bool false, .slice none 0 0], .int .i64 1]) ∧ Ext w w'
set_option maxRecDepth 100000 in
set_option maxHeartbeats 1600000 in
theorem both_bad1 (l1 l2 : List UInt8) (w : World) (h1 : l1.length ≤ 140737488351232) (v1 : K.validL l1 = false) :
    Calls Tryz.prog 54 #[.string (Str l1), .string (Str l2)] w (BothBad w) := by
  go_enter Tryz.func54, Tryz.ntmps54
  go_wp2_with fail
  refine (read_bad l1 _ h1 v1).mono ?_
  rintro e w1 ⟨rfl, hx1⟩
  obtain ⟨r0, r1, hl, hE⟩ := twoZ hx1
  obtain ⟨g0, g1, g2, g3⟩ := (r0.alloc (.cells #[.bool false, .slice none 0 0] 84)).facts
  obtain ⟨i0, i1, i2, i3⟩ := (r1.alloc (.cells #[.bool false, .slice none 0 0] 84)).facts
  have hn1 : ¬ (w.heap.size = w1.heap.size) := by omega
  have hn2 : ¬ (w.heap.size + 1 = w1.heap.size) := by omega
  clear hx1 r0 r1
  go_wp2
  refine bodyPost_ret (v := .tuple #[.agg #[.bool false, .slice none 0 0], .agg #[.bool false, .slice none 0 0], .int .i64 1]) (by simp [results, Tryz.results54, go_sem, g0, g1, i0, i1]) rfl ?_
  exact ⟨rfl, ((((hE.alloc' _).set' (by exact Nat.le_refl _) _).set' (by exact Nat.le_refl _) _).set' (by exact Nat.le_succ _) _).set' (by exact Nat.le_succ _) _⟩
set_option maxRecDepth 100000 in
set_option maxHeartbeats 1600000 in
theorem both_bad2 (l1 l2 : List UInt8) (w : World) (h1 : l1.length ≤ 140737488351232) (h2 : l2.length ≤ 140737488351232) (v1 : K.validL l1 = true) (v2 : K.validL l2 = false) :
    Calls Tryz.prog 54 #[.string (Str l1), .string (Str l2)] w (BothBad w) := by
  go_enter Tryz.func54, Tryz.ntmps54
  go_wp2_with fail
  refine (read_ok l1 _ h1 v1).mono ?_
  rintro e w1 ⟨⟨v1, rfl, ⟨z1, b1, rfl, hb1, hz1⟩⟩, hx1⟩
  obtain ⟨A1, k1, c1, rfl⟩ := hz1.slice
  obtain ⟨r0, r1, hl, hE⟩ := twoZ hx1
  clear hx1
  go_wp2_with fail
  refine (read_bad l2 _ h2 v2).mono ?_
  rintro e w2 ⟨rfl, hx2⟩
  have hx2' : Ext w1 w2 := ((Ext.rfl' w1).alloc' _).step hx2
  have hE2 := hE.step hx2'
  obtain ⟨g0, g1, g2, g3⟩ := ((r0.ext hx2').alloc (.cells #[.bool false, .slice none 0 0] 84)).facts
  obtain ⟨i0, i1, i2, i3⟩ := ((r1.ext hx2').alloc (.cells #[.bool false, .slice none 0 0] 84)).facts
  clear hx2 r0 r1 hx2' hE
  go_wp2
  refine bodyPost_ret (v := .tuple #[.agg #[.bool false, .slice none 0 0], .agg #[.bool false, .slice none 0 0], .int .i64 1]) (by simp [results, Tryz.results54, go_sem, g0, g1, i0, i1]) rfl ?_
  exact ⟨rfl, ((((hE2.alloc' _).set' (by exact Nat.le_refl _) _).set' (by exact Nat.le_refl _) _).set' (by exact Nat.le_succ _) _).set' (by exact Nat.le_succ _) _⟩
set_option maxRecDepth 100000 in
set_option maxHeartbeats 1600000 in
theorem both_ok (l1 l2 : List UInt8) (w : World) (h1 : l1.length ≤ 140737488351232) (h2 : l2.length ≤ 140737488351232) (v1 : K.validL l1 = true) (v2 : K.validL l2 = true) :
    Calls Tryz.prog 54 #[.string (Str l1), .string (Str l2)] w (BothOk (K.numL l1) (K.numL l2) w) := by
  go_enter Tryz.func54, Tryz.ntmps54
  go_wp2_with fail
  refine (read_ok l1 _ h1 v1).mono ?_
  rintro e w1 ⟨⟨v1, rfl, ⟨z1, b1, rfl, hb1, hz1⟩⟩, hx1⟩
  obtain ⟨A1, k1, c1, rfl⟩ := hz1.slice
  obtain ⟨r0, r1, hl, hE⟩ := twoZ hx1
  clear hx1
  go_wp2_with fail
  refine (read_ok l2 _ h2 v2).mono ?_
  rintro e w2 ⟨⟨v2, rfl, ⟨z2, b2, rfl, hb2, hz2⟩⟩, hx2⟩
  obtain ⟨A2, k2, c2, rfl⟩ := hz2.slice
  have hx2' : Ext w1 w2 := ((Ext.rfl' w1).alloc' _).step hx2
  have hE2 := hE.step hx2'
  obtain ⟨-, -, -, -, hl1, rr⟩ := two_facts hx2 rfl
  have R0 := (r0.ext hx2').alloc (.cells #[.bool b2, .slice A2 k2 c2] 84)
  have R1 := (r1.ext hx2').alloc (.cells #[.bool b2, .slice A2 k2 c2] 84)
  obtain ⟨g0, g1, g2, g3⟩ := R0.facts
  obtain ⟨i0, i1, i2, i3⟩ := R1.facts
  obtain ⟨k0, k1', -, -⟩ := (rr.alloc (.cells #[.bool b2, .slice A2 k2 c2] 84)).facts
  have hfin := PairPost.stored (w := w) R0 R1 (hE2.alloc' _) (Nat.le_refl _) hb1 hb2 (hz1.ext (hx2'.alloc' (.cells #[.bool b2, .slice A2 k2 c2] 84))) (hz2.ext ((Ext.rfl' w2).alloc' (.cells #[.bool b2, .slice A2 k2 c2] 84)))
  have HF := hid hfin
  have hn1 : ¬ (w.heap.size = w1.heap.size) := by omega
  have hn2 : ¬ (w.heap.size + 1 = w1.heap.size) := by omega
  have hn3 : ¬ (w1.heap.size = w.heap.size) := by omega
  have hn4 : ¬ (w1.heap.size = w.heap.size + 1) := by omega
  have hn5 : ¬ (w.heap.size = w2.heap.size) := by omega
  have hn6 : ¬ (w.heap.size + 1 = w2.heap.size) := by omega
  have hn7 : ¬ (w2.heap.size = w.heap.size) := by omega
  have hn8 : ¬ (w2.heap.size = w.heap.size + 1) := by omega
  clear hx2 r0 r1 hx2' hE hfin hz1 hz2 R0 R1 rr hb1 hb2
  go_wp2_with fail
  go_region_held3 (fun w' => w'.cell? ⟨w1.heap.size, 0, none⟩ = some (.bool b1) ∧ w'.cell? ⟨w1.heap.size, 1, none⟩ = some (.slice A1 k1 c1) ∧ w'.cell? ⟨w2.heap.size, 0, none⟩ = some (.bool b2) ∧ w'.cell? ⟨w2.heap.size, 1, none⟩ = some (.slice A2 k2 c2))
    (go_keep) (fail)
  go_wp2
  refine bodyPost_ret (v := .tuple #[.agg #[.bool b1, .slice A1 k1 c1], .agg #[.bool b2, .slice A2 k2 c2], .int .i64 0]) (by simp [results, Tryz.results54, go_sem, g0, g1, i0, i1]) rfl ?_
  obtain ⟨y1, y2, hy, m1, m2, he⟩ := HF.out
  injection hy with hy
  injection hy with hy
  simp only [Array.mk.injEq, List.cons.injEq, and_true] at hy
  obtain ⟨rfl, rfl⟩ := hy
  exact ⟨⟨_, _, rfl, m1.ext (Ext.rfl' _).drew', m2.ext (Ext.rfl' _).drew'⟩, he.drew'⟩
end Go.Proofs.YtoilkfohhhidpaaGreatDoor
/- (number).gcd -/
namespace Go.Proofs.YtoilkfohhhidpaaGreatDoor
open Go.RowKit Go.Deep
theorem gcd_step (x y : Nat) (h : 0 < y) : Nat.gcd y (x % y) = Nat.gcd x y := by
  rw [Nat.gcd_comm x y, Nat.gcd_rec y x, Nat.gcd_comm]
end Go.Proofs.YtoilkfohhhidpaaGreatDoor
/- (number).power -/
namespace Go.Proofs.YtoilkfohhhidpaaGreatDoor
open Go.RowKit
/-! ### bounds by limbs -/
def TOP (k : Nat) : Nat := 1000000000 ^ k
theorem TOP_add (a b : Nat) : TOP (a + b) = TOP a * TOP b := Nat.pow_add _ _ _
theorem TOP_pos (k : Nat) : 0 < TOP k := Nat.pow_pos (by omega)
theorem TOP_mono {a b : Nat} (h : a ≤ b) : TOP a ≤ TOP b := Nat.pow_le_pow_right (by omega) h
theorem nines_top (k : Nat) : K.lv (List.replicate k 999999999) + 1 = TOP k := lv_nines k
theorem BIG_top : BIG + 1 = TOP 1000 := nines_top 1000
theorem pw_top (k : Nat) : K.pw (9 * k) = TOP k := by unfold K.pw TOP; rw [Nat.pow_mul]
theorem LIM_top : K.LIM ≤ TOP 223 := by rw [← pw_top]; exact K.pw_mono (by omega)
theorem le_big {x a : Nat} (h : x < TOP a) (ha : a ≤ 1000) : x ≤ BIG := by
  have h1 := TOP_mono ha
  have h2 := BIG_top
  omega
theorem mul_top {x y a b : Nat} (hx : x < TOP a) (hy : y < TOP b) : x * y < TOP (a + b) := by rw [TOP_add]; exact Nat.mul_lt_mul'' hx hy
theorem fits_top {m : Int} (h : K.fits m) : m.natAbs < TOP 223 := Nat.lt_of_lt_of_le h LIM_top
theorem fits_big {m : Int} (h : K.fits m) : m.natAbs ≤ BIG := le_big (fits_top h) (by omega)
theorem NatV.top {w : World} {A : Option Addr} {k c n : Nat} (h : NatV w (.slice A k c) n) : n < TOP k ∧ (0 < k → TOP (k - 1) ≤ n) := by
  obtain ⟨A', k', c', xs, hv, hl, _, _, hL, hm⟩ := h
  injection hv with _ hk _
  subst hk hm hl
  exact ⟨K.lv_lt xs hL.1, fun h0 => hL.ge (by intro e; subst e; simp at h0)⟩
theorem pow_big {m : Int} {k n : Nat} (hk : k ≤ n) (h : 1 < (m ^ k).natAbs) : (m ^ k).natAbs ≤ (m ^ n).natAbs := by
  rw [Int.natAbs_pow] at h ⊢
  rw [Int.natAbs_pow]
  have h0 : m.natAbs ≠ 0 := by
    intro e; rw [e] at h
    rcases Nat.eq_zero_or_pos k with h1 | h1
    · subst h1; simp at h
    · rw [Nat.zero_pow h1] at h; omega
  exact Nat.pow_le_pow_right (by omega) hk
theorem band1 (q : Nat) (hq : q < 9223372036854775808) : bits .and .i64 (q : Int) 1 = ((q % 2 : Nat) : Int) := by
  have e1 : (BitVec.ofInt 64 (q : Int)).toNat = q := by
    rw [BitVec.ofInt_natCast, BitVec.toNat_ofNat]; exact Nat.mod_eq_of_lt (by omega)
  show IntKind.i64.wrap ((BitVec.ofInt 64 (q : Int) &&& BitVec.ofInt 64 1).toNat : Int) = _
  rw [BitVec.toNat_and, e1, show (BitVec.ofInt 64 1).toNat = 1 from rfl, Nat.and_one_is_mod, IntKind.wrap_i64]
  omega
theorem half (n j : Nat) : n / 2 ^ j = 2 * (n / 2 ^ (j + 1)) + n / 2 ^ j % 2 := by
  rw [Nat.pow_succ, ← Nat.div_div_eq_div_mul]; omega

def PowInv (w : World) (ba : Bool) (A : Option Addr) (ka ca : Nat) (r : Int) (wr : World) : Prop :=
  ∃ b A1 k1 c1, Row wr w.heap.size 84 [.bool ba, .slice A ka ca] ∧ Row wr (w.heap.size + 1) 84 [.bool false, .slice none 0 0] ∧ Row wr (w.heap.size + 1 + 1 + 1) 84 [.bool b, .slice A1 k1 c1] ∧
    Hid (b = decide (r < 0)) ∧ NatV wr (.slice A1 k1 c1) r.natAbs ∧ Ext w wr
theorem NumV.mk' {w : World} {b : Bool} {sz : Value} {n : Int} (hb : Hid (b = decide (n < 0))) (hz : NatV w sz n.natAbs) : NumV w (.agg #[.bool b, sz]) n := ⟨sz, b, rfl, hb, hz⟩
/-- the variable is overwritten -/
theorem PowInv.put {w wr w' : World} {ba b b' : Bool} {A A1 A2 : Option Addr} {ka ca k1 c1 k2 c2 : Nat} {r : Int} (h0 : Row wr w.heap.size 84 [.bool ba, .slice A ka ca]) (h1 : Row wr (w.heap.size + 1) 84 [.bool false, .slice none 0 0])
    (h2 : Row wr (w.heap.size + 1 + 1 + 1) 84 [.bool b, .slice A1 k1 c1]) (hw : Ext w wr) (hx : Ext wr w') (hb : Hid (b' = decide (r < 0))) (hz : NatV w' (.slice A2 k2 c2) r.natAbs) :
    let W := (w'.setCell ⟨w.heap.size + 1 + 1 + 1, 0, none⟩ (.bool b')).setCell ⟨w.heap.size + 1 + 1 + 1, 1, none⟩ (.slice A2 k2 c2)
    Row W w.heap.size 84 [.bool ba, .slice A ka ca] ∧ Row W (w.heap.size + 1) 84 [.bool false, .slice none 0 0] ∧ Row W (w.heap.size + 1 + 1 + 1) 84 [.bool b', .slice A2 k2 c2] ∧ NatV W (.slice A2 k2 c2) r.natAbs ∧ Ext w W := by
  have r0 := h0.ext hx
  have r1 := h1.ext hx
  have r2 := h2.ext hx
  exact ⟨(r0.far (by show _ ≠ w.heap.size + 1 + 1 + 1; omega) _).far (by show _ ≠ w.heap.size + 1 + 1 + 1; omega) _, (r1.far (by show _ ≠ w.heap.size + 1 + 1 + 1; omega) _).far (by show _ ≠ w.heap.size + 1 + 1 + 1; omega) _, (r2.set 0 (.bool b')).set 1 (.slice A2 k2 c2), hz.two r2,
    ((hw.step hx).set' (by show _ ≤ w.heap.size + 1 + 1 + 1; omega) _).set' (by show _ ≤ w.heap.size + 1 + 1 + 1; omega) _⟩
def PowPost (m : Int) (n : Nat) (w : World) (e : Ending) (w' : World) : Prop :=
  ∃ v r, e = .returned v ∧ NumV w' v r ∧ r.natAbs ≤ BIG ∧ (r = m ^ n ∨ (¬ K.fits r ∧ ¬ K.fits (m ^ n))) ∧ Ext w w'
/-- the variable becomes the result -/
theorem PowPost.stored {w W : World} {b : Bool} {A1 : Option Addr} {k1 c1 : Nat} {m r : Int} {n : Nat} (r1 : Row W (w.heap.size + 1) 84 [.bool false, .slice none 0 0]) (hb : Hid (b = decide (r < 0))) (hz : NatV W (.slice A1 k1 c1) r.natAbs) (he : Ext w W)
    (hB : r.natAbs ≤ BIG) (hr : r = m ^ n ∨ (¬ K.fits r ∧ ¬ K.fits (m ^ n))) :
    PowPost m n w (.returned (.agg #[.bool b, .slice A1 k1 c1])) ((W.setCell ⟨w.heap.size + 1, 0, none⟩ (.bool b)).setCell ⟨w.heap.size + 1, 1, none⟩ (.slice A1 k1 c1)) :=
  ⟨_, r, rfl, NumV.mk' hb (hz.two r1), hB, hr, (he.set' (by show _ ≤ w.heap.size + 1; omega) _).set' (by show _ ≤ w.heap.size + 1; omega) _⟩
end Go.Proofs.YtoilkfohhhidpaaGreatDoor
/- num.combine, Add, Sub, Mul, Gcd -/
namespace Go.Proofs.YtoilkfohhhidpaaGreatDoor
open Go.RowKit
theorem enter_of {P : Program} {f : FuncId} {fn : Func} (hf : P.funcs[f]? = some fn) (hname : (fn.name == "runtime.NumGoroutine") = false) (hb : fn.body.isSome = true) (args : Array Value) (w : World) :
    (callFunc f args).run P w = .ok (.enter f args) w := by
  obtain ⟨c, hc⟩ := Option.isSome_iff_exists.1 hb
  have h1 : fn.name ≠ "runtime.NumGoroutine" := by simpa using hname
  simp [callFunc, hf, h1, hc]
def BadStr (w : World) (e : Ending) (w' : World) : Prop := e = .returned (.tuple #[.string ⟨#[]⟩, .int .i64 1]) ∧ Ext w w'
theorem told_step {n : Int} {w w1 : World} {e : Ending} {w' : World} (h : Ext w w1) (k : ToldPost n w1 e w') : ToldPost n w e w' := ⟨k.1, k.2.1, h.step k.2.2⟩
set_option maxRecDepth 100000 in
set_option maxHeartbeats 800000 in
theorem combine_ok (f : FuncId) (hcf : ∀ args W, (callFunc f args).run Tryz.prog W = .ok (.enter f args) W) (k : Int) (l1 l2 : List UInt8) (w : World) (h1 : l1.length ≤ 140737488351232) (h2 : l2.length ≤ 140737488351232) (v1 : K.validL l1 = true) (v2 : K.validL l2 = true) (ht : Tab w)
    (hop : Hid (∀ W va vb, NumV W va (K.numL l1) → NumV W vb (K.numL l2) → Calls Tryz.prog f #[va, vb] W (NumPost k W))) (hk : k.natAbs ≤ BIG) :
    Calls Tryz.prog 99 #[.string (Str l1), .string (Str l2), .func (.func f) #[] #[]] w (ToldPost k w) := by
  go_enter Tryz.func99, Tryz.ntmps99
  go_wp2_with fail
  refine (both_ok l1 l2 w h1 h2 v1 v2).mono ?_
  rintro e w1 ⟨⟨y1, y2, rfl, ⟨z1, b1, rfl, hb1, hz1⟩, ⟨z2, b2, rfl, hb2, hz2⟩⟩, hx1⟩
  obtain ⟨A1, k1, c1, rfl⟩ := hz1.slice
  obtain ⟨A2, k2, c2, rfl⟩ := hz2.slice
  have hE : Ext w1 ((w1.alloc (.cells #[.bool b1, .slice A1 k1 c1] 84)).alloc (.cells #[.bool b2, .slice A2 k2 c2] 84)) := ((Ext.rfl' w1).alloc' _).alloc' _
  have n1 := (NumV.mk' hb1 hz1).ext hE
  have n2 := (NumV.mk' hb2 hz2).ext hE
  have hE2 := hx1.step hE
  clear hb1 hz1 hb2 hz2 hx1 hE
  go_wp2_with fail
  refine (hop.out _ _ _ n1 n2).mono ?_
  rintro e w2 ⟨v, rfl, hv, hx2⟩
  go_wp2_with fail
  refine (write_any v k w2 hv hk (ht.ext (hE2.step hx2))).mono ?_
  intro e w3 hp
  have hq := told_step (hE2.step hx2) hp
  clear hE2 hx2 n1 n2 hv hp
  by_cases hf : K.fits k
  · have he := hq.1 hf
    subst he
    go_wp2
    go_ret2
    exact hq
  · have he := hq.2.1 hf
    subst he
    go_wp2
    go_ret2
    exact hq
set_option maxRecDepth 100000 in
set_option maxHeartbeats 800000 in
theorem combine_bad (f : Value) (l1 l2 : List UInt8) (w : World) (h1 : l1.length ≤ 140737488351232) (h2 : l2.length ≤ 140737488351232) (v : K.validL l1 = false ∨ K.validL l2 = false) :
    Calls Tryz.prog 99 #[.string (Str l1), .string (Str l2), f] w (BadStr w) := by
  have hb : Calls Tryz.prog 54 #[.string (Str l1), .string (Str l2)] w (BothBad w) := by
    cases h : K.validL l1 with
    | false => exact both_bad1 l1 l2 w h1 h
    | true =>
      rcases v with v | v
      · rw [h] at v; cases v
      · exact both_bad2 l1 l2 w h1 h2 h v
  have HB := hid hb
  clear hb
  go_enter Tryz.func99, Tryz.ntmps99
  go_wp2_with fail
  refine HB.out.mono ?_
  rintro e w1 ⟨rfl, hx1⟩
  go_wp2
  go_ret2
  exact ⟨rfl, (hx1.alloc' _).alloc' _⟩
set_option maxRecDepth 100000 in
theorem add_ok (l1 l2 : List UInt8) (w : World) (h1 : l1.length ≤ 140737488351232) (h2 : l2.length ≤ 140737488351232) (v1 : K.validL l1 = true) (v2 : K.validL l2 = true) (ht : Tab w) :
    Calls Tryz.prog 82 #[.string (Str l1), .string (Str l2)] w (ToldPost (K.numL l1 + K.numL l2) w) := by
  have f1 := fits_top (K.txt_numL l1 v1).2
  have f2 := fits_top (K.txt_numL l2 v2).2
  have g1 := fits_big (K.txt_numL l1 v1).2
  have g2 := fits_big (K.txt_numL l2 v2).2
  have hc := combine_ok 101 (enter_of Tryz.func101 (by kernel_rfl) (by kernel_rfl)) (K.numL l1 + K.numL l2) l1 l2 w h1 h2 v1 v2 ht (hid fun W va vb ha hb => nplus_any va vb _ _ W ha hb g1 g2) (by refine le_big (a := 224) ?_ (by omega); rw [show (224 : Nat) = 223 + 1 from rfl, TOP_add]; have := TOP_pos 223; have : TOP 1 = 1000000000 := rfl; rw [this]; omega)
  have HC := hid hc
  clear hc f1 f2 g1 g2
  go_enter Tryz.func82, Tryz.ntmps82
  go_wp2_with fail
  refine HC.out.mono ?_
  intro e w1 hq
  by_cases hf : K.fits (K.numL l1 + K.numL l2)
  · have he := hq.1 hf
    subst he
    go_wp2
    go_ret2
    exact hq
  · have he := hq.2.1 hf
    subst he
    go_wp2
    go_ret2
    exact hq
set_option maxRecDepth 100000 in
theorem add_bad (l1 l2 : List UInt8) (w : World) (h1 : l1.length ≤ 140737488351232) (h2 : l2.length ≤ 140737488351232) (v : K.validL l1 = false ∨ K.validL l2 = false) :
    Calls Tryz.prog 82 #[.string (Str l1), .string (Str l2)] w (BadStr w) := by
  go_enter Tryz.func82, Tryz.ntmps82
  go_wp2_with fail
  refine (combine_bad _ l1 l2 w h1 h2 v).mono ?_
  rintro e w1 ⟨rfl, hx⟩
  go_wp2
  go_ret2
  exact ⟨rfl, hx⟩
set_option maxRecDepth 100000 in
theorem mul_ok (l1 l2 : List UInt8) (w : World) (h1 : l1.length ≤ 140737488351232) (h2 : l2.length ≤ 140737488351232) (v1 : K.validL l1 = true) (v2 : K.validL l2 = true) (ht : Tab w) :
    Calls Tryz.prog 81 #[.string (Str l1), .string (Str l2)] w (ToldPost (K.numL l1 * K.numL l2) w) := by
  have f1 := fits_top (K.txt_numL l1 v1).2
  have f2 := fits_top (K.txt_numL l2 v2).2
  have g1 := fits_big (K.txt_numL l1 v1).2
  have g2 := fits_big (K.txt_numL l2 v2).2
  have hc := combine_ok 100 (enter_of Tryz.func100 (by kernel_rfl) (by kernel_rfl)) (K.numL l1 * K.numL l2) l1 l2 w h1 h2 v1 v2 ht (hid fun W va vb ha hb => ntimes_any va vb _ _ W ha hb g1 g2) (by rw [Int.natAbs_mul]; exact le_big (mul_top f1 f2) (by omega))
  have HC := hid hc
  clear hc f1 f2 g1 g2
  go_enter Tryz.func81, Tryz.ntmps81
  go_wp2_with fail
  refine HC.out.mono ?_
  intro e w1 hq
  by_cases hf : K.fits (K.numL l1 * K.numL l2)
  · have he := hq.1 hf
    subst he
    go_wp2
    go_ret2
    exact hq
  · have he := hq.2.1 hf
    subst he
    go_wp2
    go_ret2
    exact hq
set_option maxRecDepth 100000 in
theorem mul_bad (l1 l2 : List UInt8) (w : World) (h1 : l1.length ≤ 140737488351232) (h2 : l2.length ≤ 140737488351232) (v : K.validL l1 = false ∨ K.validL l2 = false) :
    Calls Tryz.prog 81 #[.string (Str l1), .string (Str l2)] w (BadStr w) := by
  go_enter Tryz.func81, Tryz.ntmps81
  go_wp2_with fail
  refine (combine_bad _ l1 l2 w h1 h2 v).mono ?_
  rintro e w1 ⟨rfl, hx⟩
  go_wp2
  go_ret2
  exact ⟨rfl, hx⟩
end Go.Proofs.YtoilkfohhhidpaaGreatDoor
/- num.Compare, Power, Rest -/
namespace Go.Proofs.YtoilkfohhhidpaaGreatDoor
open Go.RowKit
theorem both_bad (l1 l2 : List UInt8) (w : World) (h1 : l1.length ≤ 140737488351232) (h2 : l2.length ≤ 140737488351232) (v : K.validL l1 = false ∨ K.validL l2 = false) :
    Calls Tryz.prog 54 #[.string (Str l1), .string (Str l2)] w (BothBad w) := by
  cases h : K.validL l1 with
  | false => exact both_bad1 l1 l2 w h1 h
  | true =>
    rcases v with v | v
    · rw [h] at v; cases v
    · exact both_bad2 l1 l2 w h1 h2 h v
set_option maxRecDepth 100000 in
set_option maxHeartbeats 800000 in
theorem compare_ok (l1 l2 : List UInt8) (w : World) (h1 : l1.length ≤ 140737488351232) (h2 : l2.length ≤ 140737488351232) (v1 : K.validL l1 = true) (v2 : K.validL l2 = true) :
    Calls Tryz.prog 42 #[.string (Str l1), .string (Str l2)] w (fun e w' => e = .returned (.tuple #[.int .i64 (sgnI (K.numL l1) (K.numL l2)), .int .i64 0]) ∧ Ext w w') := by
  have g1 := fits_big (K.txt_numL l1 v1).2
  have g2 := fits_big (K.txt_numL l2 v2).2
  go_enter Tryz.func42, Tryz.ntmps42
  go_wp2_with fail
  refine (both_ok l1 l2 w h1 h2 v1 v2).mono ?_
  rintro e w1 ⟨⟨y1, y2, rfl, ⟨z1, b1, rfl, hb1, hz1⟩, ⟨z2, b2, rfl, hb2, hz2⟩⟩, hx1⟩
  obtain ⟨A1, k1, c1, rfl⟩ := hz1.slice
  obtain ⟨A2, k2, c2, rfl⟩ := hz2.slice
  have hE : Ext w1 ((w1.alloc (.cells #[.bool b1, .slice A1 k1 c1] 84)).alloc (.cells #[.bool b2, .slice A2 k2 c2] 84)) := ((Ext.rfl' w1).alloc' _).alloc' _
  have n1 := (NumV.mk' hb1 hz1).ext hE
  have n2 := (NumV.mk' hb2 hz2).ext hE
  have hE2 := hx1.step hE
  clear hb1 hz1 hb2 hz2 hx1 hE
  go_wp2_with fail
  refine (ncmp_any _ _ _ _ _ n1 n2 g1 g2).mono ?_
  rintro e w2 ⟨rfl, hx2⟩
  obtain ⟨sg, hsg⟩ : ∃ sg, sgnI (K.numL l1) (K.numL l2) = sg := ⟨_, rfl⟩
  rw [hsg]
  have HSG := hid hsg
  clear hsg
  go_wp2
  go_ret2
  exact ⟨by rw [HSG.out]; rfl, hE2.step hx2⟩
set_option maxRecDepth 100000 in
set_option maxHeartbeats 800000 in
theorem compare_bad (l1 l2 : List UInt8) (w : World) (h1 : l1.length ≤ 140737488351232) (h2 : l2.length ≤ 140737488351232) (v : K.validL l1 = false ∨ K.validL l2 = false) :
    Calls Tryz.prog 42 #[.string (Str l1), .string (Str l2)] w (fun e w' => e = .returned (.tuple #[.int .i64 0, .int .i64 1]) ∧ Ext w w') := by
  go_enter Tryz.func42, Tryz.ntmps42
  go_wp2_with fail
  refine (both_bad l1 l2 w h1 h2 v).mono ?_
  rintro e w1 ⟨rfl, hx1⟩
  go_wp2
  go_ret2
  exact ⟨rfl, (hx1.alloc' _).alloc' _⟩
end Go.Proofs.YtoilkfohhhidpaaGreatDoor
/- num.Divide -/
namespace Go.Proofs.YtoilkfohhhidpaaGreatDoor
open Go.RowKit
def Bad2 (k : Int) (w : World) (e : Ending) (w' : World) : Prop := e = .returned (.tuple #[.string ⟨#[]⟩, .string ⟨#[]⟩, .int .i64 k]) ∧ Ext w w'
set_option maxRecDepth 100000 in
set_option maxHeartbeats 800000 in
theorem divide_form (l1 l2 : List UInt8) (w : World) (h1 : l1.length ≤ 140737488351232) (h2 : l2.length ≤ 140737488351232) (v : K.validL l1 = false ∨ K.validL l2 = false) :
    Calls Tryz.prog 65 #[.string (Str l1), .string (Str l2)] w (Bad2 1 w) := by
  go_enter Tryz.func65, Tryz.ntmps65
  go_wp2_with fail
  refine (both_bad l1 l2 w h1 h2 v).mono ?_
  rintro e w1 ⟨rfl, hx1⟩
  go_wp2
  go_ret3
  exact ⟨rfl, (hx1.alloc' _).alloc' _⟩
set_option maxRecDepth 100000 in
set_option maxHeartbeats 800000 in
theorem divide_arg (l1 l2 : List UInt8) (w : World) (h1 : l1.length ≤ 140737488351232) (h2 : l2.length ≤ 140737488351232) (v1 : K.validL l1 = true) (v2 : K.validL l2 = true) (hn : ¬ 0 < K.numL l2) :
    Calls Tryz.prog 65 #[.string (Str l1), .string (Str l2)] w (Bad2 2 w) := by
  have hd : decide (0 < K.numL l2) = false := decide_eq_false hn
  have HD := hid hd
  clear hd hn
  go_enter Tryz.func65, Tryz.ntmps65
  go_wp2_with fail
  refine (both_ok l1 l2 w h1 h2 v1 v2).mono ?_
  rintro e w1 ⟨⟨y1, y2, rfl, ⟨z1, b1, rfl, hb1, hz1⟩, ⟨z2, b2, rfl, hb2, hz2⟩⟩, hx1⟩
  obtain ⟨A1, k1, c1, rfl⟩ := hz1.slice
  obtain ⟨A2, k2, c2, rfl⟩ := hz2.slice
  have hE : Ext w1 ((w1.alloc (.cells #[.bool b1, .slice A1 k1 c1] 84)).alloc (.cells #[.bool b2, .slice A2 k2 c2] 84)) := ((Ext.rfl' w1).alloc' _).alloc' _
  have n2 := (NumV.mk' hb2 hz2).ext hE
  have hE2 := hx1.step hE
  clear hb1 hz1 hb2 hz2 hx1 hE
  go_wp2_with fail
  refine (positive_any _ _ _ n2).mono ?_
  rintro e w2 ⟨rfl, hx2⟩
  rw [HD.out]
  go_wp2
  go_ret3
  exact ⟨rfl, hE2.step hx2⟩
def DivOk (q r : Int) (w : World) (e : Ending) (w' : World) : Prop := e = .returned (.tuple #[.string (Str (K.txt q)), .string (Str (K.txt r)), .int .i64 0]) ∧ Ext w w'
set_option maxRecDepth 100000 in
set_option maxHeartbeats 1600000 in
theorem divide_ok (l1 l2 : List UInt8) (w : World) (h1 : l1.length ≤ 140737488351232) (h2 : l2.length ≤ 140737488351232) (v1 : K.validL l1 = true) (v2 : K.validL l2 = true) (hn : 0 < K.numL l2) (ht : Tab w) :
    Calls Tryz.prog 65 #[.string (Str l1), .string (Str l2)] w (DivOk (K.numL l1 / K.numL l2) (K.numL l1 % K.numL l2) w) := by
  have g1 := fits_big (K.txt_numL l1 v1).2
  have g2 := fits_big (K.txt_numL l2 v2).2
  have hd : decide (0 < K.numL l2) = true := decide_eq_true hn
  have HD := hid hd
  have hr0 : 0 ≤ K.numL l1 % K.numL l2 := Int.emod_nonneg _ (by omega)
  have hr1 : K.numL l1 % K.numL l2 < K.numL l2 := Int.emod_lt_of_pos _ hn
  have hqb : (K.numL l1 / K.numL l2).natAbs ≤ BIG := Nat.le_trans (Int.natAbs_ediv_le_natAbs _ _) g1
  have hrb : (K.numL l1 % K.numL l2).natAbs ≤ BIG := by omega
  have HQ := hid hqb
  have HR := hid hrb
  clear hd hr0 hr1 hqb hrb
  go_enter Tryz.func65, Tryz.ntmps65
  go_wp2_with fail
  refine (both_ok l1 l2 w h1 h2 v1 v2).mono ?_
  rintro e w1 ⟨⟨y1, y2, rfl, ⟨z1, b1, rfl, hb1, hz1⟩, ⟨z2, b2, rfl, hb2, hz2⟩⟩, hx1⟩
  obtain ⟨A1, k1, c1, rfl⟩ := hz1.slice
  obtain ⟨A2, k2, c2, rfl⟩ := hz2.slice
  have hE : Ext w1 ((w1.alloc (.cells #[.bool b1, .slice A1 k1 c1] 84)).alloc (.cells #[.bool b2, .slice A2 k2 c2] 84)) := ((Ext.rfl' w1).alloc' _).alloc' _
  have n1 := (NumV.mk' hb1 hz1).ext hE
  have n2 := (NumV.mk' hb2 hz2).ext hE
  have hE2 := hx1.step hE
  clear hb1 hz1 hb2 hz2 hx1 hE
  go_wp2_with fail
  refine (positive_any _ _ _ n2).mono ?_
  rintro e w2 ⟨rfl, hx2⟩
  rw [HD.out]
  obtain ⟨f0, f1, f2, f3⟩ := boxes hx2
  go_wp2_with fail
  refine (ndivide_any _ _ _ _ _ (n1.ext hx2) (n2.ext hx2) g1 g2 hn).mono ?_
  rintro e w3 ⟨u1, u2, rfl, ⟨z3, b3, rfl, hb3, hz3⟩, ⟨z4, b4, rfl, hb4, hz4⟩, hx3⟩
  obtain ⟨A3, k3, c3, rfl⟩ := hz3.slice
  obtain ⟨A4, k4, c4, rfl⟩ := hz4.slice
  have hE3 := (hE2.step hx2).step hx3
  have hE4 : Ext w3 ((w3.alloc (.cells #[.bool b3, .slice A3 k3 c3] 84)).alloc (.cells #[.bool b4, .slice A4 k4 c4] 84)) := ((Ext.rfl' w3).alloc' _).alloc' _
  have n3 := (NumV.mk' hb3 hz3).ext hE4
  have n4 := (NumV.mk' hb4 hz4).ext hE4
  have ht4 := ht.ext (hE3.step hE4)
  have hk : ∀ w', Ext ((w3.alloc (.cells #[.bool b3, .slice A3 k3 c3] 84)).alloc (.cells #[.bool b4, .slice A4 k4 c4] 84)) w' → _ := fun w' e => boxes e
  have HK := hid hk
  have N3 := hid n3
  have N4 := hid n4
  have HT := hid ht4
  have HE := hid (hE3.step hE4)
  clear hk n3 n4 ht4 hE3 hE4 hE2 hx2 hx3 hz3 hz4 hb3 hb4 n1 n2 f0 f1 f2 f3 ht
  go_wp2_with fail
  go_region_held3 (fun w' => w'.cell? ⟨w3.heap.size, 0, none⟩ = some (.bool b3) ∧ w'.cell? ⟨w3.heap.size, 1, none⟩ = some (.slice A3 k3 c3) ∧ w'.cell? ⟨w3.heap.size + 1, 0, none⟩ = some (.bool b4) ∧ w'.cell? ⟨w3.heap.size + 1, 1, none⟩ = some (.slice A4 k4 c4))
    (first | go_keep | exact HK.out _ hxa | exact HK.out _ (hxa.step hx6))
    (first | (go_at_call_of 78 (Value.agg #[Value.bool b3, Value.slice A3 k3 c3]); refine (text_any _ _ _ (N3.out.ext ?_) HQ.out (HT.out.ext ?_)).mono ?_; exact (Ext.rfl' _).drew'; exact (Ext.rfl' _).drew'; rintro e w5 ⟨rfl, hx5⟩; have hxa := Ext.undrew hx5; clear hx5) | (go_at_call_of 78 (Value.agg #[Value.bool b4, Value.slice A4 k4 c4]); refine (text_any _ _ _ (N4.out.ext ?_) HR.out (HT.out.ext ?_)).mono ?_; exact hxa; exact hxa; rintro e w6 ⟨rfl, hx6⟩))
  go_wp2
  go_ret3
  exact ⟨rfl, (HE.out.step hxa).step hx6⟩
end Go.Proofs.YtoilkfohhhidpaaGreatDoor
