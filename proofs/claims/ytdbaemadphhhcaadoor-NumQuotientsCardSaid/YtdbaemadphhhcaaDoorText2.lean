/- (natural).digits, (number).text, num.write -/
import Derived.Test.YtdbaemadphhhcaaDoorText
namespace Go.Proofs.YtdbaemadphhhcaaDoor
open Go.RowKit
theorem below_drewN' {B : Nat} {a w : World} (h : Below B a w) (n : Nat) : Below B a (w.drewN n) := ⟨h.os, h.tape, h.output, h.size, h.block⟩
set_option maxHeartbeats 400000 in
theorem appendUint_any (base n u : Nat) (v : Value) (vs : List Value) (w : World) (hown : w.ownsRow base 5 1 v n vs) (hb : base ≤ w.heap.size) (hn : n ≤ 1000000) (hu : u < 1000000000) (ht : Tab w) :
    Calls Tryd.prog 81 #[v, .int .u64 (u : Int), .int .i64 10] w (BytesPost base (n + (K.dgs u).length) (vs ++ Bytes (K.dgs u)) w) := by
  go_enter Tryd.func81, Tryd.ntmps81
  go_wp2_with fail
  refine (Shelf.l_internal_strconv_AppendUint_10 base n u (by omega) v vs w hown hb (by omega) ht).mono ?_
  rintro e w' ⟨v', rfl, hown', hbel, -⟩
  rw [decDigits_dgs] at hown'
  go_wp2
  go_ret
  exact ⟨v', rfl, hown', hbel, by have := hbel.size; omega⟩
theorem lim_drop_pos {xs : List Nat} (h : K.Lim xs) {k : Nat} (hk : k < xs.length) : 0 < K.lv (xs.drop k) := by
  have hl : K.Lim (xs.drop k) := by
    refine ⟨fun x hx => h.1 x (List.mem_of_mem_drop hx), ?_⟩
    rw [List.getLast?_drop, if_neg (by omega)]
    exact h.2
  exact hl.pos (by intro e; have := congrArg List.length e; simp at this; omega)
set_option maxRecDepth 100000 in
set_option maxHeartbeats 1600000 in
theorem digits_any (v : Value) (n : Nat) (w : World) (h : NatV w v n) (la : n ≤ BIG) (ht : Tab w) :
    Calls Tryd.prog 71 #[v] w (BytesPost w.heap.size (K.dgs n).length (Bytes (K.dgs n)) w) := by
  obtain ⟨A, k, c, xs, rfl, h2, h3, h4, h5, h6⟩ := h
  have hk := len_of_big h5 (by omega)
  rw [h2] at hk
  by_cases h0 : k = 0
  · have hx : xs = [] := List.eq_nil_of_length_eq_zero (by omega)
    have hn : n = 0 := by rw [← h6, hx]; rfl
    subst hn h0
    clear h2 h3 h4 h5 h6 hx
    go_enter Tryd.func71, Tryd.ntmps71
    go_wp2
    go_ret
    refine ⟨_, rfl, ?_, (Below.refl _ w).alloc (Nat.le_refl _) _, by simp⟩
    rw [K.dgs_zero]
    exact own_of_row (sp := []) (Row.new w 5 [.int .u8 48]) (Nat.le_refl _) rfl (by simp) (by unfold maxLen; simp) rfl
  · have H2 := hid h2
    have H6 := hid h6
    have hmk := fun (w : World) => (fun (i : TypeInfo) (hi : Tryd.prog.info? 5 = some i) (hz : i.zero = some (.int .u8 0)) (hs : i.size = 1) (hb : i.bytes = 1) => run_make (P := Tryd.prog) w 79 5 i (.int .u8 0) Tryd.underlying79 hi hz .i64 .i64 0 ((k : Int) * 9) (by omega) (by omega) (by rw [hb]; omega) (by omega)) 
    obtain ⟨i0, hi, hz0, hz1, hz2⟩ := info_parts infoB
    have hmk2 : ∀ w : World, (Instr.makeSlice 79 (.int .i64 0) (.int .i64 ((k : Int) * 9))).run Tryd.prog w = .ok (.slice (some ⟨w.heap.size, 0, none⟩) 0 (k * 9)) (w.alloc (.cells (madeCells #[.int .u8 0] (k * 9)) 5)) := by
      intro w
      have h := hmk w i0 hi hz0 hz1 hz2
      rw [hz1, show ((k : Int) * 9).toNat = k * 9 by omega, Nat.mul_one] at h
      exact h
    obtain ⟨j, rfl⟩ : ∃ j, k = j + 1 := ⟨k - 1, by omega⟩
    have hmk3 : ∀ w : World, (Instr.makeSlice 79 (.int .i64 0) (.int .i64 (((j : Int) + 1) * 9))).run Tryd.prog w = .ok (.slice (some ⟨w.heap.size, 0, none⟩) 0 ((j + 1) * 9)) (w.alloc (.cells (madeCells #[.int .u8 0] ((j + 1) * 9)) 5)) := by
      intro w
      have h := hmk2 w
      rwa [show (((j + 1 : Nat)) : Int) = (j : Int) + 1 by omega] at h
    have hown0 : (w.alloc (.cells (madeCells #[.int .u8 0] ((j + 1) * 9)) 5)).ownsRow w.heap.size 5 1 (.slice (some ⟨w.heap.size, 0, none⟩) 0 ((j + 1) * 9)) 0 [] :=
      World.ownsRow_made w _ ((j + 1) * 9) (Nat.le_refl _) (by unfold maxLen; omega) (by rw [size_madeCells]; omega)
    have hext0 : Ext w (w.alloc (.cells (madeCells #[.int .u8 0] ((j + 1) * 9)) 5)) := (Ext.rfl' w).alloc' _
    have ht0 := ht.ext hext0
    obtain ⟨b1, o1, x, eA, ex, hb1, hx⟩ := (h4.ext hext0).at_ (k := j) (by omega)
    subst eA
    have hxB := h5.1 x (mem_at ex)
    have HX := hid ex
    have H5 := hid h5
    clear h2 h6 hmk hmk2 ex h5 h3 h0 ht hi hz0 hz1 hz2
    go_enter Tryd.func71, Tryd.ntmps71
    go_wp2_with fail
    refine (appendUint_any w.heap.size 0 x _ [] _ hown0 (by simp) (by omega) hxB ht0).mono ?_
    rintro e w1 ⟨v1, rfl, hown1, hbel1, hsz1⟩
    rw [Nat.zero_add, List.nil_append] at hown1
    have hb1' : Ext w w1 := (Ext.rfl' w).alloc' _ |>.trans hbel1
    clear hown0 hmk3 ht0 hx hb1
    go_wp2_with fail
    go_loopw [4, 5] (fun tv i wr => ∃ q : Int, -1 ≤ q ∧ q < j ∧ i = .int .i64 q ∧ wr.ownsRow w.heap.size 5 1 tv (K.dgs (K.lv (xs.drop (q + 1).toNat))).length (Bytes (K.dgs (K.lv (xs.drop (q + 1).toNat)))) ∧ Ext w wr) (fun _ i _ => (intOf i + 1).toNat)
    case atStart =>
      refine ⟨(j : Int) - 1, by omega, by omega, by simp, ?_, hb1'⟩
      rw [show ((j : Int) - 1 + 1).toNat = j by omega, drop_at HX.out, List.drop_of_length_le (by rw [H2.out]; omega)]
      simpa [K.lv] using hown1
    case round =>
      obtain ⟨q, hq1, hq2, rfl, hown, hext⟩ := hrel
      clear hown1
      by_cases hq : 0 ≤ q
      · obtain ⟨p, rfl⟩ := Int.eq_ofNat_of_zero_le hq
        obtain ⟨b2, o2, y, eB, ey, hb2, hy⟩ := (h4.ext hext).at_ (k := p) (by rw [H2.out]; omega)
        injection eB with eB
        injection eB with eB1 eB2
        subst eB1 eB2
        have hyB := H5.out.1 y (mem_at ey)
        have HY := hid ey
        have hpos := lim_drop_pos H5.out (k := p + 1) (by rw [H2.out]; omega)
        have hlen : (K.dgs (K.lv (xs.drop (p + 1)))).length ≤ 9000 := big_digits (by have := lv_drop_le xs (p + 1); have := H6.out; omega)
        rw [show ((p : Int) + 1).toNat = p + 1 by omega] at hown
        clear ey
        go_wp2_with fail
        refine (appendLimb_any w.heap.size _ y _ _ _ hown hext.size (by omega) hyB).mono ?_
        rintro e w2 ⟨v2, rfl, hown2, hbel2, hsz2⟩
        have hfin : Hid (w2.ownsRow w.heap.size 5 1 v2 (K.dgs (K.lv (xs.drop p))).length (Bytes (K.dgs (K.lv (xs.drop p))))) := by
          refine hid ?_
          have e1 : K.dgs (K.lv (xs.drop p)) = K.dgs (K.lv (xs.drop (p + 1))) ++ pad 9 y := by
            rw [drop_at HY.out, K.lv, dgs_limb _ _ hyB hpos]
          rw [e1, List.length_append, pad_len]
          simpa [Bytes] using hown2
        clear hown2 hown
        go_wp2
        go_roundw
        case rel =>
          refine ⟨(p : Int) - 1, by omega, by omega, rfl, ?_, hext.trans hbel2⟩
          rw [show ((p : Int) - 1 + 1).toNat = p by omega]
          exact hfin.out
        case measure => simp [intOf]
      · rw [show (q + 1).toNat = 0 by omega, List.drop_zero, H6.out] at hown
        have HO := hid hown
        clear hown
        go_wp2
        go_ret
        exact ⟨_, rfl, HO.out, hext, hext.size⟩
end Go.Proofs.YtdbaemadphhhcaaDoor
