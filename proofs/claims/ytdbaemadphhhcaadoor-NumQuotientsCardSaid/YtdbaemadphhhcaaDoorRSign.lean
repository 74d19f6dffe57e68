/- the reference's Sign; Parse of a valid text -/
import Derived.Test.YtdbaemadphhhcaaDoorRParse
import Derived.Test.YtdbaemadphhhcaaDoorRValid
namespace Go.Proofs.YtdbaemadphhhcaaDoor
open Go.RowKit
def sgn0 (n : Int) : Int := if n = 0 then 0 else if n < 0 then -1 else 1
set_option maxRecDepth 100000 in
theorem rsign_any (v : Value) (n : Int) (w : World) (h : RefV w v n) :
    Calls Tryd.prog 27 #[v] w (fun e w' => e = .returned (.int .i64 (sgn0 n)) ∧ Ext w w') := by
  obtain ⟨A, k, c, xs, b, rfl, hb, hl, hc, hr, hL, hv⟩ := h
  have hk : k = 0 ↔ n = 0 := by
    have := hL.zero_iff
    rw [hv, ← List.length_eq_zero_iff, hl] at this
    rw [← this]; omega
  have HB := hb
  clear hb hr hL hv hl
  by_cases h0 : n = 0
  · have hk0 := hk.2 h0
    subst hk0 h0
    clear hk HB
    go_enter Tryd.func27, Tryd.ntmps27
    go_wp2
    go_ret
    exact ⟨rfl, (Ext.rfl' w).alloc' _⟩
  · have hk0 : ¬ k = 0 := fun e => h0 (hk.1 e)
    clear hk
    by_cases hn : n < 0
    · have hs : Hid (sgn0 n = -1) := hid (by unfold sgn0; rw [if_neg h0, if_pos hn])
      obtain rfl : b = true := by rw [HB.out]; exact decide_eq_true hn
      clear h0 hn HB
      have HF : Hid (∀ w', Ext w w' → (Ending.returned (.int .i64 (-1)) = .returned (.int .i64 (sgn0 n)) ∧ Ext w w')) := hid fun w' h => ⟨by rw [hs.out], h⟩
      go_enter Tryd.func27, Tryd.ntmps27
      go_wp2
      go_ret
      exact HF.out _ ((Ext.rfl' w).alloc' _)
    · have hs : Hid (sgn0 n = 1) := hid (by unfold sgn0; rw [if_neg h0, if_neg hn])
      obtain rfl : b = false := by rw [HB.out]; exact decide_eq_false hn
      clear h0 hn HB
      have HF : Hid (∀ w', Ext w w' → (Ending.returned (.int .i64 1) = .returned (.int .i64 (sgn0 n)) ∧ Ext w w')) := hid fun w' h => ⟨by rw [hs.out], h⟩
      go_enter Tryd.func27, Tryd.ntmps27
      go_wp2
      go_ret
      exact HF.out _ ((Ext.rfl' w).alloc' _)
theorem valid_len {l : List UInt8} (h : K.validL l = true) : l.length ≤ 2001 := by
  rw [← (K.txt_numL l h).1]; exact K.txt_len _ (K.txt_numL l h).2
theorem parse_any (l : List UInt8) (w : World) (hv : K.validL l = true) :
    Calls Tryd.prog 18 #[.string (Str l)] w (RefPost (K.numL l) w) := by
  obtain ⟨hd, hlen, hpos⟩ := body_all hv
  obtain ⟨hval, hll⟩ := body_val hv
  have hln := valid_len hv
  have hS := Str_size l
  by_cases hn : K.numL l < 0
  · have hh : l.head? = some 45 := by
      have := (K.head_txt (K.numL l)).2 hn
      rwa [(K.txt_numL l hv).1] at this
    obtain ⟨r, rfl⟩ : ∃ r, l = 45 :: r := by
      cases l with
      | nil => simp at hh
      | cons x r => exact ⟨r, by simp at hh; rw [hh]⟩
    have hb : K.body (45 :: r) = r := rfl
    rw [hb] at hd hlen hpos hval
    obtain ⟨h0, e0⟩ := Str_at (l := 45 :: r) (i := 0) (c := 45) rfl
    exact parse_neg (45 :: r) _ w hln (by simp; omega) h0 (by rw [e0]; rfl) (hid hd) (hid hval) (hid hn)
  · have hh : ¬ l.head? = some 45 := by
      intro e
      apply hn
      have := (K.head_txt (K.numL l)).1
      rw [(K.txt_numL l hv).1] at this
      exact this e
    have hb : K.body l = l := by unfold K.body; rw [if_neg hh]
    rw [hb] at hd hlen hpos hval
    cases l with
    | nil => simp at hpos
    | cons x r =>
      obtain ⟨h0, e0⟩ := Str_at (l := x :: r) (i := 0) (c := x) rfl
      exact parse_pos (x :: r) _ w hln hpos h0 (by rw [e0]; exact ne_lit (c := x) (d := 45) (fun e => hh (by subst e; rfl))) (hid hd) (hid hval) (hid (by omega))
end Go.Proofs.YtdbaemadphhhcaaDoor
