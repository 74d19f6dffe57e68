/- numbers with a sign -/
import Derived.Test.YtdbaemadphhhcaaDoorDiv
import Derived.Deep.RegionHeld3
namespace Go.Proofs.YtdbaemadphhhcaaDoor
open Go.RowKit
/-- an integer in memory -/
def NumV (w : World) (v : Value) (n : Int) : Prop := ∃ sz b, v = .agg #[.bool b, sz] ∧ Hid (b = decide (n < 0)) ∧ NatV w sz n.natAbs
theorem NumV.ext {w w' : World} {v : Value} {n : Int} (h : NumV w v n) (e : Ext w w') : NumV w' v n := by
  obtain ⟨sz, b, h1, hb, h2⟩ := h
  exact ⟨sz, b, h1, hb, h2.ext e⟩
def NumPost (n : Int) (w : World) (e : Ending) (w' : World) : Prop := ∃ v, e = .returned v ∧ NumV w' v n ∧ Ext w w'
theorem NatV.len_zero {w : World} {A : Option Addr} {k c m : Nat} (h : NatV w (.slice A k c) m) : (0 < k) ↔ 0 < m := by
  obtain ⟨A', k', c', xs, hv, hl, _, _, hL, hm⟩ := h
  injection hv with _ hk _
  subst hk hm
  have := hL.zero_iff
  rcases Nat.eq_zero_or_pos k with h0 | h0
  · have : xs = [] := List.eq_nil_of_length_eq_zero (by omega)
    subst this; simp [K.lv]; omega
  · have : xs ≠ [] := by intro e; subst e; simp at hl; omega
    have := hL.pos this
    omega
set_option maxHeartbeats 800000 in
theorem signed_any (neg : Bool) (va : Value) (a : Nat) (w : World) (ha : NatV w va a) (n : Int) (hn : n.natAbs = a) (hs : (neg && decide (0 < a)) = decide (n < 0)) :
    Calls Tryd.prog 65 #[.bool neg, va] w (NumPost n w) := by
  have ha0 := ha
  obtain ⟨A, k, c, xs, rfl, h2, h3, h4, h5, h6⟩ := ha
  have hk := ha0.len_zero
  have HS := hid hs
  have HK := hid hk
  have HN := hid hn
  clear hs hk h2 h3 h4 h5 h6 hn
  have hfin : ∀ w' b, Ext w w' → b = decide (n < 0) → NumPost n w (.returned (.agg #[.bool b, .slice A k c])) w' := fun w' b e hb => ⟨_, rfl, ⟨.slice A k c, b, rfl, hid hb, by rw [HN.out]; exact ha0.ext e⟩, e⟩
  cases neg with
  | false =>
    go_enter Tryd.func65, Tryd.ntmps65
    go_wp2
    refine bodyPost_ret (v := .agg #[.bool false, .slice A k c]) (by simp [results, Tryd.results65, go_sem]) rfl (hfin _ _ ?_ (by rw [← HS.out]; rfl))
    exact (Ext.rfl' w).alloc' _
  | true =>
    by_cases hk0 : 0 < k
    · go_enter Tryd.func65, Tryd.ntmps65
      go_wp2
      refine bodyPost_ret (v := .agg #[.bool true, .slice A k c]) (by simp [results, Tryd.results65, go_sem]) rfl (hfin _ _ ?_ (by rw [← HS.out]; simp [HK.out.1 hk0]))
      exact (Ext.rfl' w).alloc' _
    · have h0 : ¬ 0 < a := fun h => hk0 (HK.out.2 h)
      go_enter Tryd.func65, Tryd.ntmps65
      go_wp2
      refine bodyPost_ret (v := .agg #[.bool false, .slice A k c]) (by simp [results, Tryd.results65, go_sem]) rfl (hfin _ _ ?_ (by rw [← HS.out]; simp [h0]))
      exact (Ext.rfl' w).alloc' _
/-- a block of two cells of the call's own, behind a call -/
theorem two_facts {W w' : World} {a b : Value} {t : TypeId} {H : Nat} (e : Ext (W.alloc (.cells #[a, b] t)) w') (hH : W.heap.size = H) :
    w'.cell? ⟨H, 0, none⟩ = some a ∧ w'.cell? ⟨H, 1, none⟩ = some b ∧ w'.frozen? ⟨H, 0, none⟩ = false ∧ w'.frozen? ⟨H, 1, none⟩ = false ∧ H < w'.heap.size ∧ Row w' H t [a, b] := by
  subst hH
  have h : Row w' W.heap.size t [a, b] := (Row.new W t [a, b]).ext e
  exact ⟨by rw [h.cell]; rfl, by rw [h.cell]; rfl, h.free 0, h.free 1, h.lt, h⟩
theorem NatV.slice {w : World} {v : Value} {n : Nat} (h : NatV w v n) : ∃ A k c, v = .slice A k c := by
  obtain ⟨A, k, c, _, rfl, _⟩ := h
  exact ⟨A, k, c, rfl⟩
/-- a row of numbers stands while a block that holds none is written -/
theorem Rd.two {w : World} {A A1 : Option Addr} {vs : List Value} {H k1 c1 : Nat} {t : TypeId} {x : Bool} {a b : Value} (h : Rd w A vs) (hv : ∀ u ∈ vs, ∃ k q, u = .int k q)
    (r : Row w H t [.bool x, .slice A1 k1 c1]) : Rd ((w.setCell ⟨H, 0, none⟩ a).setCell ⟨H, 1, none⟩ b) A vs := by
  rcases h with h | ⟨b1, o, hA, hb, hc⟩
  · exact .inl h
  · by_cases hH : b1 = H
    · subst hH
      refine .inl ?_
      cases vs with
      | nil => rfl
      | cons u vs =>
        exfalso
        have h0 := hc 0 u rfl
        obtain ⟨k, q, rfl⟩ := hv u (List.mem_cons_self ..)
        rw [r.cell] at h0
        match o, h0 with
        | 0, h0 => simp at h0
        | 1, h0 => simp at h0
        | o + 2, h0 => simp at h0
    · refine .inr ⟨b1, o, hA, by simpa [World.setCell] using hb, fun j u hu => ?_⟩
      rw [World.cell?_of_block (Below.heap_setCell _ _ _ _ (by exact hH)), World.cell?_of_block (Below.heap_setCell _ _ _ _ (by exact hH))]
      exact hc j u hu
theorem NatV.two {w : World} {v : Value} {n : Nat} {A1 : Option Addr} {H k1 c1 : Nat} {t : TypeId} {x : Bool} {a b : Value} (h : NatV w v n) (r : Row w H t [.bool x, .slice A1 k1 c1]) :
    NatV ((w.setCell ⟨H, 0, none⟩ a).setCell ⟨H, 1, none⟩ b) v n := by
  obtain ⟨A, k, c, xs, h1, h2, h3, h4, h5⟩ := h
  exact ⟨A, k, c, xs, h1, h2, h3, h4.two (by intro u hu; obtain ⟨y, _, rfl⟩ := List.mem_map.1 hu; exact ⟨_, _, rfl⟩) r, h5⟩
/-- a number is stored into the result's cells -/
theorem NumPost.stored {w W w3 : World} {n : Int} {A3 : Option Addr} {k3 c3 H : Nat} {t : TypeId} (hx : Ext (W.alloc (.cells #[.bool false, .slice none 0 0] t)) w3) (hW : Ext w W) (hH : W.heap.size = H)
    (hz : NatV w3 (.slice A3 k3 c3) n.natAbs) (b : Bool) (hb : b = decide (n < 0)) :
    NumPost n w (.returned (.agg #[.bool b, .slice A3 k3 c3])) ((w3.setCell ⟨H, 0, none⟩ (.bool b)).setCell ⟨H, 1, none⟩ (.slice A3 k3 c3)) := by
  have r := (two_facts hx hH).2.2.2.2.2
  have hs := hW.size
  refine ⟨_, rfl, ⟨.slice A3 k3 c3, b, rfl, hid hb, hz.two r⟩, ((hW.alloc' _).step hx).set' (by show _ ≤ H; omega) _ |>.set' (by show _ ≤ H; omega) _⟩
set_option maxHeartbeats 800000 in
theorem opposite_any (v : Value) (n : Int) (w : World) (h : NumV w v n) : Calls Tryd.prog 67 #[v] w (NumPost (-n) w) := by
  obtain ⟨sz, b, rfl, hbn, hz⟩ := h
  obtain ⟨A, k, c, rfl⟩ := hz.slice
  go_enter Tryd.func67, Tryd.ntmps67
  go_wp2_with fail
  refine (signed_any (!b) _ n.natAbs _ (hz.ext (((Ext.rfl' w).alloc' _).alloc' _)) (-n) (by omega) (by
    rw [hbn.out, Bool.eq_iff_iff]; simp; omega)).mono ?_
  rintro e w3 ⟨v3, rfl, ⟨sz3, b3, rfl, hb3, hz3⟩, hx3⟩
  obtain ⟨A3, k3, c3', rfl⟩ := hz3.slice
  obtain ⟨c0, c1, f0, f1, hl, _⟩ := two_facts (H := w.heap.size + 1) hx3 (by simp)
  have hfin := NumPost.stored hx3 ((Ext.rfl' w).alloc' _) (H := w.heap.size + 1) (by simp) hz3 b3 hb3.out
  have HF := hid hfin
  clear hfin hz3 hx3
  go_wp2
  refine bodyPost_ret (v := .agg #[.bool b3, .slice A3 k3 c3']) (by simp [results, Tryd.results67, go_sem, c0, c1]) rfl ?_
  exact HF.out
end Go.Proofs.YtdbaemadphhhcaaDoor
