/- (number).divide -/
import Derived.Test.YtdbaemadphhhcaaDoorNDiv
namespace Go.Proofs.YtdbaemadphhhcaaDoor
open Go.RowKit
theorem NatV.one (w : World) : NatV (w.alloc (.cells #[.int .u64 1] 76)) (.slice (some ⟨w.heap.size, 0, none⟩) 1 1) 1 :=
  ⟨_, 1, 1, [1], rfl, rfl, Nat.le_refl _, (Row.new w 76 [.int .u64 1]).rd0, ⟨by simp, by simp⟩, rfl⟩
theorem abs_neg (q : Nat) : (-(q : Int)).natAbs = q := by omega
theorem abs_cast (q : Nat) : ((q : Int)).natAbs = q := by omega
theorem dec_neg (q : Nat) : (true && decide (0 < q)) = decide (-(q : Int) < 0) := by rw [Bool.eq_iff_iff]; simp
theorem dec_cast (q : Nat) : false = decide ((q : Int) < 0) := by symm; simp
/-- two boxes and two results -/
theorem four {w w' : World} {a0 a1 b0 b1 c0 c1 d0 d1 : Value} {t : TypeId} (e : Ext ((((w.alloc (.cells #[a0, a1] t)).alloc (.cells #[b0, b1] t)).alloc (.cells #[c0, c1] t)).alloc (.cells #[d0, d1] t)) w') :
    (w'.cell? ⟨w.heap.size, 0, none⟩ = some a0 ∧ w'.cell? ⟨w.heap.size, 1, none⟩ = some a1 ∧ w'.cell? ⟨w.heap.size + 1, 0, none⟩ = some b0 ∧ w'.cell? ⟨w.heap.size + 1, 1, none⟩ = some b1) ∧
      Row w' (w.heap.size + 1 + 1) t [c0, c1] ∧ Row w' (w.heap.size + 1 + 1 + 1) t [d0, d1] ∧ w.heap.size + 1 + 1 + 1 < w'.heap.size := by
  have h3 := two_facts (W := (w.alloc (.cells #[a0, a1] t)).alloc (.cells #[b0, b1] t)) (H := w.heap.size + 1 + 1) (t := t) (a := c0) (b := c1) (Ext.step ((Ext.rfl' _).alloc' _) e) (by simp)
  have h4 := two_facts (H := w.heap.size + 1 + 1 + 1) e (by simp)
  exact ⟨boxes (Ext.step (((Ext.rfl' _).alloc' _).alloc' _) e), h3.2.2.2.2.2, h4.2.2.2.2.2, h4.2.2.2.2.1⟩
theorem Row.facts {w : World} {g : Nat} {t : TypeId} {a b : Value} (h : Row w g t [a, b]) : w.cell? ⟨g, 0, none⟩ = some a ∧ w.cell? ⟨g, 1, none⟩ = some b ∧ w.frozen? ⟨g, 0, none⟩ = false ∧ w.frozen? ⟨g, 1, none⟩ = false :=
  ⟨by rw [h.cell]; rfl, by rw [h.cell]; rfl, h.free 0, h.free 1⟩
def PairPost (q r : Int) (w : World) (e : Ending) (w' : World) : Prop := ∃ v1 v2, e = .returned (.tuple #[v1, v2]) ∧ NumV w' v1 q ∧ NumV w' v2 r ∧ Ext w w'
/-- two numbers stored into the results' cells -/
theorem PairPost.stored {w w3 : World} {q r : Int} {A1 A2 : Option Addr} {k1 c1 k2 c2 H : Nat} {t : TypeId} (r1 : Row w3 H t [.bool false, .slice none 0 0]) (r2 : Row w3 (H + 1) t [.bool false, .slice none 0 0])
    (hw : Ext w w3) (hH : w.heap.size ≤ H) {b1 b2 : Bool} (h1 : Hid (b1 = decide (q < 0))) (h2 : Hid (b2 = decide (r < 0))) (z1 : NatV w3 (.slice A1 k1 c1) q.natAbs) (z2 : NatV w3 (.slice A2 k2 c2) r.natAbs) :
    PairPost q r w (.returned (.tuple #[.agg #[.bool b1, .slice A1 k1 c1], .agg #[.bool b2, .slice A2 k2 c2]]))
      ((((w3.setCell ⟨H, 0, none⟩ (.bool b1)).setCell ⟨H, 1, none⟩ (.slice A1 k1 c1)).setCell ⟨H + 1, 0, none⟩ (.bool b2)).setCell ⟨H + 1, 1, none⟩ (.slice A2 k2 c2)) := by
  have r2' : Row ((w3.setCell ⟨H, 0, none⟩ (.bool b1)).setCell ⟨H, 1, none⟩ (.slice A1 k1 c1)) (H + 1) t [.bool false, .slice none 0 0] :=
    (r2.far (by show H + 1 ≠ H; omega) _).far (by show H + 1 ≠ H; omega) _
  exact ⟨_, _, rfl, ⟨_, _, rfl, h1, (z1.two r1).two r2'⟩, ⟨_, _, rfl, h2, (z2.two r1).two r2'⟩,
    (((hw.set' (by show _ ≤ H; omega) _).set' (by show _ ≤ H; omega) _).set' (by show _ ≤ H + 1; omega) _).set' (by show _ ≤ H + 1; omega) _⟩
set_option maxRecDepth 100000 in
set_option maxHeartbeats 1600000 in
theorem ndivide_any (va vb : Value) (m n : Int) (w : World) (ha : NumV w va m) (hb : NumV w vb n) (la : m.natAbs ≤ BIG) (lb : n.natAbs ≤ BIG) (hn : 0 < n) :
    Calls Tryd.prog 54 #[va, vb] w (PairPost (m / n) (m % n) w) := by
  obtain ⟨sa, ba, rfl, hba, hza⟩ := ha
  obtain ⟨sb, bb, rfl, hbb, hzb⟩ := hb
  obtain ⟨A, ka, ca, rfl⟩ := hza.slice
  obtain ⟨B, kb, cb, rfl⟩ := hzb.slice
  have eba := hba.out
  subst eba
  have hbp : 0 < n.natAbs := by omega
  have hlt := Nat.mod_lt m.natAbs hbp
  have hE : Ext w ((((w.alloc (.cells #[.bool (decide (m < 0)), .slice A ka ca] 59)).alloc (.cells #[.bool bb, .slice B kb cb] 59)).alloc (.cells #[.bool false, .slice none 0 0] 59)).alloc (.cells #[.bool false, .slice none 0 0] 59)) :=
    (((((Ext.rfl' w).alloc' _).alloc' _).alloc' _).alloc' _)
  have HE := hid hE
  have HLT := hid hlt
  have hqle : m.natAbs / n.natAbs + 1 ≤ BIG + 1 := by have := Nat.div_le_self m.natAbs n.natAbs; omega
  clear hE hba hbb hlt
  by_cases h1 : m < 0
  · rw [decide_eq_true h1] at *
    by_cases h0 : m.natAbs % n.natAbs = 0
    · have hv := div_neg h1 hn h0
      have HV := hid hv
      have H0 := hid h0
      have hqs : Hid ((true && decide (0 < m.natAbs / n.natAbs)) = decide (m / n < 0)) := by
        show _ = _
        rw [hv.1]; exact dec_neg _
      clear hv h0
      go_enter Tryd.func54, Tryd.ntmps54
      go_wp2_with fail
      refine (div_any _ _ m.natAbs n.natAbs _ (hza.ext HE.out) (hzb.ext HE.out) la lb hbp).mono ?_
      rintro e w3 ⟨v1, v2, rfl, hz1, hz2, hx3⟩
      rw [H0.out] at hz2
      obtain ⟨A2, k2, c2, rfl⟩ := hz2.slice
      obtain ⟨⟨f1, f2, f3, f4⟩, -, -, -⟩ := four hx3
      obtain rfl : k2 = 0 := by
        have := hz2.len_zero
        omega
      go_wp2_with fail
      refine (signed_any true _ _ _ hz1 (m / n) (by rw [HV.out.1]; exact abs_neg _) hqs.out).mono ?_
      rintro e w4 ⟨v4, rfl, ⟨z4, b4, rfl, hb4, hz4⟩, hx4⟩
      obtain ⟨A4, k4, c4, rfl⟩ := hz4.slice
      obtain ⟨⟨-, -, -, -⟩, r1, r2, hl⟩ := four (hx3.step hx4)
      have hfin := PairPost.stored r1 r2 (HE.out.step (hx3.step hx4)) (by omega) hb4 (hid (show false = decide (m % n < 0) by rw [HV.out.2]; rfl)) hz4 (by rw [HV.out.2]; exact hz2.ext hx4)
      obtain ⟨g0, g1, g2, g3⟩ := r1.facts
      obtain ⟨i0, i1, i2, i3⟩ := r2.facts
      have HF := hid hfin
      clear hfin r1 r2 f1 f2 f3 f4 hx3 hx4
      go_wp2
      refine bodyPost_ret (v := .tuple #[.agg #[.bool b4, .slice A4 k4 c4], .agg #[.bool false, .slice A2 0 c2]]) (by simp [results, Tryd.results54, go_sem, g0, g1, i0, i1]) rfl ?_
      exact HF.out
    · have hr0 : 0 < m.natAbs % n.natAbs := by omega
      have hv := div_neg' h1 hn hr0
      have HV := hid hv
      have hqs : Hid ((true && decide (0 < m.natAbs / n.natAbs + 1)) = decide (m / n < 0)) := by
        show _ = _
        rw [hv.1]; exact dec_neg _
      have hqB : m.natAbs / n.natAbs ≤ BIG := Nat.le_trans (Nat.div_le_self _ _) la
      clear hv h0
      go_enter Tryd.func54, Tryd.ntmps54
      go_wp2_with fail
      refine (div_any _ _ m.natAbs n.natAbs _ (hza.ext HE.out) (hzb.ext HE.out) la lb hbp).mono ?_
      rintro e w3 ⟨v1, v2, rfl, hz1, hz2, hx3⟩
      obtain ⟨A2, k2, c2, rfl⟩ := hz2.slice
      obtain ⟨⟨f1, f2, f3, f4⟩, -, -, -⟩ := four hx3
      have hk2 : 0 < k2 := (hz2.len_zero).2 hr0
      go_wp2_with fail
      refine (plus_any _ _ _ 1 _ (hz1.ext ((Ext.rfl' _).alloc' _)) (NatV.one w3) hqB (by unfold BIG; rw [show (1000 : Nat) = 999 + 1 from rfl, zeros_succ, K.lv]; omega)).mono ?_
      rintro e w5 ⟨v5, rfl, hz5, hx5⟩
      have hx5' : Ext w3 w5 := ((Ext.rfl' _).alloc' _).step hx5
      obtain ⟨⟨f1, f2, f3, f4⟩, -, -, -⟩ := four (hx3.step hx5')
      go_wp2_with fail
      refine (minus_any _ _ n.natAbs (m.natAbs % n.natAbs) _ (hzb.ext (HE.out.step (hx3.step hx5'))) (hz2.ext hx5') lb (by have := HLT.out; omega)).mono ?_
      rintro e w6 ⟨v6, rfl, hz6, hx6⟩
      obtain ⟨A6, k6, c6, rfl⟩ := hz6.slice
      obtain ⟨⟨f1, f2, f3, f4⟩, -, -, -⟩ := four ((hx3.step hx5').step hx6)
      go_wp2_with fail
      refine (signed_any true _ _ _ (hz5.ext hx6) (m / n) (by rw [HV.out.1]; exact abs_neg _) hqs.out).mono ?_
      rintro e w4 ⟨v4, rfl, ⟨z4, b4, rfl, hb4, hz4⟩, hx4⟩
      obtain ⟨A4, k4, c4, rfl⟩ := hz4.slice
      have hxx := ((hx3.step hx5').step hx6).step hx4
      obtain ⟨⟨-, -, -, -⟩, r1, r2, hl⟩ := four hxx
      have hfin := PairPost.stored r1 r2 (HE.out.step hxx) (by omega) hb4 (hid (show false = decide (m % n < 0) by rw [HV.out.2]; exact dec_cast _)) hz4 (by rw [HV.out.2, abs_cast]; exact hz6.ext hx4)
      obtain ⟨g0, g1, g2, g3⟩ := r1.facts
      obtain ⟨i0, i1, i2, i3⟩ := r2.facts
      have HF := hid hfin
      clear hfin r1 r2 f1 f2 f3 f4 hx3 hx4 hx5 hx6 hx5' hxx
      go_wp2
      refine bodyPost_ret (v := .tuple #[.agg #[.bool b4, .slice A4 k4 c4], .agg #[.bool false, .slice A6 k6 c6]]) (by simp [results, Tryd.results54, go_sem, g0, g1, i0, i1]) rfl ?_
      exact HF.out
  · rw [decide_eq_false h1] at *
    have hv := div_pos' h1 hn
    have HV := hid hv
    have hqs : Hid ((false && decide (0 < m.natAbs / n.natAbs)) = decide (m / n < 0)) := by
      show _ = _
      rw [hv.1, Bool.false_and]; exact dec_cast _
    clear hv
    go_enter Tryd.func54, Tryd.ntmps54
    go_wp2_with fail
    refine (div_any _ _ m.natAbs n.natAbs _ (hza.ext HE.out) (hzb.ext HE.out) la lb hbp).mono ?_
    rintro e w3 ⟨v1, v2, rfl, hz1, hz2, hx3⟩
    obtain ⟨A2, k2, c2, rfl⟩ := hz2.slice
    obtain ⟨⟨f1, f2, f3, f4⟩, -, -, -⟩ := four hx3
    go_wp2_with fail
    refine (signed_any false _ _ _ hz1 (m / n) (by rw [HV.out.1]; exact abs_cast _) hqs.out).mono ?_
    rintro e w4 ⟨v4, rfl, ⟨z4, b4, rfl, hb4, hz4⟩, hx4⟩
    obtain ⟨A4, k4, c4, rfl⟩ := hz4.slice
    obtain ⟨⟨-, -, -, -⟩, r1, r2, hl⟩ := four (hx3.step hx4)
    have hfin := PairPost.stored r1 r2 (HE.out.step (hx3.step hx4)) (by omega) hb4 (hid (show false = decide (m % n < 0) by rw [HV.out.2]; exact dec_cast _)) hz4 (by rw [HV.out.2, abs_cast]; exact hz2.ext hx4)
    obtain ⟨g0, g1, g2, g3⟩ := r1.facts
    obtain ⟨i0, i1, i2, i3⟩ := r2.facts
    have HF := hid hfin
    clear hfin r1 r2 f1 f2 f3 f4 hx3 hx4
    go_wp2
    refine bodyPost_ret (v := .tuple #[.agg #[.bool b4, .slice A4 k4 c4], .agg #[.bool false, .slice A2 k2 c2]]) (by simp [results, Tryd.results54, go_sem, g0, g1, i0, i1]) rfl ?_
    exact HF.out
end Go.Proofs.YtdbaemadphhhcaaDoor
