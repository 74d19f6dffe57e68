/- the law StepMaps -/
import Derived.Test.YtflgkijmbpcnfaaDoorJG10
set_option linter.unusedSimpArgs false
set_option linter.unusedVariables false
namespace Go.Proofs.YtflgkijmbpcnfaaDoor
open Go.RowKit
set_option maxRecDepth 100000 in
set_option maxHeartbeats 6400000 in
theorem maps_tt (v : Value) (m : Int) (us ad : List Int) (q c : Int) (w : World) (hv : MapV w v m us ad) (h8 : Fit8 v) (ht : Tab w) (hb : Hid (mapB m us ad = true)) (hk : Hid (kinP q c)) :
    Calls Tryd.prog 3 #[v, .int .i64 q, .int .i64 c] w (TruePost w) := by
  have HT := hid ht
  have HV := hid hv
  have H8 := hid h8
  obtain ⟨A, n, cc, B, n2, d, rfl, -⟩ := hv
  have hx : Ext w (w.alloc (.cells #[.int .i64 m, .slice A n cc, .slice B n2 d] 24)) := (Ext.rfl' w).alloc' _
  have hr : Row (w.alloc (.cells #[.int .i64 m, .slice A n cc, .slice B n2 d] 24)) w.heap.size 24 [.int .i64 m, .slice A n cc, .slice B n2 d] := Row.new w _ _
  obtain ⟨W1, hW1⟩ : ∃ W1, (w.alloc (.cells #[.int .i64 m, .slice A n cc, .slice B n2 d] 24)) = W1 := ⟨_, rfl⟩
  rw [hW1] at hx hr
  have HX := hid hx
  have HR := hid hr
  have HW1 := hid hW1
  obtain ⟨f0, f1, f2, -, -, -⟩ := row_facts3 hr
  have HTT : Hid (Tab W1) := hid (ht.ext hx)
  have HV1 := hid (HV.out.ext hx)
  clear hW1 hx hr h8
  obtain ⟨r, hr0⟩ : ∃ r, regB m us = r := ⟨_, rfl⟩
  have HRR := hid hr0
  have hM : Hid (mapP m us ad) := hid ((mapB_iff m us ad).1 hb.out)
  have hrr : (r != r) = false := by simp
  clear hr0
  go_enter Tryd.func3, Tryd.ntmps3
  go_upto_region 1 with fail
  rw [HW1.out]
  go_wp2_with fail
  refine (twin_any _ m us ad W1 HV1.out H8.out).mono ?_
  rintro e w2 ⟨v2, rfl, hv2, hx2⟩
  have hv2b := hv2
  obtain ⟨A2, l2, e2, B2, p2, g2, rfl, -⟩ := hv2
  have hx2b : Ext W1 (w2.alloc (.cells #[.int .i64 m, .slice A2 l2 e2, .slice B2 p2 g2] 24)) := hx2.alloc' _
  have hr2 : Row (w2.alloc (.cells #[.int .i64 m, .slice A2 l2 e2, .slice B2 p2 g2] 24)) w2.heap.size 24 [.int .i64 m, .slice A2 l2 e2, .slice B2 p2 g2] := Row.new w2 _ _
  have hv2c := hv2b.ext ((Ext.rfl' w2).alloc' (.cells #[.int .i64 m, .slice A2 l2 e2, .slice B2 p2 g2] 24))
  obtain ⟨W2, hW2⟩ : ∃ W2, (w2.alloc (.cells #[.int .i64 m, .slice A2 l2 e2, .slice B2 p2 g2] 24)) = W2 := ⟨_, rfl⟩
  rw [hW2] at hx2b hr2 hv2c
  have HX2 := hid hx2b
  have HR2 := hid hr2
  have HV2 := hid hv2c
  have HW2 := hid hW2
  clear f0 f1 f2 hx2 hx2b hr2 hv2b hv2c hW2
  obtain ⟨f0, f1, f2, -, -, -⟩ := row_facts3 (HR.out.ext HX2.out)
  go_upto_region 2 with fail
  rw [HW2.out]
  go_wp2_with fail
  refine (regular_ok _ m us ad W2 (HV1.out.ext HX2.out) hM).mono ?_
  rintro e w3 ⟨rfl, hx3⟩
  rw [HRR.out]
  have HX3 := hid hx3
  clear f0 f1 f2 hx3
  go_wp2_with fail
  refine (stepKin_ok q c w3 (by rw [beq_eq_false_iff_ne]; exact fun e => hk.out.1 ((tmod2 q).1 e)) (by rw [beq_eq_false_iff_ne]; exact fun e => hk.out.2.1 ((tmod2 c).1 e)) hk.out.2.2.1 hk.out.2.2.2.1 hk.out.2.2.2.2.1 hk.out.2.2.2.2.2).mono ?_
  rintro e w4 ⟨v4, rfl, hn4, hx4⟩
  obtain ⟨g3, g4, kk, rfl, k1, k2, hg3, hg4, hl3, hl4, hk12⟩ := hn4
  have hx5 : Ext w4 (w4.alloc (.cells #[.int .i64 2, .slice (some ⟨g3, 0, none⟩) kk kk, .slice (some ⟨g4, 0, none⟩) kk kk] 24)) := (Ext.rfl' w4).alloc' _
  have hr5 : Row (w4.alloc (.cells #[.int .i64 2, .slice (some ⟨g3, 0, none⟩) kk kk, .slice (some ⟨g4, 0, none⟩) kk kk] 24)) w4.heap.size 24 [.int .i64 2, .slice (some ⟨g3, 0, none⟩) kk kk, .slice (some ⟨g4, 0, none⟩) kk kk] := Row.new w4 _ _
  have k1b := k1.ext hx5
  have k2b := k2.ext hx5
  obtain ⟨W5, hW5⟩ : ∃ W5, (w4.alloc (.cells #[.int .i64 2, .slice (some ⟨g3, 0, none⟩) kk kk, .slice (some ⟨g4, 0, none⟩) kk kk] 24)) = W5 := ⟨_, rfl⟩
  rw [hW5] at hx5 hr5 k1b k2b
  have HW5 := hid hW5
  have HX5 := hid (HX3.out.step (hx4.step hx5))
  have HB5 := hid hr5
  have HK1 := hid k1b
  have HK2 := hid k2b
  have HG3 := hid (And.intro hg3 k1.lt)
  have HG4 := hid (And.intro hg4 k2.lt)
  have HK12 := hid (And.intro hl3 (And.intro hl4 hk12))
  clear k1 k2 k1b k2b hg3 hg4 hl3 hl4 hk12
  have HX4 := hid hx4
  have HS5 := hid hx5
  clear hx4 hx5 hr5 hW5
  have HRW := hid (HR.out.ext (HX2.out.step HX5.out))
  have HR2W := hid (HR2.out.ext HX5.out)
  have HVW := hid (HV1.out.ext (HX2.out.step HX5.out))
  have HV2W := hid (HV2.out.ext HX5.out)
  have HS : Hid (∀ W', Ext W5 W' → W'.cell? ⟨w.heap.size, 0, none⟩ = some (.int .i64 m) ∧ W'.cell? ⟨w.heap.size, 1, none⟩ = some (.slice A n cc) ∧ W'.cell? ⟨w.heap.size, 2, none⟩ = some (.slice B n2 d) ∧ W'.cell? ⟨w2.heap.size, 0, none⟩ = some (.int .i64 m) ∧ W'.cell? ⟨w2.heap.size, 1, none⟩ = some (.slice A2 l2 e2) ∧ W'.cell? ⟨w2.heap.size, 2, none⟩ = some (.slice B2 p2 g2)) := hid (by
    intro W' e
    obtain ⟨p0, p1, p2, -, -, -⟩ := row_facts3 (HRW.out.ext e)
    obtain ⟨s0, s1, s2, -, -, -⟩ := row_facts3 (HR2W.out.ext e)
    exact ⟨p0, p1, p2, s0, s1, s2⟩)
  have hcur : Ext W5 W5 := Ext.rfl' _
  go_upto_region 4 with fail
  rw [HW5.out]
  go_region_held3 (fun W' => W'.cell? ⟨w.heap.size, 0, none⟩ = some (.int .i64 m) ∧ W'.cell? ⟨w.heap.size, 1, none⟩ = some (.slice A n cc) ∧ W'.cell? ⟨w.heap.size, 2, none⟩ = some (.slice B n2 d) ∧ W'.cell? ⟨w2.heap.size, 0, none⟩ = some (.int .i64 m) ∧ W'.cell? ⟨w2.heap.size, 1, none⟩ = some (.slice A2 l2 e2) ∧ W'.cell? ⟨w2.heap.size, 2, none⟩ = some (.slice B2 p2 g2))
    (first | exact HS.out _ hcur | exact HS.out _ hcur.drew' | exact HS.out _ (hcur.alloc' _) | exact HS.out _ (hcur.drew'.alloc' _) | exact HS.out _ ((hcur.set' HB2.out.1 _).set' HB2.out.1 _) | go_keep)
    (first
      | (go_at_call 7; refine (stepvalid_any _ m us ad _ (HVW.out.ext ?_) hb).mono ?_; (first | exact hcur | exact hcur.drew' | exact hcur.alloc' _ | exact hcur.drew'.alloc' _ | exact (hcur.alloc' _).drew'); rintro e w6 ⟨rfl, hx⟩; have hcur := Ext.step hcur (by first | exact hx | exact Ext.undrew hx | exact Ext.step ((Ext.rfl' _).alloc' _) hx | exact Ext.step ((Ext.rfl' _).drew'.alloc' _) hx))
      | (go_at_call 8; refine (refvalid_any _ m us ad _ (HV2W.out.ext ?_) hb).mono ?_; (first | exact hcur | exact hcur.drew' | exact hcur.alloc' _ | exact hcur.drew'.alloc' _ | exact (hcur.alloc' _).drew'); rintro e w7 ⟨rfl, hx⟩; have hcur := Ext.step hcur (by first | exact hx | exact Ext.undrew hx | exact Ext.step ((Ext.rfl' _).alloc' _) hx | exact Ext.step ((Ext.rfl' _).drew'.alloc' _) hx))
      | (go_at_call 9; refine (rsame_eq _ _ m us ad _ (HVW.out.ext ?_) (HV2W.out.ext ?_)).mono ?_; (first | exact hcur | exact hcur.drew' | exact hcur.alloc' _ | exact hcur.drew'.alloc' _ | exact (hcur.alloc' _).drew'); (first | exact hcur | exact hcur.drew' | exact hcur.alloc' _ | exact hcur.drew'.alloc' _ | exact (hcur.alloc' _).drew'); rintro e w8 ⟨rfl, hx⟩; have hcur := Ext.step hcur (by first | exact hx | exact Ext.undrew hx | exact Ext.step ((Ext.rfl' _).alloc' _) hx | exact Ext.step ((Ext.rfl' _).drew'.alloc' _) hx)))
  all_goals
    have HC8 := hid hcur
    obtain ⟨s0, s1, s2, -, -, -⟩ := row_facts3 (HR2W.out.ext hcur)
    clear hcur
    go_wp2_with fail
    refine (refvalid_any _ m us ad _ (HV2W.out.ext HC8.out) hb).mono ?_
    rintro e w9 ⟨rfl, hx⟩
    have HC9 := hid (HC8.out.step (by first | exact hx | exact Ext.undrew hx))
    clear s0 s1 s2 hx
    obtain ⟨s0, s1, s2, -, -, -⟩ := row_facts3 (HR2W.out.ext HC9.out)
    go_wp2_with fail
    refine (rregular_any _ m us ad w9 (HV2W.out.ext HC9.out) hM).mono ?_
    rintro e w10 ⟨rfl, hx⟩
    rw [HRR.out]
    have HC10 := hid (HC9.out.step hx)
    clear s0 s1 s2 hx
    go_wp2_with fail
    refine (rKin_yes q c w10 hk.out).mono ?_
    rintro e w11 ⟨v11, rfl, hn11, hx⟩
    obtain ⟨g5, g6, tk, rfl, t1, t2, hg5, hg6, hl5, hl6, ht12⟩ := hn11
    have hx12 : Ext W5 (w11.alloc (.cells #[.int .i64 2, .slice (some ⟨g5, 0, none⟩) tk tk, .slice (some ⟨g6, 0, none⟩) tk tk] 24)) := (HC10.out.step hx).alloc' _
    have hr12 : Row (w11.alloc (.cells #[.int .i64 2, .slice (some ⟨g5, 0, none⟩) tk tk, .slice (some ⟨g6, 0, none⟩) tk tk] 24)) w11.heap.size 24 [.int .i64 2, .slice (some ⟨g5, 0, none⟩) tk tk, .slice (some ⟨g6, 0, none⟩) tk tk] := Row.new w11 _ _
    have t1b := t1.ext ((Ext.rfl' w11).alloc' (.cells #[.int .i64 2, .slice (some ⟨g5, 0, none⟩) tk tk, .slice (some ⟨g6, 0, none⟩) tk tk] 24))
    have t2b := t2.ext ((Ext.rfl' w11).alloc' (.cells #[.int .i64 2, .slice (some ⟨g5, 0, none⟩) tk tk, .slice (some ⟨g6, 0, none⟩) tk tk] 24))
    obtain ⟨W12, hW12⟩ : ∃ W12, (w11.alloc (.cells #[.int .i64 2, .slice (some ⟨g5, 0, none⟩) tk tk, .slice (some ⟨g6, 0, none⟩) tk tk] 24)) = W12 := ⟨_, rfl⟩
    rw [hW12] at hx12 hr12 t1b t2b
    have HW12 := hid hW12
    have HX12 := hid hx12
    have HT1 := hid t1b
    have HT2 := hid t2b
    have HTB := hid hr12
    have HTL := hid (And.intro hl5 (And.intro hl6 ht12))
    have HSZ : Hid (w3.heap.size ≤ w4.heap.size ∧ w4.heap.size < W5.heap.size ∧ W5.heap.size ≤ w10.heap.size ∧ w10.heap.size ≤ w11.heap.size ∧ w11.heap.size < W12.heap.size ∧ w10.heap.size ≤ g5 ∧ w10.heap.size ≤ g6) := hid ⟨HX4.out.size, by have := HB5.out.lt; exact this, HC10.out.size, hx.size, by have := hr12.lt; exact this, hg5, hg6⟩
    clear hx hx12 hr12 t1 t2 t1b t2b hW12 hg5 hg6 hl5 hl6 ht12
    obtain ⟨s0, s1, s2, -, -, -⟩ := row_facts3 (HB5.out.ext HX12.out)
    obtain ⟨u0, u1, u2, -, -, -⟩ := row_facts3 HTB.out
    have HKM : Hid (∀ W', Ext W12 W' → MapV W' (.agg #[.int .i64 2, .slice (some ⟨g3, 0, none⟩) kk kk, .slice (some ⟨g4, 0, none⟩) kk kk]) 2 [1, q] [0, c]) := hid (fun W' e => MapV.fresh (HK1.out.ext (HX12.out.step e)) (HK2.out.ext (HX12.out.step e)) HK12.out.1 HK12.out.2.1 HK12.out.2.2)
    have HTM : Hid (MapV W12 (.agg #[.int .i64 2, .slice (some ⟨g5, 0, none⟩) tk tk, .slice (some ⟨g6, 0, none⟩) tk tk]) 2 [1, q] [0, c]) := hid (MapV.fresh HT1.out HT2.out HTL.out.1 HTL.out.2.1 HTL.out.2.2)
    go_upto_region 12 with fail
    rw [HW12.out]
    go_wp2_with fail
    refine (rsame_eq _ _ 2 [1, q] [0, c] W12 (HKM.out _ (Ext.rfl' _)) HTM.out).mono ?_
    rintro e w13 ⟨rfl, hx⟩
    have HX13 := hid hx
    clear s0 s1 s2 u0 u1 u2 hx
    obtain ⟨s0, s1, s2, -, -, -⟩ := row_facts3 (HB5.out.ext (HX12.out.step HX13.out))
    go_wp2_with fail
    refine (stepvalid_any _ 2 [1, q] [0, c] w13 (HKM.out _ HX13.out) (hid ((mapB_iff _ _ _).2 (kin_map hk.out)))).mono ?_
    rintro e w14 ⟨rfl, hx⟩
    have HX14 := hid (HX12.out.step (HX13.out.step hx))
    have HE14 := hid (HX13.out.step hx)
    clear s0 s1 s2 hx
    obtain ⟨s0, s1, s2, -, -, -⟩ := row_facts3 (HB5.out.ext HX14.out)
    have hk14 := HK1.out.ext HX14.out
    have hc1 : w14.cell? ⟨g3, 0, none⟩ = some (.int .i64 1) := hk14.cell 0
    have hc1f := hk14.free 0
    have hkl : kk = 2 := HK12.out.1.symm
    have HG := HG3.out
    have HZ := HSZ.out
    have rB : Row (w14.setCell ⟨g3, 0, none⟩ (.int .i64 5)) w4.heap.size 24 [.int .i64 2, .slice (some ⟨g3, 0, none⟩) kk kk, .slice (some ⟨g4, 0, none⟩) kk kk] := (HB5.out.ext HX14.out).far (by show w4.heap.size ≠ g3; omega) _
    have rT1 : Row (w14.setCell ⟨g3, 0, none⟩ (.int .i64 5)) g5 3 (Is [1, q]) := (HT1.out.ext HE14.out).far (by show g5 ≠ g3; omega) _
    have rT2 : Row (w14.setCell ⟨g3, 0, none⟩ (.int .i64 5)) g6 3 (Is [0, c]) := (HT2.out.ext HE14.out).far (by show g6 ≠ g3; omega) _
    have rTB : Row (w14.setCell ⟨g3, 0, none⟩ (.int .i64 5)) w11.heap.size 24 [.int .i64 2, .slice (some ⟨g5, 0, none⟩) tk tk, .slice (some ⟨g6, 0, none⟩) tk tk] := (HTB.out.ext HE14.out).far (by show w11.heap.size ≠ g3; omega) _
    have eX : Ext w3 (w14.setCell ⟨g3, 0, none⟩ (.int .i64 5)) := (HX4.out.step (HS5.out.step HX14.out)).set' (by show w3.heap.size ≤ g3; exact HG.1) _
    obtain ⟨W14, hW14⟩ : ∃ W14, (w14.setCell ⟨g3, 0, none⟩ (.int .i64 5)) = W14 := ⟨_, rfl⟩
    rw [hW14] at rB rT1 rT2 rTB eX
    have HW14 := hid hW14
    have RB := hid rB
    have RT1 := hid rT1
    have RT2 := hid rT2
    have RTB := hid rTB
    have EX14 := hid eX
    clear rB rT1 rT2 rTB eX hW14 hk14 HG HZ
    subst hkl
    go_upto_region 17 with fail
    rw [HW14.out]
    clear s0 s1 s2 hc1 hc1f
    go_wp2_with fail
    refine (stepKin_ok q c W14 (by rw [beq_eq_false_iff_ne]; exact fun e => hk.out.1 ((tmod2 q).1 e)) (by rw [beq_eq_false_iff_ne]; exact fun e => hk.out.2.1 ((tmod2 c).1 e)) hk.out.2.2.1 hk.out.2.2.2.1 hk.out.2.2.2.2.1 hk.out.2.2.2.2.2).mono ?_
    rintro e w15 ⟨v15, rfl, hn15, hx⟩
    obtain ⟨g7, g8, nk, rfl, n1, n2r, hg7, hg8, hl7, hl8, hn12⟩ := hn15
    have hb15 := RB.out.ext hx
    have hlt15 := RB.out.lt
    have hltT := RTB.out.lt
    have HG5 := RT1.out.lt
    have HG6 := RT2.out.lt
    have HZ := HSZ.out
    have q1 : Row (((w15.setCell ⟨w4.heap.size, 0, none⟩ (.int .i64 2)).setCell ⟨w4.heap.size, 1, none⟩ (.slice (some ⟨g7, 0, none⟩) nk nk)).setCell ⟨w4.heap.size, 2, none⟩ (.slice (some ⟨g8, 0, none⟩) nk nk)) g7 3 (Is [1, q]) := n1.set3 (by omega)
    have q2 : Row (((w15.setCell ⟨w4.heap.size, 0, none⟩ (.int .i64 2)).setCell ⟨w4.heap.size, 1, none⟩ (.slice (some ⟨g7, 0, none⟩) nk nk)).setCell ⟨w4.heap.size, 2, none⟩ (.slice (some ⟨g8, 0, none⟩) nk nk)) g8 3 (Is [0, c]) := n2r.set3 (by omega)
    have qB : Row (((w15.setCell ⟨w4.heap.size, 0, none⟩ (.int .i64 2)).setCell ⟨w4.heap.size, 1, none⟩ (.slice (some ⟨g7, 0, none⟩) nk nk)).setCell ⟨w4.heap.size, 2, none⟩ (.slice (some ⟨g8, 0, none⟩) nk nk)) w4.heap.size 24 [.int .i64 2, .slice (some ⟨g7, 0, none⟩) nk nk, .slice (some ⟨g8, 0, none⟩) nk nk] := hb15.put3
    have qT1 : Row (((w15.setCell ⟨w4.heap.size, 0, none⟩ (.int .i64 2)).setCell ⟨w4.heap.size, 1, none⟩ (.slice (some ⟨g7, 0, none⟩) nk nk)).setCell ⟨w4.heap.size, 2, none⟩ (.slice (some ⟨g8, 0, none⟩) nk nk)) g5 3 (Is [1, q]) := (RT1.out.ext hx).set3 (by omega)
    have qT2 : Row (((w15.setCell ⟨w4.heap.size, 0, none⟩ (.int .i64 2)).setCell ⟨w4.heap.size, 1, none⟩ (.slice (some ⟨g7, 0, none⟩) nk nk)).setCell ⟨w4.heap.size, 2, none⟩ (.slice (some ⟨g8, 0, none⟩) nk nk)) g6 3 (Is [0, c]) := (RT2.out.ext hx).set3 (by omega)
    have qTB : Row (((w15.setCell ⟨w4.heap.size, 0, none⟩ (.int .i64 2)).setCell ⟨w4.heap.size, 1, none⟩ (.slice (some ⟨g7, 0, none⟩) nk nk)).setCell ⟨w4.heap.size, 2, none⟩ (.slice (some ⟨g8, 0, none⟩) nk nk)) w11.heap.size 24 [.int .i64 2, .slice (some ⟨g5, 0, none⟩) tk tk, .slice (some ⟨g6, 0, none⟩) tk tk] := (RTB.out.ext hx).set3 (by omega)
    have eX16 : Ext w3 (((w15.setCell ⟨w4.heap.size, 0, none⟩ (.int .i64 2)).setCell ⟨w4.heap.size, 1, none⟩ (.slice (some ⟨g7, 0, none⟩) nk nk)).setCell ⟨w4.heap.size, 2, none⟩ (.slice (some ⟨g8, 0, none⟩) nk nk)) := (EX14.out.step hx).set3 (by omega)
    obtain ⟨W16, hW16⟩ : ∃ W16, (((w15.setCell ⟨w4.heap.size, 0, none⟩ (.int .i64 2)).setCell ⟨w4.heap.size, 1, none⟩ (.slice (some ⟨g7, 0, none⟩) nk nk)).setCell ⟨w4.heap.size, 2, none⟩ (.slice (some ⟨g8, 0, none⟩) nk nk)) = W16 := ⟨_, rfl⟩
    rw [hW16] at q1 q2 qB qT1 qT2 qTB eX16
    have HW16 := hid hW16
    have Q1 := hid q1
    have Q2 := hid q2
    have QB := hid qB
    have QT1 := hid qT1
    have QT2 := hid qT2
    have QTB := hid qTB
    have EX16 := hid eX16
    have HNL := hid (And.intro hl7 (And.intro hl8 hn12))
    obtain ⟨z0, z1, z2, z3, z4, z5⟩ := row_facts3 hb15
    clear q1 q2 qB qT1 qT2 qTB eX16 hW16 hx n1 n2r hg7 hg8 hl7 hl8 hn12 hb15 hlt15 hltT HG5 HG6 HZ
    go_upto_region 18 with fail
    rw [HW16.out]
    clear z0 z1 z2 z3 z4 z5
    go_wp2_with fail
    refine (stepCollatz_any W16).mono ?_
    rintro e w17 ⟨v17, rfl, hn17, hx⟩
    obtain ⟨g9, gx, dk, rfl, d1, d2, hg9, hgx, hl9, hlx, hd12⟩ := hn17
    have hx18 : Ext W16 (w17.alloc (.cells #[.int .i64 2, .slice (some ⟨g9, 0, none⟩) dk dk, .slice (some ⟨gx, 0, none⟩) dk dk] 24)) := hx.alloc' _
    have hr18 : Row (w17.alloc (.cells #[.int .i64 2, .slice (some ⟨g9, 0, none⟩) dk dk, .slice (some ⟨gx, 0, none⟩) dk dk] 24)) w17.heap.size 24 [.int .i64 2, .slice (some ⟨g9, 0, none⟩) dk dk, .slice (some ⟨gx, 0, none⟩) dk dk] := Row.new w17 _ _
    have d1b := d1.ext ((Ext.rfl' w17).alloc' (.cells #[.int .i64 2, .slice (some ⟨g9, 0, none⟩) dk dk, .slice (some ⟨gx, 0, none⟩) dk dk] 24))
    have d2b := d2.ext ((Ext.rfl' w17).alloc' (.cells #[.int .i64 2, .slice (some ⟨g9, 0, none⟩) dk dk, .slice (some ⟨gx, 0, none⟩) dk dk] 24))
    obtain ⟨W18, hW18⟩ : ∃ W18, (w17.alloc (.cells #[.int .i64 2, .slice (some ⟨g9, 0, none⟩) dk dk, .slice (some ⟨gx, 0, none⟩) dk dk] 24)) = W18 := ⟨_, rfl⟩
    rw [hW18] at hx18 hr18 d1b d2b
    have HW18 := hid hW18
    have HX18 := hid hx18
    have HR18 := hid hr18
    have D1 := hid d1b
    have D2 := hid d2b
    have HDL := hid (And.intro hl9 (And.intro hlx hd12))
    have HG9 := hid (show w3.heap.size ≤ g9 by have := EX16.out.size; omega)
    clear hx hx18 hr18 d1 d2 d1b d2b hW18 hl9 hlx hd12 hg9 hgx
    have HS19 : Hid (∀ W', Ext W18 W' → W'.cell? ⟨w4.heap.size, 0, none⟩ = some (.int .i64 2) ∧ W'.cell? ⟨w4.heap.size, 1, none⟩ = some (.slice (some ⟨g7, 0, none⟩) nk nk) ∧ W'.cell? ⟨w4.heap.size, 2, none⟩ = some (.slice (some ⟨g8, 0, none⟩) nk nk) ∧ W'.cell? ⟨w11.heap.size, 0, none⟩ = some (.int .i64 2) ∧ W'.cell? ⟨w11.heap.size, 1, none⟩ = some (.slice (some ⟨g5, 0, none⟩) tk tk) ∧ W'.cell? ⟨w11.heap.size, 2, none⟩ = some (.slice (some ⟨g6, 0, none⟩) tk tk) ∧ W'.cell? ⟨w17.heap.size, 0, none⟩ = some (.int .i64 2) ∧ W'.cell? ⟨w17.heap.size, 1, none⟩ = some (.slice (some ⟨g9, 0, none⟩) dk dk) ∧ W'.cell? ⟨w17.heap.size, 2, none⟩ = some (.slice (some ⟨gx, 0, none⟩) dk dk)) := hid (by
      intro W' e
      obtain ⟨p0, p1, p2, -, -, -⟩ := row_facts3 (QB.out.ext (HX18.out.step e))
      obtain ⟨s0, s1, s2, -, -, -⟩ := row_facts3 (QTB.out.ext (HX18.out.step e))
      obtain ⟨t0, t1, t2, -, -, -⟩ := row_facts3 (HR18.out.ext e)
      exact ⟨p0, p1, p2, s0, s1, s2, t0, t1, t2⟩)
    have HKN : Hid (∀ W', Ext W18 W' → MapV W' (.agg #[.int .i64 2, .slice (some ⟨g7, 0, none⟩) nk nk, .slice (some ⟨g8, 0, none⟩) nk nk]) 2 [1, q] [0, c]) := hid (fun W' e => MapV.fresh (Q1.out.ext (HX18.out.step e)) (Q2.out.ext (HX18.out.step e)) HNL.out.1 HNL.out.2.1 HNL.out.2.2)
    have HTN : Hid (∀ W', Ext W18 W' → MapV W' (.agg #[.int .i64 2, .slice (some ⟨g5, 0, none⟩) tk tk, .slice (some ⟨g6, 0, none⟩) tk tk]) 2 [1, q] [0, c]) := hid (fun W' e => MapV.fresh (QT1.out.ext (HX18.out.step e)) (QT2.out.ext (HX18.out.step e)) HTL.out.1 HTL.out.2.1 HTL.out.2.2)
    have HDN : Hid (∀ W', Ext W18 W' → MapV W' (.agg #[.int .i64 2, .slice (some ⟨g9, 0, none⟩) dk dk, .slice (some ⟨gx, 0, none⟩) dk dk]) 2 [1, 3] [0, 1]) := hid (fun W' e => MapV.fresh (D1.out.ext e) (D2.out.ext e) HDL.out.1 HDL.out.2.1 HDL.out.2.2)
    have hcur : Ext W18 W18 := Ext.rfl' _
    go_upto_region 19 with fail
    rw [HW18.out]
    go_region_held3 (fun W' => W'.cell? ⟨w4.heap.size, 0, none⟩ = some (.int .i64 2) ∧ W'.cell? ⟨w4.heap.size, 1, none⟩ = some (.slice (some ⟨g7, 0, none⟩) nk nk) ∧ W'.cell? ⟨w4.heap.size, 2, none⟩ = some (.slice (some ⟨g8, 0, none⟩) nk nk) ∧ W'.cell? ⟨w11.heap.size, 0, none⟩ = some (.int .i64 2) ∧ W'.cell? ⟨w11.heap.size, 1, none⟩ = some (.slice (some ⟨g5, 0, none⟩) tk tk) ∧ W'.cell? ⟨w11.heap.size, 2, none⟩ = some (.slice (some ⟨g6, 0, none⟩) tk tk) ∧ W'.cell? ⟨w17.heap.size, 0, none⟩ = some (.int .i64 2) ∧ W'.cell? ⟨w17.heap.size, 1, none⟩ = some (.slice (some ⟨g9, 0, none⟩) dk dk) ∧ W'.cell? ⟨w17.heap.size, 2, none⟩ = some (.slice (some ⟨gx, 0, none⟩) dk dk))
      (first | exact HS19.out _ hcur | exact HS19.out _ hcur.drew' | exact HS19.out _ (hcur.alloc' _) | exact HS19.out _ (hcur.drew'.alloc' _) | exact HS19.out _ ((hcur.set' HB2.out.1 _).set' HB2.out.1 _) | go_keep)
      (first
        | (go_at_call_of 9 (Value.agg #[Value.int IntKind.i64 2, Value.slice (some ⟨g7, 0, none⟩) nk nk, Value.slice (some ⟨g8, 0, none⟩) nk nk]); refine (rsame_eq _ _ 2 [1, q] [0, c] _ (HKN.out _ ?_) (HTN.out _ ?_)).mono ?_; (first | exact hcur | exact hcur.drew' | exact hcur.alloc' _ | exact hcur.drew'.alloc' _ | exact (hcur.alloc' _).drew'); (first | exact hcur | exact hcur.drew' | exact hcur.alloc' _ | exact hcur.drew'.alloc' _ | exact (hcur.alloc' _).drew'); rintro e w19 ⟨rfl, hx⟩; have hcur := Ext.step hcur (by first | exact hx | exact Ext.undrew hx | exact Ext.step ((Ext.rfl' _).alloc' _) hx | exact Ext.step ((Ext.rfl' _).drew'.alloc' _) hx))
        | (go_at_call 14; refine (refCollatz_any _).mono ?_; rintro e w20 ⟨v20, rfl, hn20, hx⟩; have hcur := Ext.step hcur (by first | exact hx | exact Ext.undrew hx | exact Ext.step ((Ext.rfl' _).alloc' _) hx | exact Ext.step ((Ext.rfl' _).drew'.alloc' _) hx); have HCM := hid hn20.mapV; obtain ⟨c1, c2, c3, rfl, -⟩ := hn20)
        | (go_at_call 9; refine (rsame_eq _ _ 2 [1, 3] [0, 1] _ (HDN.out _ ?_) (HCM.out.ext ?_)).mono ?_; (first | exact hcur | exact hcur.drew' | exact hcur.alloc' _ | exact hcur.drew'.alloc' _ | exact (hcur.alloc' _).drew'); (first | exact Ext.rfl' _ | exact (Ext.rfl' _).drew' | exact (Ext.rfl' _).alloc' _ | exact (Ext.rfl' _).drew'.alloc' _); rintro e w21 ⟨rfl, hx⟩; have hcur := Ext.step hcur (by first | exact hx | exact Ext.undrew hx | exact Ext.step ((Ext.rfl' _).alloc' _) hx | exact Ext.step ((Ext.rfl' _).drew'.alloc' _) hx)))
    all_goals
      have HD21 := hid (D1.out.ext hcur)
      have HB21 := hid (HR18.out.ext hcur)
      have HE21 := hid (EX16.out.step (HX18.out.step hcur))
      clear hcur
      obtain ⟨t0, t1, t2, -, -, -⟩ := row_facts3 HB21.out
      have hd0 : World.cell? _ ⟨g9, 0, none⟩ = some (.int .i64 1) := HD21.out.cell 0
      have hd1 := HD21.out.free 0
      have hdk : dk = 2 := HDL.out.1.symm
      subst hdk
      have HE22 := hid (HE21.out.set' (p := ⟨g9, 0, none⟩) (by show w3.heap.size ≤ g9; exact HG9.out) (.int .i64 5))
      have HY22 := hid (HX2.out.step (HX3.out.step HE22.out))
      go_wp2_with fail
      refine (awake2_any _ (HTT.out.ext HY22.out)).mono ?_
      rintro e wL ⟨rfl, hxL⟩
      have HL := hid (HX.out.step (HY22.out.step hxL))
      go_wp2
      go_ret
      exact ⟨rfl, HL.out⟩
set_option maxRecDepth 100000 in
set_option maxHeartbeats 6400000 in
theorem maps_tf (v : Value) (m : Int) (us ad : List Int) (q c : Int) (w : World) (hv : MapV w v m us ad) (h8 : Fit8 v) (ht : Tab w) (hb : Hid (mapB m us ad = true)) (hk : Hid (¬ kinP q c)) :
    Calls Tryd.prog 3 #[v, .int .i64 q, .int .i64 c] w (TruePost w) := by
  have HT := hid ht
  have HV := hid hv
  have H8 := hid h8
  obtain ⟨A, n, cc, B, n2, d, rfl, -⟩ := hv
  have hx : Ext w (w.alloc (.cells #[.int .i64 m, .slice A n cc, .slice B n2 d] 24)) := (Ext.rfl' w).alloc' _
  have hr : Row (w.alloc (.cells #[.int .i64 m, .slice A n cc, .slice B n2 d] 24)) w.heap.size 24 [.int .i64 m, .slice A n cc, .slice B n2 d] := Row.new w _ _
  obtain ⟨W1, hW1⟩ : ∃ W1, (w.alloc (.cells #[.int .i64 m, .slice A n cc, .slice B n2 d] 24)) = W1 := ⟨_, rfl⟩
  rw [hW1] at hx hr
  have HX := hid hx
  have HR := hid hr
  have HW1 := hid hW1
  obtain ⟨f0, f1, f2, -, -, -⟩ := row_facts3 hr
  have HTT : Hid (Tab W1) := hid (ht.ext hx)
  have HV1 := hid (HV.out.ext hx)
  clear hW1 hx hr h8
  obtain ⟨r, hr0⟩ : ∃ r, regB m us = r := ⟨_, rfl⟩
  have HRR := hid hr0
  have hM : Hid (mapP m us ad) := hid ((mapB_iff m us ad).1 hb.out)
  have hrr : (r != r) = false := by simp
  clear hr0
  go_enter Tryd.func3, Tryd.ntmps3
  go_upto_region 1 with fail
  rw [HW1.out]
  go_wp2_with fail
  refine (twin_any _ m us ad W1 HV1.out H8.out).mono ?_
  rintro e w2 ⟨v2, rfl, hv2, hx2⟩
  have hv2b := hv2
  obtain ⟨A2, l2, e2, B2, p2, g2, rfl, -⟩ := hv2
  have hx2b : Ext W1 (w2.alloc (.cells #[.int .i64 m, .slice A2 l2 e2, .slice B2 p2 g2] 24)) := hx2.alloc' _
  have hr2 : Row (w2.alloc (.cells #[.int .i64 m, .slice A2 l2 e2, .slice B2 p2 g2] 24)) w2.heap.size 24 [.int .i64 m, .slice A2 l2 e2, .slice B2 p2 g2] := Row.new w2 _ _
  have hv2c := hv2b.ext ((Ext.rfl' w2).alloc' (.cells #[.int .i64 m, .slice A2 l2 e2, .slice B2 p2 g2] 24))
  obtain ⟨W2, hW2⟩ : ∃ W2, (w2.alloc (.cells #[.int .i64 m, .slice A2 l2 e2, .slice B2 p2 g2] 24)) = W2 := ⟨_, rfl⟩
  rw [hW2] at hx2b hr2 hv2c
  have HX2 := hid hx2b
  have HR2 := hid hr2
  have HV2 := hid hv2c
  have HW2 := hid hW2
  clear f0 f1 f2 hx2 hx2b hr2 hv2b hv2c hW2
  obtain ⟨f0, f1, f2, -, -, -⟩ := row_facts3 (HR.out.ext HX2.out)
  go_upto_region 2 with fail
  rw [HW2.out]
  go_wp2_with fail
  refine (regular_ok _ m us ad W2 (HV1.out.ext HX2.out) hM).mono ?_
  rintro e w3 ⟨rfl, hx3⟩
  rw [HRR.out]
  have HX3 := hid hx3
  clear f0 f1 f2 hx3
  go_wp2_with fail
  refine (stepKin_bad q c w3 hk.out).mono ?_
  rintro e w4 ⟨rfl, hx4⟩
  have hx5 : Ext w4 (w4.alloc (.cells #[.int .i64 0, .slice none 0 0, .slice none 0 0] 24)) := (Ext.rfl' w4).alloc' _
  have hr5 : Row (w4.alloc (.cells #[.int .i64 0, .slice none 0 0, .slice none 0 0] 24)) w4.heap.size 24 [.int .i64 0, .slice none 0 0, .slice none 0 0] := Row.new w4 _ _
  obtain ⟨W5, hW5⟩ : ∃ W5, (w4.alloc (.cells #[.int .i64 0, .slice none 0 0, .slice none 0 0] 24)) = W5 := ⟨_, rfl⟩
  rw [hW5] at hx5 hr5 
  have HW5 := hid hW5
  have HX5 := hid (HX3.out.step (hx4.step hx5))
  have HB5 := hid hr5
  have HX4 := hid hx4
  have HS5 := hid hx5
  clear hx4 hx5 hr5 hW5
  have HRW := hid (HR.out.ext (HX2.out.step HX5.out))
  have HR2W := hid (HR2.out.ext HX5.out)
  have HVW := hid (HV1.out.ext (HX2.out.step HX5.out))
  have HV2W := hid (HV2.out.ext HX5.out)
  have HS : Hid (∀ W', Ext W5 W' → W'.cell? ⟨w.heap.size, 0, none⟩ = some (.int .i64 m) ∧ W'.cell? ⟨w.heap.size, 1, none⟩ = some (.slice A n cc) ∧ W'.cell? ⟨w.heap.size, 2, none⟩ = some (.slice B n2 d) ∧ W'.cell? ⟨w2.heap.size, 0, none⟩ = some (.int .i64 m) ∧ W'.cell? ⟨w2.heap.size, 1, none⟩ = some (.slice A2 l2 e2) ∧ W'.cell? ⟨w2.heap.size, 2, none⟩ = some (.slice B2 p2 g2)) := hid (by
    intro W' e
    obtain ⟨p0, p1, p2, -, -, -⟩ := row_facts3 (HRW.out.ext e)
    obtain ⟨s0, s1, s2, -, -, -⟩ := row_facts3 (HR2W.out.ext e)
    exact ⟨p0, p1, p2, s0, s1, s2⟩)
  have hcur : Ext W5 W5 := Ext.rfl' _
  go_upto_region 4 with fail
  rw [HW5.out]
  go_region_held3 (fun W' => W'.cell? ⟨w.heap.size, 0, none⟩ = some (.int .i64 m) ∧ W'.cell? ⟨w.heap.size, 1, none⟩ = some (.slice A n cc) ∧ W'.cell? ⟨w.heap.size, 2, none⟩ = some (.slice B n2 d) ∧ W'.cell? ⟨w2.heap.size, 0, none⟩ = some (.int .i64 m) ∧ W'.cell? ⟨w2.heap.size, 1, none⟩ = some (.slice A2 l2 e2) ∧ W'.cell? ⟨w2.heap.size, 2, none⟩ = some (.slice B2 p2 g2))
    (first | exact HS.out _ hcur | exact HS.out _ hcur.drew' | exact HS.out _ (hcur.alloc' _) | exact HS.out _ (hcur.drew'.alloc' _) | exact HS.out _ ((hcur.set' HB2.out.1 _).set' HB2.out.1 _) | go_keep)
    (first
      | (go_at_call 7; refine (stepvalid_any _ m us ad _ (HVW.out.ext ?_) hb).mono ?_; (first | exact hcur | exact hcur.drew' | exact hcur.alloc' _ | exact hcur.drew'.alloc' _ | exact (hcur.alloc' _).drew'); rintro e w6 ⟨rfl, hx⟩; have hcur := Ext.step hcur (by first | exact hx | exact Ext.undrew hx | exact Ext.step ((Ext.rfl' _).alloc' _) hx | exact Ext.step ((Ext.rfl' _).drew'.alloc' _) hx))
      | (go_at_call 8; refine (refvalid_any _ m us ad _ (HV2W.out.ext ?_) hb).mono ?_; (first | exact hcur | exact hcur.drew' | exact hcur.alloc' _ | exact hcur.drew'.alloc' _ | exact (hcur.alloc' _).drew'); rintro e w7 ⟨rfl, hx⟩; have hcur := Ext.step hcur (by first | exact hx | exact Ext.undrew hx | exact Ext.step ((Ext.rfl' _).alloc' _) hx | exact Ext.step ((Ext.rfl' _).drew'.alloc' _) hx))
      | (go_at_call 9; refine (rsame_eq _ _ m us ad _ (HVW.out.ext ?_) (HV2W.out.ext ?_)).mono ?_; (first | exact hcur | exact hcur.drew' | exact hcur.alloc' _ | exact hcur.drew'.alloc' _ | exact (hcur.alloc' _).drew'); (first | exact hcur | exact hcur.drew' | exact hcur.alloc' _ | exact hcur.drew'.alloc' _ | exact (hcur.alloc' _).drew'); rintro e w8 ⟨rfl, hx⟩; have hcur := Ext.step hcur (by first | exact hx | exact Ext.undrew hx | exact Ext.step ((Ext.rfl' _).alloc' _) hx | exact Ext.step ((Ext.rfl' _).drew'.alloc' _) hx)))
  all_goals
    have HC8 := hid hcur
    obtain ⟨s0, s1, s2, -, -, -⟩ := row_facts3 (HR2W.out.ext hcur)
    clear hcur
    go_wp2_with fail
    refine (refvalid_any _ m us ad _ (HV2W.out.ext HC8.out) hb).mono ?_
    rintro e w9 ⟨rfl, hx⟩
    have HC9 := hid (HC8.out.step (by first | exact hx | exact Ext.undrew hx))
    clear s0 s1 s2 hx
    obtain ⟨s0, s1, s2, -, -, -⟩ := row_facts3 (HR2W.out.ext HC9.out)
    go_wp2_with fail
    refine (rregular_any _ m us ad w9 (HV2W.out.ext HC9.out) hM).mono ?_
    rintro e w10 ⟨rfl, hx⟩
    rw [HRR.out]
    have HC10 := hid (HC9.out.step hx)
    clear s0 s1 s2 hx
    go_wp2_with fail
    refine (rKin_no q c w10 hk.out).mono ?_
    rintro e w11 ⟨rfl, hx⟩
    have hx12 : Ext W5 (w11.alloc (.cells #[.int .i64 0, .slice none 0 0, .slice none 0 0] 24)) := (HC10.out.step hx).alloc' _
    obtain ⟨W12, hW12⟩ : ∃ W12, (w11.alloc (.cells #[.int .i64 0, .slice none 0 0, .slice none 0 0] 24)) = W12 := ⟨_, rfl⟩
    rw [hW12] at hx12
    have HW12 := hid hW12
    have HX12 := hid hx12
    clear hx hx12 hW12
    obtain ⟨s0, s1, s2, -, -, -⟩ := row_facts3 (HB5.out.ext HX12.out)
    go_upto_region 12 with fail
    rw [HW12.out]
    go_wp2_with fail
    refine (rsame_eq _ _ 0 [] [] W12 (MapV.zero _) (MapV.zero _)).mono ?_
    rintro e w13 ⟨rfl, hx⟩
    have HY13 := hid (HX2.out.step (HX5.out.step (HX12.out.step hx)))
    clear s0 s1 s2 hx
    go_wp2_with fail
    refine (awake2_any w13 (HTT.out.ext HY13.out)).mono ?_
    rintro e wL ⟨rfl, hxL⟩
    have HL := hid (HX.out.step (HY13.out.step hxL))
    go_wp2
    go_ret
    exact ⟨rfl, HL.out⟩
set_option maxRecDepth 100000 in
set_option maxHeartbeats 6400000 in
theorem maps_ft (v : Value) (m : Int) (us ad : List Int) (q c : Int) (w : World) (hv : MapV w v m us ad) (h8 : Fit8 v) (ht : Tab w) (hb : Hid (mapB m us ad = false)) (hk : Hid (kinP q c)) :
    Calls Tryd.prog 3 #[v, .int .i64 q, .int .i64 c] w (TruePost w) := by
  have HT := hid ht
  have HV := hid hv
  have H8 := hid h8
  obtain ⟨A, n, cc, B, n2, d, rfl, -⟩ := hv
  have hx : Ext w (w.alloc (.cells #[.int .i64 m, .slice A n cc, .slice B n2 d] 24)) := (Ext.rfl' w).alloc' _
  have hr : Row (w.alloc (.cells #[.int .i64 m, .slice A n cc, .slice B n2 d] 24)) w.heap.size 24 [.int .i64 m, .slice A n cc, .slice B n2 d] := Row.new w _ _
  obtain ⟨W1, hW1⟩ : ∃ W1, (w.alloc (.cells #[.int .i64 m, .slice A n cc, .slice B n2 d] 24)) = W1 := ⟨_, rfl⟩
  rw [hW1] at hx hr
  have HX := hid hx
  have HR := hid hr
  have HW1 := hid hW1
  obtain ⟨f0, f1, f2, -, -, -⟩ := row_facts3 hr
  have HTT : Hid (Tab W1) := hid (ht.ext hx)
  have HV1 := hid (HV.out.ext hx)
  clear hW1 hx hr h8
  go_enter Tryd.func3, Tryd.ntmps3
  go_upto_region 1 with fail
  rw [HW1.out]
  go_wp2_with fail
  refine (twin_any _ m us ad W1 HV1.out H8.out).mono ?_
  rintro e w2 ⟨v2, rfl, hv2, hx2⟩
  have hv2b := hv2
  obtain ⟨A2, l2, e2, B2, p2, g2, rfl, -⟩ := hv2
  have hx2b : Ext W1 (w2.alloc (.cells #[.int .i64 m, .slice A2 l2 e2, .slice B2 p2 g2] 24)) := hx2.alloc' _
  have hr2 : Row (w2.alloc (.cells #[.int .i64 m, .slice A2 l2 e2, .slice B2 p2 g2] 24)) w2.heap.size 24 [.int .i64 m, .slice A2 l2 e2, .slice B2 p2 g2] := Row.new w2 _ _
  have hv2c := hv2b.ext ((Ext.rfl' w2).alloc' (.cells #[.int .i64 m, .slice A2 l2 e2, .slice B2 p2 g2] 24))
  obtain ⟨W2, hW2⟩ : ∃ W2, (w2.alloc (.cells #[.int .i64 m, .slice A2 l2 e2, .slice B2 p2 g2] 24)) = W2 := ⟨_, rfl⟩
  rw [hW2] at hx2b hr2 hv2c
  have HX2 := hid hx2b
  have HR2 := hid hr2
  have HV2 := hid hv2c
  have HW2 := hid hW2
  clear f0 f1 f2 hx2 hx2b hr2 hv2b hv2c hW2
  obtain ⟨f0, f1, f2, -, -, -⟩ := row_facts3 (HR.out.ext HX2.out)
  go_upto_region 2 with fail
  rw [HW2.out]
  go_wp2_with fail
  refine (regular_bad _ m us ad W2 (HV1.out.ext HX2.out) hb).mono ?_
  rintro e w3 ⟨rfl, hx3⟩
  skip
  have HX3 := hid hx3
  clear f0 f1 f2 hx3
  go_wp2_with fail
  refine (stepKin_ok q c w3 (by rw [beq_eq_false_iff_ne]; exact fun e => hk.out.1 ((tmod2 q).1 e)) (by rw [beq_eq_false_iff_ne]; exact fun e => hk.out.2.1 ((tmod2 c).1 e)) hk.out.2.2.1 hk.out.2.2.2.1 hk.out.2.2.2.2.1 hk.out.2.2.2.2.2).mono ?_
  rintro e w4 ⟨v4, rfl, hn4, hx4⟩
  obtain ⟨g3, g4, kk, rfl, k1, k2, hg3, hg4, hl3, hl4, hk12⟩ := hn4
  have hx5 : Ext w4 (w4.alloc (.cells #[.int .i64 2, .slice (some ⟨g3, 0, none⟩) kk kk, .slice (some ⟨g4, 0, none⟩) kk kk] 24)) := (Ext.rfl' w4).alloc' _
  have hr5 : Row (w4.alloc (.cells #[.int .i64 2, .slice (some ⟨g3, 0, none⟩) kk kk, .slice (some ⟨g4, 0, none⟩) kk kk] 24)) w4.heap.size 24 [.int .i64 2, .slice (some ⟨g3, 0, none⟩) kk kk, .slice (some ⟨g4, 0, none⟩) kk kk] := Row.new w4 _ _
  have k1b := k1.ext hx5
  have k2b := k2.ext hx5
  obtain ⟨W5, hW5⟩ : ∃ W5, (w4.alloc (.cells #[.int .i64 2, .slice (some ⟨g3, 0, none⟩) kk kk, .slice (some ⟨g4, 0, none⟩) kk kk] 24)) = W5 := ⟨_, rfl⟩
  rw [hW5] at hx5 hr5 k1b k2b
  have HW5 := hid hW5
  have HX5 := hid (HX3.out.step (hx4.step hx5))
  have HB5 := hid hr5
  have HK1 := hid k1b
  have HK2 := hid k2b
  have HG3 := hid (And.intro hg3 k1.lt)
  have HG4 := hid (And.intro hg4 k2.lt)
  have HK12 := hid (And.intro hl3 (And.intro hl4 hk12))
  clear k1 k2 k1b k2b hg3 hg4 hl3 hl4 hk12
  have HX4 := hid hx4
  have HS5 := hid hx5
  clear hx4 hx5 hr5 hW5
  have HRW := hid (HR.out.ext (HX2.out.step HX5.out))
  have HR2W := hid (HR2.out.ext HX5.out)
  have HVW := hid (HV1.out.ext (HX2.out.step HX5.out))
  have HV2W := hid (HV2.out.ext HX5.out)
  have HS : Hid (∀ W', Ext W5 W' → W'.cell? ⟨w.heap.size, 0, none⟩ = some (.int .i64 m) ∧ W'.cell? ⟨w.heap.size, 1, none⟩ = some (.slice A n cc) ∧ W'.cell? ⟨w.heap.size, 2, none⟩ = some (.slice B n2 d) ∧ W'.cell? ⟨w2.heap.size, 0, none⟩ = some (.int .i64 m) ∧ W'.cell? ⟨w2.heap.size, 1, none⟩ = some (.slice A2 l2 e2) ∧ W'.cell? ⟨w2.heap.size, 2, none⟩ = some (.slice B2 p2 g2)) := hid (by
    intro W' e
    obtain ⟨p0, p1, p2, -, -, -⟩ := row_facts3 (HRW.out.ext e)
    obtain ⟨s0, s1, s2, -, -, -⟩ := row_facts3 (HR2W.out.ext e)
    exact ⟨p0, p1, p2, s0, s1, s2⟩)
  have hcur : Ext W5 W5 := Ext.rfl' _
  go_upto_region 4 with fail
  rw [HW5.out]
  go_region_held3 (fun W' => W'.cell? ⟨w.heap.size, 0, none⟩ = some (.int .i64 m) ∧ W'.cell? ⟨w.heap.size, 1, none⟩ = some (.slice A n cc) ∧ W'.cell? ⟨w.heap.size, 2, none⟩ = some (.slice B n2 d) ∧ W'.cell? ⟨w2.heap.size, 0, none⟩ = some (.int .i64 m) ∧ W'.cell? ⟨w2.heap.size, 1, none⟩ = some (.slice A2 l2 e2) ∧ W'.cell? ⟨w2.heap.size, 2, none⟩ = some (.slice B2 p2 g2))
    (first | exact HS.out _ hcur | exact HS.out _ hcur.drew' | exact HS.out _ (hcur.alloc' _) | exact HS.out _ (hcur.drew'.alloc' _) | exact HS.out _ ((hcur.set' HB2.out.1 _).set' HB2.out.1 _) | go_keep)
    (first
      | (go_at_call 7; refine (stepvalid_any _ m us ad _ (HVW.out.ext ?_) hb).mono ?_; (first | exact hcur | exact hcur.drew' | exact hcur.alloc' _ | exact hcur.drew'.alloc' _ | exact (hcur.alloc' _).drew'); rintro e w6 ⟨rfl, hx⟩; have hcur := Ext.step hcur (by first | exact hx | exact Ext.undrew hx | exact Ext.step ((Ext.rfl' _).alloc' _) hx | exact Ext.step ((Ext.rfl' _).drew'.alloc' _) hx))
      | (go_at_call 8; refine (refvalid_any _ m us ad _ (HV2W.out.ext ?_) hb).mono ?_; (first | exact hcur | exact hcur.drew' | exact hcur.alloc' _ | exact hcur.drew'.alloc' _ | exact (hcur.alloc' _).drew'); rintro e w7 ⟨rfl, hx⟩; have hcur := Ext.step hcur (by first | exact hx | exact Ext.undrew hx | exact Ext.step ((Ext.rfl' _).alloc' _) hx | exact Ext.step ((Ext.rfl' _).drew'.alloc' _) hx))
      | (go_at_call 9; refine (rsame_eq _ _ m us ad _ (HVW.out.ext ?_) (HV2W.out.ext ?_)).mono ?_; (first | exact hcur | exact hcur.drew' | exact hcur.alloc' _ | exact hcur.drew'.alloc' _ | exact (hcur.alloc' _).drew'); (first | exact hcur | exact hcur.drew' | exact hcur.alloc' _ | exact hcur.drew'.alloc' _ | exact (hcur.alloc' _).drew'); rintro e w8 ⟨rfl, hx⟩; have hcur := Ext.step hcur (by first | exact hx | exact Ext.undrew hx | exact Ext.step ((Ext.rfl' _).alloc' _) hx | exact Ext.step ((Ext.rfl' _).drew'.alloc' _) hx)))
  all_goals
    have HC8 := hid hcur
    obtain ⟨s0, s1, s2, -, -, -⟩ := row_facts3 (HR2W.out.ext hcur)
    clear hcur
    go_wp2_with fail
    refine (refvalid_any _ m us ad _ (HV2W.out.ext HC8.out) hb).mono ?_
    rintro e w9 ⟨rfl, hx⟩
    have HC9 := hid (HC8.out.step (by first | exact hx | exact Ext.undrew hx))
    clear s0 s1 s2 hx
    have HC10 := HC9
    go_wp2_with fail
    refine (rKin_yes q c w9 hk.out).mono ?_
    rintro e w11 ⟨v11, rfl, hn11, hx⟩
    obtain ⟨g5, g6, tk, rfl, t1, t2, hg5, hg6, hl5, hl6, ht12⟩ := hn11
    have hx12 : Ext W5 (w11.alloc (.cells #[.int .i64 2, .slice (some ⟨g5, 0, none⟩) tk tk, .slice (some ⟨g6, 0, none⟩) tk tk] 24)) := (HC10.out.step hx).alloc' _
    have hr12 : Row (w11.alloc (.cells #[.int .i64 2, .slice (some ⟨g5, 0, none⟩) tk tk, .slice (some ⟨g6, 0, none⟩) tk tk] 24)) w11.heap.size 24 [.int .i64 2, .slice (some ⟨g5, 0, none⟩) tk tk, .slice (some ⟨g6, 0, none⟩) tk tk] := Row.new w11 _ _
    have t1b := t1.ext ((Ext.rfl' w11).alloc' (.cells #[.int .i64 2, .slice (some ⟨g5, 0, none⟩) tk tk, .slice (some ⟨g6, 0, none⟩) tk tk] 24))
    have t2b := t2.ext ((Ext.rfl' w11).alloc' (.cells #[.int .i64 2, .slice (some ⟨g5, 0, none⟩) tk tk, .slice (some ⟨g6, 0, none⟩) tk tk] 24))
    obtain ⟨W12, hW12⟩ : ∃ W12, (w11.alloc (.cells #[.int .i64 2, .slice (some ⟨g5, 0, none⟩) tk tk, .slice (some ⟨g6, 0, none⟩) tk tk] 24)) = W12 := ⟨_, rfl⟩
    rw [hW12] at hx12 hr12 t1b t2b
    have HW12 := hid hW12
    have HX12 := hid hx12
    have HT1 := hid t1b
    have HT2 := hid t2b
    have HTB := hid hr12
    have HTL := hid (And.intro hl5 (And.intro hl6 ht12))
    have HSZ : Hid (w3.heap.size ≤ w4.heap.size ∧ w4.heap.size < W5.heap.size ∧ W5.heap.size ≤ w9.heap.size ∧ w9.heap.size ≤ w11.heap.size ∧ w11.heap.size < W12.heap.size ∧ w9.heap.size ≤ g5 ∧ w9.heap.size ≤ g6) := hid ⟨HX4.out.size, by have := HB5.out.lt; exact this, HC10.out.size, hx.size, by have := hr12.lt; exact this, hg5, hg6⟩
    clear hx hx12 hr12 t1 t2 t1b t2b hW12 hg5 hg6 hl5 hl6 ht12
    obtain ⟨s0, s1, s2, -, -, -⟩ := row_facts3 (HB5.out.ext HX12.out)
    obtain ⟨u0, u1, u2, -, -, -⟩ := row_facts3 HTB.out
    have HKM : Hid (∀ W', Ext W12 W' → MapV W' (.agg #[.int .i64 2, .slice (some ⟨g3, 0, none⟩) kk kk, .slice (some ⟨g4, 0, none⟩) kk kk]) 2 [1, q] [0, c]) := hid (fun W' e => MapV.fresh (HK1.out.ext (HX12.out.step e)) (HK2.out.ext (HX12.out.step e)) HK12.out.1 HK12.out.2.1 HK12.out.2.2)
    have HTM : Hid (MapV W12 (.agg #[.int .i64 2, .slice (some ⟨g5, 0, none⟩) tk tk, .slice (some ⟨g6, 0, none⟩) tk tk]) 2 [1, q] [0, c]) := hid (MapV.fresh HT1.out HT2.out HTL.out.1 HTL.out.2.1 HTL.out.2.2)
    go_upto_region 12 with fail
    rw [HW12.out]
    go_wp2_with fail
    refine (rsame_eq _ _ 2 [1, q] [0, c] W12 (HKM.out _ (Ext.rfl' _)) HTM.out).mono ?_
    rintro e w13 ⟨rfl, hx⟩
    have HX13 := hid hx
    clear s0 s1 s2 u0 u1 u2 hx
    obtain ⟨s0, s1, s2, -, -, -⟩ := row_facts3 (HB5.out.ext (HX12.out.step HX13.out))
    go_wp2_with fail
    refine (stepvalid_any _ 2 [1, q] [0, c] w13 (HKM.out _ HX13.out) (hid ((mapB_iff _ _ _).2 (kin_map hk.out)))).mono ?_
    rintro e w14 ⟨rfl, hx⟩
    have HX14 := hid (HX12.out.step (HX13.out.step hx))
    have HE14 := hid (HX13.out.step hx)
    clear s0 s1 s2 hx
    obtain ⟨s0, s1, s2, -, -, -⟩ := row_facts3 (HB5.out.ext HX14.out)
    have hk14 := HK1.out.ext HX14.out
    have hc1 : w14.cell? ⟨g3, 0, none⟩ = some (.int .i64 1) := hk14.cell 0
    have hc1f := hk14.free 0
    have hkl : kk = 2 := HK12.out.1.symm
    have HG := HG3.out
    have HZ := HSZ.out
    have rB : Row (w14.setCell ⟨g3, 0, none⟩ (.int .i64 5)) w4.heap.size 24 [.int .i64 2, .slice (some ⟨g3, 0, none⟩) kk kk, .slice (some ⟨g4, 0, none⟩) kk kk] := (HB5.out.ext HX14.out).far (by show w4.heap.size ≠ g3; omega) _
    have rT1 : Row (w14.setCell ⟨g3, 0, none⟩ (.int .i64 5)) g5 3 (Is [1, q]) := (HT1.out.ext HE14.out).far (by show g5 ≠ g3; omega) _
    have rT2 : Row (w14.setCell ⟨g3, 0, none⟩ (.int .i64 5)) g6 3 (Is [0, c]) := (HT2.out.ext HE14.out).far (by show g6 ≠ g3; omega) _
    have rTB : Row (w14.setCell ⟨g3, 0, none⟩ (.int .i64 5)) w11.heap.size 24 [.int .i64 2, .slice (some ⟨g5, 0, none⟩) tk tk, .slice (some ⟨g6, 0, none⟩) tk tk] := (HTB.out.ext HE14.out).far (by show w11.heap.size ≠ g3; omega) _
    have eX : Ext w3 (w14.setCell ⟨g3, 0, none⟩ (.int .i64 5)) := (HX4.out.step (HS5.out.step HX14.out)).set' (by show w3.heap.size ≤ g3; exact HG.1) _
    obtain ⟨W14, hW14⟩ : ∃ W14, (w14.setCell ⟨g3, 0, none⟩ (.int .i64 5)) = W14 := ⟨_, rfl⟩
    rw [hW14] at rB rT1 rT2 rTB eX
    have HW14 := hid hW14
    have RB := hid rB
    have RT1 := hid rT1
    have RT2 := hid rT2
    have RTB := hid rTB
    have EX14 := hid eX
    clear rB rT1 rT2 rTB eX hW14 hk14 HG HZ
    subst hkl
    go_upto_region 17 with fail
    rw [HW14.out]
    clear s0 s1 s2 hc1 hc1f
    go_wp2_with fail
    refine (stepKin_ok q c W14 (by rw [beq_eq_false_iff_ne]; exact fun e => hk.out.1 ((tmod2 q).1 e)) (by rw [beq_eq_false_iff_ne]; exact fun e => hk.out.2.1 ((tmod2 c).1 e)) hk.out.2.2.1 hk.out.2.2.2.1 hk.out.2.2.2.2.1 hk.out.2.2.2.2.2).mono ?_
    rintro e w15 ⟨v15, rfl, hn15, hx⟩
    obtain ⟨g7, g8, nk, rfl, n1, n2r, hg7, hg8, hl7, hl8, hn12⟩ := hn15
    have hb15 := RB.out.ext hx
    have hlt15 := RB.out.lt
    have hltT := RTB.out.lt
    have HG5 := RT1.out.lt
    have HG6 := RT2.out.lt
    have HZ := HSZ.out
    have q1 : Row (((w15.setCell ⟨w4.heap.size, 0, none⟩ (.int .i64 2)).setCell ⟨w4.heap.size, 1, none⟩ (.slice (some ⟨g7, 0, none⟩) nk nk)).setCell ⟨w4.heap.size, 2, none⟩ (.slice (some ⟨g8, 0, none⟩) nk nk)) g7 3 (Is [1, q]) := n1.set3 (by omega)
    have q2 : Row (((w15.setCell ⟨w4.heap.size, 0, none⟩ (.int .i64 2)).setCell ⟨w4.heap.size, 1, none⟩ (.slice (some ⟨g7, 0, none⟩) nk nk)).setCell ⟨w4.heap.size, 2, none⟩ (.slice (some ⟨g8, 0, none⟩) nk nk)) g8 3 (Is [0, c]) := n2r.set3 (by omega)
    have qB : Row (((w15.setCell ⟨w4.heap.size, 0, none⟩ (.int .i64 2)).setCell ⟨w4.heap.size, 1, none⟩ (.slice (some ⟨g7, 0, none⟩) nk nk)).setCell ⟨w4.heap.size, 2, none⟩ (.slice (some ⟨g8, 0, none⟩) nk nk)) w4.heap.size 24 [.int .i64 2, .slice (some ⟨g7, 0, none⟩) nk nk, .slice (some ⟨g8, 0, none⟩) nk nk] := hb15.put3
    have qT1 : Row (((w15.setCell ⟨w4.heap.size, 0, none⟩ (.int .i64 2)).setCell ⟨w4.heap.size, 1, none⟩ (.slice (some ⟨g7, 0, none⟩) nk nk)).setCell ⟨w4.heap.size, 2, none⟩ (.slice (some ⟨g8, 0, none⟩) nk nk)) g5 3 (Is [1, q]) := (RT1.out.ext hx).set3 (by omega)
    have qT2 : Row (((w15.setCell ⟨w4.heap.size, 0, none⟩ (.int .i64 2)).setCell ⟨w4.heap.size, 1, none⟩ (.slice (some ⟨g7, 0, none⟩) nk nk)).setCell ⟨w4.heap.size, 2, none⟩ (.slice (some ⟨g8, 0, none⟩) nk nk)) g6 3 (Is [0, c]) := (RT2.out.ext hx).set3 (by omega)
    have qTB : Row (((w15.setCell ⟨w4.heap.size, 0, none⟩ (.int .i64 2)).setCell ⟨w4.heap.size, 1, none⟩ (.slice (some ⟨g7, 0, none⟩) nk nk)).setCell ⟨w4.heap.size, 2, none⟩ (.slice (some ⟨g8, 0, none⟩) nk nk)) w11.heap.size 24 [.int .i64 2, .slice (some ⟨g5, 0, none⟩) tk tk, .slice (some ⟨g6, 0, none⟩) tk tk] := (RTB.out.ext hx).set3 (by omega)
    have eX16 : Ext w3 (((w15.setCell ⟨w4.heap.size, 0, none⟩ (.int .i64 2)).setCell ⟨w4.heap.size, 1, none⟩ (.slice (some ⟨g7, 0, none⟩) nk nk)).setCell ⟨w4.heap.size, 2, none⟩ (.slice (some ⟨g8, 0, none⟩) nk nk)) := (EX14.out.step hx).set3 (by omega)
    obtain ⟨W16, hW16⟩ : ∃ W16, (((w15.setCell ⟨w4.heap.size, 0, none⟩ (.int .i64 2)).setCell ⟨w4.heap.size, 1, none⟩ (.slice (some ⟨g7, 0, none⟩) nk nk)).setCell ⟨w4.heap.size, 2, none⟩ (.slice (some ⟨g8, 0, none⟩) nk nk)) = W16 := ⟨_, rfl⟩
    rw [hW16] at q1 q2 qB qT1 qT2 qTB eX16
    have HW16 := hid hW16
    have Q1 := hid q1
    have Q2 := hid q2
    have QB := hid qB
    have QT1 := hid qT1
    have QT2 := hid qT2
    have QTB := hid qTB
    have EX16 := hid eX16
    have HNL := hid (And.intro hl7 (And.intro hl8 hn12))
    obtain ⟨z0, z1, z2, z3, z4, z5⟩ := row_facts3 hb15
    clear q1 q2 qB qT1 qT2 qTB eX16 hW16 hx n1 n2r hg7 hg8 hl7 hl8 hn12 hb15 hlt15 hltT HG5 HG6 HZ
    go_upto_region 18 with fail
    rw [HW16.out]
    clear z0 z1 z2 z3 z4 z5
    go_wp2_with fail
    refine (stepCollatz_any W16).mono ?_
    rintro e w17 ⟨v17, rfl, hn17, hx⟩
    obtain ⟨g9, gx, dk, rfl, d1, d2, hg9, hgx, hl9, hlx, hd12⟩ := hn17
    have hx18 : Ext W16 (w17.alloc (.cells #[.int .i64 2, .slice (some ⟨g9, 0, none⟩) dk dk, .slice (some ⟨gx, 0, none⟩) dk dk] 24)) := hx.alloc' _
    have hr18 : Row (w17.alloc (.cells #[.int .i64 2, .slice (some ⟨g9, 0, none⟩) dk dk, .slice (some ⟨gx, 0, none⟩) dk dk] 24)) w17.heap.size 24 [.int .i64 2, .slice (some ⟨g9, 0, none⟩) dk dk, .slice (some ⟨gx, 0, none⟩) dk dk] := Row.new w17 _ _
    have d1b := d1.ext ((Ext.rfl' w17).alloc' (.cells #[.int .i64 2, .slice (some ⟨g9, 0, none⟩) dk dk, .slice (some ⟨gx, 0, none⟩) dk dk] 24))
    have d2b := d2.ext ((Ext.rfl' w17).alloc' (.cells #[.int .i64 2, .slice (some ⟨g9, 0, none⟩) dk dk, .slice (some ⟨gx, 0, none⟩) dk dk] 24))
    obtain ⟨W18, hW18⟩ : ∃ W18, (w17.alloc (.cells #[.int .i64 2, .slice (some ⟨g9, 0, none⟩) dk dk, .slice (some ⟨gx, 0, none⟩) dk dk] 24)) = W18 := ⟨_, rfl⟩
    rw [hW18] at hx18 hr18 d1b d2b
    have HW18 := hid hW18
    have HX18 := hid hx18
    have HR18 := hid hr18
    have D1 := hid d1b
    have D2 := hid d2b
    have HDL := hid (And.intro hl9 (And.intro hlx hd12))
    have HG9 := hid (show w3.heap.size ≤ g9 by have := EX16.out.size; omega)
    clear hx hx18 hr18 d1 d2 d1b d2b hW18 hl9 hlx hd12 hg9 hgx
    have HS19 : Hid (∀ W', Ext W18 W' → W'.cell? ⟨w4.heap.size, 0, none⟩ = some (.int .i64 2) ∧ W'.cell? ⟨w4.heap.size, 1, none⟩ = some (.slice (some ⟨g7, 0, none⟩) nk nk) ∧ W'.cell? ⟨w4.heap.size, 2, none⟩ = some (.slice (some ⟨g8, 0, none⟩) nk nk) ∧ W'.cell? ⟨w11.heap.size, 0, none⟩ = some (.int .i64 2) ∧ W'.cell? ⟨w11.heap.size, 1, none⟩ = some (.slice (some ⟨g5, 0, none⟩) tk tk) ∧ W'.cell? ⟨w11.heap.size, 2, none⟩ = some (.slice (some ⟨g6, 0, none⟩) tk tk) ∧ W'.cell? ⟨w17.heap.size, 0, none⟩ = some (.int .i64 2) ∧ W'.cell? ⟨w17.heap.size, 1, none⟩ = some (.slice (some ⟨g9, 0, none⟩) dk dk) ∧ W'.cell? ⟨w17.heap.size, 2, none⟩ = some (.slice (some ⟨gx, 0, none⟩) dk dk)) := hid (by
      intro W' e
      obtain ⟨p0, p1, p2, -, -, -⟩ := row_facts3 (QB.out.ext (HX18.out.step e))
      obtain ⟨s0, s1, s2, -, -, -⟩ := row_facts3 (QTB.out.ext (HX18.out.step e))
      obtain ⟨t0, t1, t2, -, -, -⟩ := row_facts3 (HR18.out.ext e)
      exact ⟨p0, p1, p2, s0, s1, s2, t0, t1, t2⟩)
    have HKN : Hid (∀ W', Ext W18 W' → MapV W' (.agg #[.int .i64 2, .slice (some ⟨g7, 0, none⟩) nk nk, .slice (some ⟨g8, 0, none⟩) nk nk]) 2 [1, q] [0, c]) := hid (fun W' e => MapV.fresh (Q1.out.ext (HX18.out.step e)) (Q2.out.ext (HX18.out.step e)) HNL.out.1 HNL.out.2.1 HNL.out.2.2)
    have HTN : Hid (∀ W', Ext W18 W' → MapV W' (.agg #[.int .i64 2, .slice (some ⟨g5, 0, none⟩) tk tk, .slice (some ⟨g6, 0, none⟩) tk tk]) 2 [1, q] [0, c]) := hid (fun W' e => MapV.fresh (QT1.out.ext (HX18.out.step e)) (QT2.out.ext (HX18.out.step e)) HTL.out.1 HTL.out.2.1 HTL.out.2.2)
    have HDN : Hid (∀ W', Ext W18 W' → MapV W' (.agg #[.int .i64 2, .slice (some ⟨g9, 0, none⟩) dk dk, .slice (some ⟨gx, 0, none⟩) dk dk]) 2 [1, 3] [0, 1]) := hid (fun W' e => MapV.fresh (D1.out.ext e) (D2.out.ext e) HDL.out.1 HDL.out.2.1 HDL.out.2.2)
    have hcur : Ext W18 W18 := Ext.rfl' _
    go_upto_region 19 with fail
    rw [HW18.out]
    go_region_held3 (fun W' => W'.cell? ⟨w4.heap.size, 0, none⟩ = some (.int .i64 2) ∧ W'.cell? ⟨w4.heap.size, 1, none⟩ = some (.slice (some ⟨g7, 0, none⟩) nk nk) ∧ W'.cell? ⟨w4.heap.size, 2, none⟩ = some (.slice (some ⟨g8, 0, none⟩) nk nk) ∧ W'.cell? ⟨w11.heap.size, 0, none⟩ = some (.int .i64 2) ∧ W'.cell? ⟨w11.heap.size, 1, none⟩ = some (.slice (some ⟨g5, 0, none⟩) tk tk) ∧ W'.cell? ⟨w11.heap.size, 2, none⟩ = some (.slice (some ⟨g6, 0, none⟩) tk tk) ∧ W'.cell? ⟨w17.heap.size, 0, none⟩ = some (.int .i64 2) ∧ W'.cell? ⟨w17.heap.size, 1, none⟩ = some (.slice (some ⟨g9, 0, none⟩) dk dk) ∧ W'.cell? ⟨w17.heap.size, 2, none⟩ = some (.slice (some ⟨gx, 0, none⟩) dk dk))
      (first | exact HS19.out _ hcur | exact HS19.out _ hcur.drew' | exact HS19.out _ (hcur.alloc' _) | exact HS19.out _ (hcur.drew'.alloc' _) | exact HS19.out _ ((hcur.set' HB2.out.1 _).set' HB2.out.1 _) | go_keep)
      (first
        | (go_at_call_of 9 (Value.agg #[Value.int IntKind.i64 2, Value.slice (some ⟨g7, 0, none⟩) nk nk, Value.slice (some ⟨g8, 0, none⟩) nk nk]); refine (rsame_eq _ _ 2 [1, q] [0, c] _ (HKN.out _ ?_) (HTN.out _ ?_)).mono ?_; (first | exact hcur | exact hcur.drew' | exact hcur.alloc' _ | exact hcur.drew'.alloc' _ | exact (hcur.alloc' _).drew'); (first | exact hcur | exact hcur.drew' | exact hcur.alloc' _ | exact hcur.drew'.alloc' _ | exact (hcur.alloc' _).drew'); rintro e w19 ⟨rfl, hx⟩; have hcur := Ext.step hcur (by first | exact hx | exact Ext.undrew hx | exact Ext.step ((Ext.rfl' _).alloc' _) hx | exact Ext.step ((Ext.rfl' _).drew'.alloc' _) hx))
        | (go_at_call 14; refine (refCollatz_any _).mono ?_; rintro e w20 ⟨v20, rfl, hn20, hx⟩; have hcur := Ext.step hcur (by first | exact hx | exact Ext.undrew hx | exact Ext.step ((Ext.rfl' _).alloc' _) hx | exact Ext.step ((Ext.rfl' _).drew'.alloc' _) hx); have HCM := hid hn20.mapV; obtain ⟨c1, c2, c3, rfl, -⟩ := hn20)
        | (go_at_call 9; refine (rsame_eq _ _ 2 [1, 3] [0, 1] _ (HDN.out _ ?_) (HCM.out.ext ?_)).mono ?_; (first | exact hcur | exact hcur.drew' | exact hcur.alloc' _ | exact hcur.drew'.alloc' _ | exact (hcur.alloc' _).drew'); (first | exact Ext.rfl' _ | exact (Ext.rfl' _).drew' | exact (Ext.rfl' _).alloc' _ | exact (Ext.rfl' _).drew'.alloc' _); rintro e w21 ⟨rfl, hx⟩; have hcur := Ext.step hcur (by first | exact hx | exact Ext.undrew hx | exact Ext.step ((Ext.rfl' _).alloc' _) hx | exact Ext.step ((Ext.rfl' _).drew'.alloc' _) hx)))
    all_goals
      have HD21 := hid (D1.out.ext hcur)
      have HB21 := hid (HR18.out.ext hcur)
      have HE21 := hid (EX16.out.step (HX18.out.step hcur))
      clear hcur
      obtain ⟨t0, t1, t2, -, -, -⟩ := row_facts3 HB21.out
      have hd0 : World.cell? _ ⟨g9, 0, none⟩ = some (.int .i64 1) := HD21.out.cell 0
      have hd1 := HD21.out.free 0
      have hdk : dk = 2 := HDL.out.1.symm
      subst hdk
      have HE22 := hid (HE21.out.set' (p := ⟨g9, 0, none⟩) (by show w3.heap.size ≤ g9; exact HG9.out) (.int .i64 5))
      have HY22 := hid (HX2.out.step (HX3.out.step HE22.out))
      go_wp2_with fail
      refine (awake2_any _ (HTT.out.ext HY22.out)).mono ?_
      rintro e wL ⟨rfl, hxL⟩
      have HL := hid (HX.out.step (HY22.out.step hxL))
      go_wp2
      go_ret
      exact ⟨rfl, HL.out⟩
set_option maxRecDepth 100000 in
set_option maxHeartbeats 6400000 in
theorem maps_ff (v : Value) (m : Int) (us ad : List Int) (q c : Int) (w : World) (hv : MapV w v m us ad) (h8 : Fit8 v) (ht : Tab w) (hb : Hid (mapB m us ad = false)) (hk : Hid (¬ kinP q c)) :
    Calls Tryd.prog 3 #[v, .int .i64 q, .int .i64 c] w (TruePost w) := by
  have HT := hid ht
  have HV := hid hv
  have H8 := hid h8
  obtain ⟨A, n, cc, B, n2, d, rfl, -⟩ := hv
  have hx : Ext w (w.alloc (.cells #[.int .i64 m, .slice A n cc, .slice B n2 d] 24)) := (Ext.rfl' w).alloc' _
  have hr : Row (w.alloc (.cells #[.int .i64 m, .slice A n cc, .slice B n2 d] 24)) w.heap.size 24 [.int .i64 m, .slice A n cc, .slice B n2 d] := Row.new w _ _
  obtain ⟨W1, hW1⟩ : ∃ W1, (w.alloc (.cells #[.int .i64 m, .slice A n cc, .slice B n2 d] 24)) = W1 := ⟨_, rfl⟩
  rw [hW1] at hx hr
  have HX := hid hx
  have HR := hid hr
  have HW1 := hid hW1
  obtain ⟨f0, f1, f2, -, -, -⟩ := row_facts3 hr
  have HTT : Hid (Tab W1) := hid (ht.ext hx)
  have HV1 := hid (HV.out.ext hx)
  clear hW1 hx hr h8
  go_enter Tryd.func3, Tryd.ntmps3
  go_upto_region 1 with fail
  rw [HW1.out]
  go_wp2_with fail
  refine (twin_any _ m us ad W1 HV1.out H8.out).mono ?_
  rintro e w2 ⟨v2, rfl, hv2, hx2⟩
  have hv2b := hv2
  obtain ⟨A2, l2, e2, B2, p2, g2, rfl, -⟩ := hv2
  have hx2b : Ext W1 (w2.alloc (.cells #[.int .i64 m, .slice A2 l2 e2, .slice B2 p2 g2] 24)) := hx2.alloc' _
  have hr2 : Row (w2.alloc (.cells #[.int .i64 m, .slice A2 l2 e2, .slice B2 p2 g2] 24)) w2.heap.size 24 [.int .i64 m, .slice A2 l2 e2, .slice B2 p2 g2] := Row.new w2 _ _
  have hv2c := hv2b.ext ((Ext.rfl' w2).alloc' (.cells #[.int .i64 m, .slice A2 l2 e2, .slice B2 p2 g2] 24))
  obtain ⟨W2, hW2⟩ : ∃ W2, (w2.alloc (.cells #[.int .i64 m, .slice A2 l2 e2, .slice B2 p2 g2] 24)) = W2 := ⟨_, rfl⟩
  rw [hW2] at hx2b hr2 hv2c
  have HX2 := hid hx2b
  have HR2 := hid hr2
  have HV2 := hid hv2c
  have HW2 := hid hW2
  clear f0 f1 f2 hx2 hx2b hr2 hv2b hv2c hW2
  obtain ⟨f0, f1, f2, -, -, -⟩ := row_facts3 (HR.out.ext HX2.out)
  go_upto_region 2 with fail
  rw [HW2.out]
  go_wp2_with fail
  refine (regular_bad _ m us ad W2 (HV1.out.ext HX2.out) hb).mono ?_
  rintro e w3 ⟨rfl, hx3⟩
  skip
  have HX3 := hid hx3
  clear f0 f1 f2 hx3
  go_wp2_with fail
  refine (stepKin_bad q c w3 hk.out).mono ?_
  rintro e w4 ⟨rfl, hx4⟩
  have hx5 : Ext w4 (w4.alloc (.cells #[.int .i64 0, .slice none 0 0, .slice none 0 0] 24)) := (Ext.rfl' w4).alloc' _
  have hr5 : Row (w4.alloc (.cells #[.int .i64 0, .slice none 0 0, .slice none 0 0] 24)) w4.heap.size 24 [.int .i64 0, .slice none 0 0, .slice none 0 0] := Row.new w4 _ _
  obtain ⟨W5, hW5⟩ : ∃ W5, (w4.alloc (.cells #[.int .i64 0, .slice none 0 0, .slice none 0 0] 24)) = W5 := ⟨_, rfl⟩
  rw [hW5] at hx5 hr5 
  have HW5 := hid hW5
  have HX5 := hid (HX3.out.step (hx4.step hx5))
  have HB5 := hid hr5
  have HX4 := hid hx4
  have HS5 := hid hx5
  clear hx4 hx5 hr5 hW5
  have HRW := hid (HR.out.ext (HX2.out.step HX5.out))
  have HR2W := hid (HR2.out.ext HX5.out)
  have HVW := hid (HV1.out.ext (HX2.out.step HX5.out))
  have HV2W := hid (HV2.out.ext HX5.out)
  have HS : Hid (∀ W', Ext W5 W' → W'.cell? ⟨w.heap.size, 0, none⟩ = some (.int .i64 m) ∧ W'.cell? ⟨w.heap.size, 1, none⟩ = some (.slice A n cc) ∧ W'.cell? ⟨w.heap.size, 2, none⟩ = some (.slice B n2 d) ∧ W'.cell? ⟨w2.heap.size, 0, none⟩ = some (.int .i64 m) ∧ W'.cell? ⟨w2.heap.size, 1, none⟩ = some (.slice A2 l2 e2) ∧ W'.cell? ⟨w2.heap.size, 2, none⟩ = some (.slice B2 p2 g2)) := hid (by
    intro W' e
    obtain ⟨p0, p1, p2, -, -, -⟩ := row_facts3 (HRW.out.ext e)
    obtain ⟨s0, s1, s2, -, -, -⟩ := row_facts3 (HR2W.out.ext e)
    exact ⟨p0, p1, p2, s0, s1, s2⟩)
  have hcur : Ext W5 W5 := Ext.rfl' _
  go_upto_region 4 with fail
  rw [HW5.out]
  go_region_held3 (fun W' => W'.cell? ⟨w.heap.size, 0, none⟩ = some (.int .i64 m) ∧ W'.cell? ⟨w.heap.size, 1, none⟩ = some (.slice A n cc) ∧ W'.cell? ⟨w.heap.size, 2, none⟩ = some (.slice B n2 d) ∧ W'.cell? ⟨w2.heap.size, 0, none⟩ = some (.int .i64 m) ∧ W'.cell? ⟨w2.heap.size, 1, none⟩ = some (.slice A2 l2 e2) ∧ W'.cell? ⟨w2.heap.size, 2, none⟩ = some (.slice B2 p2 g2))
    (first | exact HS.out _ hcur | exact HS.out _ hcur.drew' | exact HS.out _ (hcur.alloc' _) | exact HS.out _ (hcur.drew'.alloc' _) | exact HS.out _ ((hcur.set' HB2.out.1 _).set' HB2.out.1 _) | go_keep)
    (first
      | (go_at_call 7; refine (stepvalid_any _ m us ad _ (HVW.out.ext ?_) hb).mono ?_; (first | exact hcur | exact hcur.drew' | exact hcur.alloc' _ | exact hcur.drew'.alloc' _ | exact (hcur.alloc' _).drew'); rintro e w6 ⟨rfl, hx⟩; have hcur := Ext.step hcur (by first | exact hx | exact Ext.undrew hx | exact Ext.step ((Ext.rfl' _).alloc' _) hx | exact Ext.step ((Ext.rfl' _).drew'.alloc' _) hx))
      | (go_at_call 8; refine (refvalid_any _ m us ad _ (HV2W.out.ext ?_) hb).mono ?_; (first | exact hcur | exact hcur.drew' | exact hcur.alloc' _ | exact hcur.drew'.alloc' _ | exact (hcur.alloc' _).drew'); rintro e w7 ⟨rfl, hx⟩; have hcur := Ext.step hcur (by first | exact hx | exact Ext.undrew hx | exact Ext.step ((Ext.rfl' _).alloc' _) hx | exact Ext.step ((Ext.rfl' _).drew'.alloc' _) hx))
      | (go_at_call 9; refine (rsame_eq _ _ m us ad _ (HVW.out.ext ?_) (HV2W.out.ext ?_)).mono ?_; (first | exact hcur | exact hcur.drew' | exact hcur.alloc' _ | exact hcur.drew'.alloc' _ | exact (hcur.alloc' _).drew'); (first | exact hcur | exact hcur.drew' | exact hcur.alloc' _ | exact hcur.drew'.alloc' _ | exact (hcur.alloc' _).drew'); rintro e w8 ⟨rfl, hx⟩; have hcur := Ext.step hcur (by first | exact hx | exact Ext.undrew hx | exact Ext.step ((Ext.rfl' _).alloc' _) hx | exact Ext.step ((Ext.rfl' _).drew'.alloc' _) hx)))
  all_goals
    have HC8 := hid hcur
    obtain ⟨s0, s1, s2, -, -, -⟩ := row_facts3 (HR2W.out.ext hcur)
    clear hcur
    go_wp2_with fail
    refine (refvalid_any _ m us ad _ (HV2W.out.ext HC8.out) hb).mono ?_
    rintro e w9 ⟨rfl, hx⟩
    have HC9 := hid (HC8.out.step (by first | exact hx | exact Ext.undrew hx))
    clear s0 s1 s2 hx
    have HC10 := HC9
    go_wp2_with fail
    refine (rKin_no q c w9 hk.out).mono ?_
    rintro e w11 ⟨rfl, hx⟩
    have hx12 : Ext W5 (w11.alloc (.cells #[.int .i64 0, .slice none 0 0, .slice none 0 0] 24)) := (HC10.out.step hx).alloc' _
    obtain ⟨W12, hW12⟩ : ∃ W12, (w11.alloc (.cells #[.int .i64 0, .slice none 0 0, .slice none 0 0] 24)) = W12 := ⟨_, rfl⟩
    rw [hW12] at hx12
    have HW12 := hid hW12
    have HX12 := hid hx12
    clear hx hx12 hW12
    obtain ⟨s0, s1, s2, -, -, -⟩ := row_facts3 (HB5.out.ext HX12.out)
    go_upto_region 12 with fail
    rw [HW12.out]
    go_wp2_with fail
    refine (rsame_eq _ _ 0 [] [] W12 (MapV.zero _) (MapV.zero _)).mono ?_
    rintro e w13 ⟨rfl, hx⟩
    have HY13 := hid (HX2.out.step (HX5.out.step (HX12.out.step hx)))
    clear s0 s1 s2 hx
    go_wp2_with fail
    refine (awake2_any w13 (HTT.out.ext HY13.out)).mono ?_
    rintro e wL ⟨rfl, hxL⟩
    have HL := hid (HX.out.step (HY13.out.step hxL))
    go_wp2
    go_ret
    exact ⟨rfl, HL.out⟩
theorem law_StepMaps (v : Value) (m : Int) (us ad : List Int) (q c : Int) (w : World) (hv : MapV w v m us ad) (h8 : Fit8 v) (ht : Tab w) :
    Calls Tryd.prog 3 #[v, .int .i64 q, .int .i64 c] w (TruePost w) := by
  cases hb : mapB m us ad with
  | true =>
    by_cases hk : kinP q c
    · exact maps_tt v m us ad q c w hv h8 ht (hid hb) (hid hk)
    · exact maps_tf v m us ad q c w hv h8 ht (hid hb) (hid hk)
  | false =>
    by_cases hk : kinP q c
    · exact maps_ft v m us ad q c w hv h8 ht (hid hb) (hid hk)
    · exact maps_ff v m us ad q c w hv h8 ht (hid hb) (hid hk)
end Go.Proofs.YtflgkijmbpcnfaaDoor
