/- the law StepRuns -/
import Derived.Test.YtflgkijmbpcnfaaGreatDoorJG13
import Derived.Test.YtflgkijmbpcnfaaGreatDoorJG14
import Derived.Test.YtflgkijmbpcnfaaGreatDoorJG10
set_option linter.unusedSimpArgs false
set_option linter.unusedVariables false
namespace Go.Proofs.YtflgkijmbpcnfaaGreatDoor
open Go.RowKit
theorem told_run {m : Int} {us ad : List Int} {X : Int} {w : World} {e : Ending} {w' : World} (h : ToldPost (stepI m us ad X) w e w') :
    e = .returned (.tuple #[.string (strO (runO m us ad 1 X)), .int .i64 (codeO (runO m us ad 1 X))]) ∧ Ext w w' := by
  refine ⟨?_, h.2.2⟩
  rw [runO_succ]
  by_cases hf : K.fits (stepI m us ad X)
  · rw [if_pos (fitsB_yes hf), h.1 hf]; rfl
  · rw [if_neg (by rw [fitsB_no hf]; simp), h.2.1 hf]; rfl
set_option maxRecDepth 100000 in
set_option maxHeartbeats 800000 in
theorem step_bad (v : Value) (m : Int) (us ad : List Int) (l : List UInt8) (w : World) (hv : MapV w v m us ad) (hlen : l.length ≤ 140737488351232) {b1 b2 : Bool} (hb1 : Hid (mapB m us ad = b1)) (hb2 : Hid (K.validL l = b2)) (hb : Hid (false = (b1 && b2))) :
    Calls Tryz.prog 15 #[v, .string (Str l)] w (fun e w' => e = .returned (.tuple #[.string ⟨#[]⟩, .int .i64 1]) ∧ Ext w w') := by
  have HV := hid hv
  obtain ⟨A, n, cc, B, n2, d, rfl, -⟩ := hv
  have hx : Ext w (w.alloc (.cells #[.int .i64 m, .slice A n cc, .slice B n2 d] 24)) := (Ext.rfl' w).alloc' _
  obtain ⟨f0, f1, f2, -⟩ := three_facts (Ext.rfl' (w.alloc (.cells #[.int .i64 m, .slice A n cc, .slice B n2 d] 24))) rfl
  obtain ⟨W1, hW1⟩ : ∃ W1, w.alloc (.cells #[.int .i64 m, .slice A n cc, .slice B n2 d] 24) = W1 := ⟨_, rfl⟩
  rw [hW1] at hx f0 f1 f2
  have HX := hid hx
  have HW1 := hid hW1
  have hr := run_bad _ m us ad l 1 W1 (HV.out.ext hx) hlen hb1 hb2 (c := 1) (hid (by rw [if_neg (by intro h; have := hb.out; rw [h.1, h.2] at this; cases this)])) rfl
  have HR := hid hr
  clear hW1 hx hr
  go_enter Tryz.func15, Tryz.ntmps15
  go_upto_region 1 with fail
  rw [HW1.out]
  go_wp2_with fail
  refine HR.out.mono ?_
  rintro e w2 ⟨rfl, hx2⟩
  have HY := hid (HX.out.step hx2)
  clear hx2
  go_wp2
  go_ret2
  exact ⟨rfl, HY.out⟩
set_option maxRecDepth 100000 in
set_option maxHeartbeats 3200000 in
theorem runs_form (v : Value) (m : Int) (us ad : List Int) (s : List UInt8) (k : Int) (w : World) (hv : MapV w v m us ad) (h8 : Fit8 v) (ht : Tab w) (hlen : s.length ≤ 140737488351232) (hb : Hid (false = (mapB m us ad && K.validL s))) :
    Calls Tryz.prog 3 #[v, .string (Str s), .int .i64 k] w (TruePost w) := by
  have HT := hid ht
  have HV := hid hv
  have H8 := hid h8
  obtain ⟨A, n, cc, B, n2, d, rfl, -⟩ := hv
  have hx : Ext w (w.alloc (.cells #[.int .i64 m, .slice A n cc, .slice B n2 d] 24)) := (Ext.rfl' w).alloc' _
  have hr : Row (w.alloc (.cells #[.int .i64 m, .slice A n cc, .slice B n2 d] 24)) w.heap.size 24 [.int .i64 m, .slice A n cc, .slice B n2 d] := Row.new w _ _
  obtain ⟨W1, hW1⟩ : ∃ W1, (w.alloc (.cells #[.int .i64 m, .slice A n cc, .slice B n2 d] 24)) = W1 := ⟨_, rfl⟩
  rw [hW1] at hx hr
  have HX := hid hx
  have HR := hid hr
  have HW1 := hid hW1
  obtain ⟨f0, f1, f2, -, -, -⟩ := row_facts3 hr
  have HTT : Hid (Tab W1) := hid (ht.ext hx)
  have HV1 := hid (HV.out.ext hx)
  clear hW1 hx hr h8
  go_enter Tryz.func3, Tryz.ntmps3
  go_upto_region 1 with fail
  rw [HW1.out]
  go_wp2_with fail
  refine (twin_any _ m us ad W1 HV1.out H8.out).mono ?_
  rintro e w2 ⟨v2, rfl, hv2, hx2⟩
  have hv2b := hv2
  obtain ⟨A2, l2, e2, B2, p2, g2, rfl, -⟩ := hv2
  have hx2b : Ext W1 (w2.alloc (.cells #[.int .i64 m, .slice A2 l2 e2, .slice B2 p2 g2] 24)) := hx2.alloc' _
  have hr2 : Row (w2.alloc (.cells #[.int .i64 m, .slice A2 l2 e2, .slice B2 p2 g2] 24)) w2.heap.size 24 [.int .i64 m, .slice A2 l2 e2, .slice B2 p2 g2] := Row.new w2 _ _
  have hv2c := hv2b.ext ((Ext.rfl' w2).alloc' (.cells #[.int .i64 m, .slice A2 l2 e2, .slice B2 p2 g2] 24))
  obtain ⟨W2, hW2⟩ : ∃ W2, (w2.alloc (.cells #[.int .i64 m, .slice A2 l2 e2, .slice B2 p2 g2] 24)) = W2 := ⟨_, rfl⟩
  rw [hW2] at hx2b hr2 hv2c
  have HX2 := hid hx2b
  have HR2 := hid hr2
  have HV2 := hid hv2c
  have HW2 := hid hW2
  have HY2 := HX2
  have HZ2 := hid (Ext.rfl' W2)
  clear f0 f1 f2 hx2 hx2b hr2 hv2b hv2c hW2
  obtain ⟨f0, f1, f2, -, -, -⟩ := row_facts3 (HR.out.ext HX2.out)
  go_upto_region 2 with fail
  rw [HW2.out]
  go_wp2_with fail
  refine (step_bad _ m us ad s W2 (HV1.out.ext HY2.out) hlen (hid rfl) (hid rfl) hb).mono ?_
  rintro e w3 ⟨rfl, hx⟩
  have HY3 := hid (HY2.out.step hx)
  have HZ3 := hid (HZ2.out.step hx)
  clear f0 f1 f2 hx
  obtain ⟨f0, f1, f2, -, -, -⟩ := row_facts3 (HR.out.ext HY3.out)
  go_wp2_with fail
  refine (run_bad _ m us ad s k w3 (HV1.out.ext HY3.out) hlen (hid rfl) (hid rfl) (c := 1) (hid (by rw [if_neg (by intro h; have := hb.out; rw [h.1, h.2] at this; cases this)])) rfl).mono ?_
  rintro e w4 ⟨rfl, hx⟩
  have HY4 := hid (HY3.out.step hx)
  have HZ4 := hid (HZ3.out.step hx)
  clear f0 f1 f2 hx
  obtain ⟨f0, f1, f2, -, -, -⟩ := row_facts3 (HR.out.ext HY4.out)
  obtain ⟨t0, t1, t2, -, -, -⟩ := row_facts3 (HR2.out.ext HZ4.out)
  go_wp2_with fail
  refine (rsame_eq _ _ m us ad w4 (HV1.out.ext HY4.out) (HV2.out.ext HZ4.out)).mono ?_
  rintro e w5 ⟨rfl, hx⟩
  have HY5 := hid (HY4.out.step hx)
  clear f0 f1 f2 t0 t1 t2 hx
  obtain ⟨f0, f1, f2, -, -, -⟩ := row_facts3 (HR.out.ext HY5.out)
  go_wp2_with fail
  refine (formed_any _ m us ad s w5 (HV1.out.ext HY5.out) hlen (hid rfl) (hid rfl) hb).mono ?_
  rintro e w6 ⟨rfl, hx⟩
  have HY6 := hid (HY5.out.step hx)
  clear f0 f1 f2 hx
  have hee : ((⟨#[]⟩ : ByteArray) ++ ⟨#[]⟩).toList = [] := by decide +kernel
  go_wp2_with fail
  refine (awake2_any w6 (HTT.out.ext HY6.out)).mono ?_
  rintro e wL ⟨rfl, hxL⟩
  have HL := hid (HX.out.step (HY6.out.step hxL))
  go_wp2
  go_ret
  exact ⟨rfl, HL.out⟩
set_option maxRecDepth 100000 in
set_option maxHeartbeats 3200000 in
theorem runs_low (v : Value) (m : Int) (us ad : List Int) (s : List UInt8) (k : Int) (w : World) (hv : MapV w v m us ad) (h8 : Fit8 v) (ht : Tab w) (hlen : s.length ≤ 140737488351232) (hb : Hid (true = (mapB m us ad && K.validL s))) (hM : Hid (mapP m us ad)) (hs : Hid (K.validL s = true)) (h1 : k < 0) :
    Calls Tryz.prog 3 #[v, .string (Str s), .int .i64 k] w (TruePost w) := by
  obtain ⟨X, HX0⟩ : ∃ X, Hid (K.numL s = X) := ⟨_, hid rfl⟩
  have HXF : Hid (K.fits X) := hid (by rw [← HX0.out]; exact (K.txt_numL s hs.out).2)
  obtain ⟨s1, hs1⟩ : ∃ s1, strO (runO m us ad 1 X) = s1 := ⟨_, rfl⟩
  obtain ⟨c1, hc1⟩ : ∃ c1, codeO (runO m us ad 1 X) = c1 := ⟨_, rfl⟩
  have HS1 := hid hs1
  have HC1 := hid hc1
  have hss : (s1.toList == s1.toList) = true := by simp
  have hcc : (c1 == c1) = true := by simp
  clear hs1 hc1
  have HT := hid ht
  have HV := hid hv
  have H8 := hid h8
  obtain ⟨A, n, cc, B, n2, d, rfl, -⟩ := hv
  have hx : Ext w (w.alloc (.cells #[.int .i64 m, .slice A n cc, .slice B n2 d] 24)) := (Ext.rfl' w).alloc' _
  have hr : Row (w.alloc (.cells #[.int .i64 m, .slice A n cc, .slice B n2 d] 24)) w.heap.size 24 [.int .i64 m, .slice A n cc, .slice B n2 d] := Row.new w _ _
  obtain ⟨W1, hW1⟩ : ∃ W1, (w.alloc (.cells #[.int .i64 m, .slice A n cc, .slice B n2 d] 24)) = W1 := ⟨_, rfl⟩
  rw [hW1] at hx hr
  have HX := hid hx
  have HR := hid hr
  have HW1 := hid hW1
  obtain ⟨f0, f1, f2, -, -, -⟩ := row_facts3 hr
  have HTT : Hid (Tab W1) := hid (ht.ext hx)
  have HV1 := hid (HV.out.ext hx)
  clear hW1 hx hr h8
  go_enter Tryz.func3, Tryz.ntmps3
  go_upto_region 1 with fail
  rw [HW1.out]
  go_wp2_with fail
  refine (twin_any _ m us ad W1 HV1.out H8.out).mono ?_
  rintro e w2 ⟨v2, rfl, hv2, hx2⟩
  have hv2b := hv2
  obtain ⟨A2, l2, e2, B2, p2, g2, rfl, -⟩ := hv2
  have hx2b : Ext W1 (w2.alloc (.cells #[.int .i64 m, .slice A2 l2 e2, .slice B2 p2 g2] 24)) := hx2.alloc' _
  have hr2 : Row (w2.alloc (.cells #[.int .i64 m, .slice A2 l2 e2, .slice B2 p2 g2] 24)) w2.heap.size 24 [.int .i64 m, .slice A2 l2 e2, .slice B2 p2 g2] := Row.new w2 _ _
  have hv2c := hv2b.ext ((Ext.rfl' w2).alloc' (.cells #[.int .i64 m, .slice A2 l2 e2, .slice B2 p2 g2] 24))
  obtain ⟨W2, hW2⟩ : ∃ W2, (w2.alloc (.cells #[.int .i64 m, .slice A2 l2 e2, .slice B2 p2 g2] 24)) = W2 := ⟨_, rfl⟩
  rw [hW2] at hx2b hr2 hv2c
  have HX2 := hid hx2b
  have HR2 := hid hr2
  have HV2 := hid hv2c
  have HW2 := hid hW2
  have HY2 := HX2
  have HZ2 := hid (Ext.rfl' W2)
  clear f0 f1 f2 hx2 hx2b hr2 hv2b hv2c hW2
  obtain ⟨f0, f1, f2, -, -, -⟩ := row_facts3 (HR.out.ext HX2.out)
  go_upto_region 2 with fail
  rw [HW2.out]
  go_wp2_with fail
  refine (step_ok _ m us ad s W2 (HV1.out.ext HY2.out) hM hs (HTT.out.ext HY2.out)).mono ?_
  rintro e w3 ⟨rfl, hx⟩
  rw [HX0.out, HS1.out, HC1.out]
  have HY3 := hid (HY2.out.step hx)
  have HZ3 := hid (HZ2.out.step hx)
  clear f0 f1 f2 hx
  obtain ⟨f0, f1, f2, -, -, -⟩ := row_facts3 (HR.out.ext HY3.out)
  go_wp2_with fail
  refine (run_bad _ m us ad s k w3 (HV1.out.ext HY3.out) hlen (hid ((mapB_iff m us ad).2 hM.out)) hs (c := 2) (hid (by rw [if_pos ⟨rfl, rfl⟩, if_pos (by first | exact .inl h1 | exact .inr h1)])) rfl).mono ?_
  rintro e w4 ⟨rfl, hx⟩
  have HY4 := hid (HY3.out.step hx)
  have HZ4 := hid (HZ3.out.step hx)
  clear f0 f1 f2 hx
  obtain ⟨f0, f1, f2, -, -, -⟩ := row_facts3 (HR.out.ext HY4.out)
  obtain ⟨t0, t1, t2, -, -, -⟩ := row_facts3 (HR2.out.ext HZ4.out)
  go_wp2_with fail
  refine (rsame_eq _ _ m us ad w4 (HV1.out.ext HY4.out) (HV2.out.ext HZ4.out)).mono ?_
  rintro e w5 ⟨rfl, hx⟩
  have HY5 := hid (HY4.out.step hx)
  clear f0 f1 f2 t0 t1 t2 hx
  obtain ⟨f0, f1, f2, -, -, -⟩ := row_facts3 (HR.out.ext HY5.out)
  go_wp2_with fail
  refine (formed_any _ m us ad s w5 (HV1.out.ext HY5.out) hlen (hid rfl) (hid rfl) hb).mono ?_
  rintro e w6 ⟨rfl, hx⟩
  have HY6 := hid (HY5.out.step hx)
  clear f0 f1 f2 hx
  go_wp2_with fail
  refine (parse_any s w6 hs.out).mono ?_
  rintro e w7 ⟨vp, rfl, hvp, hx⟩
  rw [HX0.out] at hvp
  have hvp2 := hvp
  obtain ⟨AP, kP, cP, xsP, bP, rfl, -⟩ := hvp
  obtain ⟨eP, wP, rP⟩ := box2 (t := 34) hvp2
  obtain ⟨W9, hW9⟩ : ∃ W9, (w7.alloc (.cells #[.bool bP, .slice AP kP cP] 34)) = W9 := ⟨_, rfl⟩
  rw [hW9] at eP wP rP
  have HW9 := hid hW9
  have HVP := hid wP
  have HRP := hid rP
  have HY9 := hid ((HY6.out.step hx).step eP)
  obtain ⟨f0, f1, f2, -, -, -⟩ := row_facts3 (HR.out.ext HY9.out)
  obtain ⟨g0, g1, -, -⟩ := row_facts rP
  clear eP wP rP hW9 hvp2 hx
  go_upto_region 9 with fail
  rw [HW9.out]
  go_wp2_with fail
  refine (step2_fits _ _ m X us ad W9 (HV1.out.ext HY9.out) hM HVP.out HXF).mono ?_
  rintro e w10 ⟨vq, rfl, hvq, hx⟩
  have HY10 := hid (HY9.out.step hx)
  have HP10 := hid hx
  clear f0 f1 f2 g0 g1 hx
  have hvq2 := hvq
  obtain ⟨AQ, kQ, cQ, xsQ, bQ, rfl, -⟩ := hvq
  go_wp2_with fail
  refine (rtold_any _ (stepI m us ad X) w10 hvq2 (stepI_big hM.out HXF.out)).mono ?_
  rintro e w11 htp
  obtain ⟨rfl, hx⟩ := told_run htp
  rw [HS1.out, HC1.out]
  have HY11 := hid (HY10.out.step hx)
  have HP11 := hid (HP10.out.step hx)
  clear hvq2 hx htp
  go_wp2_with fail
  refine (awake2_any w11 (HTT.out.ext HY11.out)).mono ?_
  rintro e wL ⟨rfl, hxL⟩
  have HL := hid (HX.out.step (HY11.out.step hxL))
  go_wp2
  go_ret
  exact ⟨rfl, HL.out⟩
set_option maxRecDepth 100000 in
set_option maxHeartbeats 3200000 in
theorem runs_high (v : Value) (m : Int) (us ad : List Int) (s : List UInt8) (k : Int) (w : World) (hv : MapV w v m us ad) (h8 : Fit8 v) (ht : Tab w) (hlen : s.length ≤ 140737488351232) (hb : Hid (true = (mapB m us ad && K.validL s))) (hM : Hid (mapP m us ad)) (hs : Hid (K.validL s = true)) (h0 : 0 ≤ k) (h1 : 20000 < k) :
    Calls Tryz.prog 3 #[v, .string (Str s), .int .i64 k] w (TruePost w) := by
  obtain ⟨X, HX0⟩ : ∃ X, Hid (K.numL s = X) := ⟨_, hid rfl⟩
  have HXF : Hid (K.fits X) := hid (by rw [← HX0.out]; exact (K.txt_numL s hs.out).2)
  obtain ⟨s1, hs1⟩ : ∃ s1, strO (runO m us ad 1 X) = s1 := ⟨_, rfl⟩
  obtain ⟨c1, hc1⟩ : ∃ c1, codeO (runO m us ad 1 X) = c1 := ⟨_, rfl⟩
  have HS1 := hid hs1
  have HC1 := hid hc1
  have hss : (s1.toList == s1.toList) = true := by simp
  have hcc : (c1 == c1) = true := by simp
  clear hs1 hc1
  have HT := hid ht
  have HV := hid hv
  have H8 := hid h8
  obtain ⟨A, n, cc, B, n2, d, rfl, -⟩ := hv
  have hx : Ext w (w.alloc (.cells #[.int .i64 m, .slice A n cc, .slice B n2 d] 24)) := (Ext.rfl' w).alloc' _
  have hr : Row (w.alloc (.cells #[.int .i64 m, .slice A n cc, .slice B n2 d] 24)) w.heap.size 24 [.int .i64 m, .slice A n cc, .slice B n2 d] := Row.new w _ _
  obtain ⟨W1, hW1⟩ : ∃ W1, (w.alloc (.cells #[.int .i64 m, .slice A n cc, .slice B n2 d] 24)) = W1 := ⟨_, rfl⟩
  rw [hW1] at hx hr
  have HX := hid hx
  have HR := hid hr
  have HW1 := hid hW1
  obtain ⟨f0, f1, f2, -, -, -⟩ := row_facts3 hr
  have HTT : Hid (Tab W1) := hid (ht.ext hx)
  have HV1 := hid (HV.out.ext hx)
  clear hW1 hx hr h8
  go_enter Tryz.func3, Tryz.ntmps3
  go_upto_region 1 with fail
  rw [HW1.out]
  go_wp2_with fail
  refine (twin_any _ m us ad W1 HV1.out H8.out).mono ?_
  rintro e w2 ⟨v2, rfl, hv2, hx2⟩
  have hv2b := hv2
  obtain ⟨A2, l2, e2, B2, p2, g2, rfl, -⟩ := hv2
  have hx2b : Ext W1 (w2.alloc (.cells #[.int .i64 m, .slice A2 l2 e2, .slice B2 p2 g2] 24)) := hx2.alloc' _
  have hr2 : Row (w2.alloc (.cells #[.int .i64 m, .slice A2 l2 e2, .slice B2 p2 g2] 24)) w2.heap.size 24 [.int .i64 m, .slice A2 l2 e2, .slice B2 p2 g2] := Row.new w2 _ _
  have hv2c := hv2b.ext ((Ext.rfl' w2).alloc' (.cells #[.int .i64 m, .slice A2 l2 e2, .slice B2 p2 g2] 24))
  obtain ⟨W2, hW2⟩ : ∃ W2, (w2.alloc (.cells #[.int .i64 m, .slice A2 l2 e2, .slice B2 p2 g2] 24)) = W2 := ⟨_, rfl⟩
  rw [hW2] at hx2b hr2 hv2c
  have HX2 := hid hx2b
  have HR2 := hid hr2
  have HV2 := hid hv2c
  have HW2 := hid hW2
  have HY2 := HX2
  have HZ2 := hid (Ext.rfl' W2)
  clear f0 f1 f2 hx2 hx2b hr2 hv2b hv2c hW2
  obtain ⟨f0, f1, f2, -, -, -⟩ := row_facts3 (HR.out.ext HX2.out)
  go_upto_region 2 with fail
  rw [HW2.out]
  go_wp2_with fail
  refine (step_ok _ m us ad s W2 (HV1.out.ext HY2.out) hM hs (HTT.out.ext HY2.out)).mono ?_
  rintro e w3 ⟨rfl, hx⟩
  rw [HX0.out, HS1.out, HC1.out]
  have HY3 := hid (HY2.out.step hx)
  have HZ3 := hid (HZ2.out.step hx)
  clear f0 f1 f2 hx
  obtain ⟨f0, f1, f2, -, -, -⟩ := row_facts3 (HR.out.ext HY3.out)
  go_wp2_with fail
  refine (run_bad _ m us ad s k w3 (HV1.out.ext HY3.out) hlen (hid ((mapB_iff m us ad).2 hM.out)) hs (c := 2) (hid (by rw [if_pos ⟨rfl, rfl⟩, if_pos (by first | exact .inl h1 | exact .inr h1)])) rfl).mono ?_
  rintro e w4 ⟨rfl, hx⟩
  have HY4 := hid (HY3.out.step hx)
  have HZ4 := hid (HZ3.out.step hx)
  clear f0 f1 f2 hx
  obtain ⟨f0, f1, f2, -, -, -⟩ := row_facts3 (HR.out.ext HY4.out)
  obtain ⟨t0, t1, t2, -, -, -⟩ := row_facts3 (HR2.out.ext HZ4.out)
  go_wp2_with fail
  refine (rsame_eq _ _ m us ad w4 (HV1.out.ext HY4.out) (HV2.out.ext HZ4.out)).mono ?_
  rintro e w5 ⟨rfl, hx⟩
  have HY5 := hid (HY4.out.step hx)
  clear f0 f1 f2 t0 t1 t2 hx
  obtain ⟨f0, f1, f2, -, -, -⟩ := row_facts3 (HR.out.ext HY5.out)
  go_wp2_with fail
  refine (formed_any _ m us ad s w5 (HV1.out.ext HY5.out) hlen (hid rfl) (hid rfl) hb).mono ?_
  rintro e w6 ⟨rfl, hx⟩
  have HY6 := hid (HY5.out.step hx)
  clear f0 f1 f2 hx
  go_wp2_with fail
  refine (parse_any s w6 hs.out).mono ?_
  rintro e w7 ⟨vp, rfl, hvp, hx⟩
  rw [HX0.out] at hvp
  have hvp2 := hvp
  obtain ⟨AP, kP, cP, xsP, bP, rfl, -⟩ := hvp
  obtain ⟨eP, wP, rP⟩ := box2 (t := 34) hvp2
  obtain ⟨W9, hW9⟩ : ∃ W9, (w7.alloc (.cells #[.bool bP, .slice AP kP cP] 34)) = W9 := ⟨_, rfl⟩
  rw [hW9] at eP wP rP
  have HW9 := hid hW9
  have HVP := hid wP
  have HRP := hid rP
  have HY9 := hid ((HY6.out.step hx).step eP)
  obtain ⟨f0, f1, f2, -, -, -⟩ := row_facts3 (HR.out.ext HY9.out)
  obtain ⟨g0, g1, -, -⟩ := row_facts rP
  clear eP wP rP hW9 hvp2 hx
  go_upto_region 9 with fail
  rw [HW9.out]
  go_wp2_with fail
  refine (step2_fits _ _ m X us ad W9 (HV1.out.ext HY9.out) hM HVP.out HXF).mono ?_
  rintro e w10 ⟨vq, rfl, hvq, hx⟩
  have HY10 := hid (HY9.out.step hx)
  have HP10 := hid hx
  clear f0 f1 f2 g0 g1 hx
  have hvq2 := hvq
  obtain ⟨AQ, kQ, cQ, xsQ, bQ, rfl, -⟩ := hvq
  go_wp2_with fail
  refine (rtold_any _ (stepI m us ad X) w10 hvq2 (stepI_big hM.out HXF.out)).mono ?_
  rintro e w11 htp
  obtain ⟨rfl, hx⟩ := told_run htp
  rw [HS1.out, HC1.out]
  have HY11 := hid (HY10.out.step hx)
  have HP11 := hid (HP10.out.step hx)
  clear hvq2 hx htp
  go_wp2_with fail
  refine (awake2_any w11 (HTT.out.ext HY11.out)).mono ?_
  rintro e wL ⟨rfl, hxL⟩
  have HL := hid (HX.out.step (HY11.out.step hxL))
  go_wp2
  go_ret
  exact ⟨rfl, HL.out⟩
set_option maxRecDepth 100000 in
set_option maxHeartbeats 6400000 in
theorem runs_in (v : Value) (m : Int) (us ad : List Int) (s : List UInt8) (k : Nat) (w : World) (hv : MapV w v m us ad) (h8 : Fit8 v) (ht : Tab w) (hlen : s.length ≤ 140737488351232) (hb : Hid (true = (mapB m us ad && K.validL s))) (hM : Hid (mapP m us ad)) (hs : Hid (K.validL s = true)) (hk : k ≤ 20000) :
    Calls Tryz.prog 3 #[v, .string (Str s), .int .i64 (k : Int)] w (TruePost w) := by
  obtain ⟨X, HX0⟩ : ∃ X, Hid (K.numL s = X) := ⟨_, hid rfl⟩
  have HXF : Hid (K.fits X) := hid (by rw [← HX0.out]; exact (K.txt_numL s hs.out).2)
  obtain ⟨s1, hs1⟩ : ∃ s1, strO (runO m us ad 1 X) = s1 := ⟨_, rfl⟩
  obtain ⟨c1, hc1⟩ : ∃ c1, codeO (runO m us ad 1 X) = c1 := ⟨_, rfl⟩
  have HS1 := hid hs1
  have HC1 := hid hc1
  have hss : (s1.toList == s1.toList) = true := by simp
  have hcc : (c1 == c1) = true := by simp
  clear hs1 hc1
  have q0 : (0 : Int) ≤ (k : Int) := by omega
  have q1 : (k : Int) ≤ 20000 := by omega
  obtain ⟨s2, hs2⟩ : ∃ s2, strO (runO m us ad k X) = s2 := ⟨_, rfl⟩
  obtain ⟨c2, hc2⟩ : ∃ c2, codeO (runO m us ad k X) = c2 := ⟨_, rfl⟩
  have HS2 := hid hs2
  have HC2 := hid hc2
  clear hs2 hc2
  have HT := hid ht
  have HV := hid hv
  have H8 := hid h8
  obtain ⟨A, n, cc, B, n2, d, rfl, -⟩ := hv
  have hx : Ext w (w.alloc (.cells #[.int .i64 m, .slice A n cc, .slice B n2 d] 24)) := (Ext.rfl' w).alloc' _
  have hr : Row (w.alloc (.cells #[.int .i64 m, .slice A n cc, .slice B n2 d] 24)) w.heap.size 24 [.int .i64 m, .slice A n cc, .slice B n2 d] := Row.new w _ _
  obtain ⟨W1, hW1⟩ : ∃ W1, (w.alloc (.cells #[.int .i64 m, .slice A n cc, .slice B n2 d] 24)) = W1 := ⟨_, rfl⟩
  rw [hW1] at hx hr
  have HX := hid hx
  have HR := hid hr
  have HW1 := hid hW1
  obtain ⟨f0, f1, f2, -, -, -⟩ := row_facts3 hr
  have HTT : Hid (Tab W1) := hid (ht.ext hx)
  have HV1 := hid (HV.out.ext hx)
  clear hW1 hx hr h8
  go_enter Tryz.func3, Tryz.ntmps3
  go_upto_region 1 with fail
  rw [HW1.out]
  go_wp2_with fail
  refine (twin_any _ m us ad W1 HV1.out H8.out).mono ?_
  rintro e w2 ⟨v2, rfl, hv2, hx2⟩
  have hv2b := hv2
  obtain ⟨A2, l2, e2, B2, p2, g2, rfl, -⟩ := hv2
  have hx2b : Ext W1 (w2.alloc (.cells #[.int .i64 m, .slice A2 l2 e2, .slice B2 p2 g2] 24)) := hx2.alloc' _
  have hr2 : Row (w2.alloc (.cells #[.int .i64 m, .slice A2 l2 e2, .slice B2 p2 g2] 24)) w2.heap.size 24 [.int .i64 m, .slice A2 l2 e2, .slice B2 p2 g2] := Row.new w2 _ _
  have hv2c := hv2b.ext ((Ext.rfl' w2).alloc' (.cells #[.int .i64 m, .slice A2 l2 e2, .slice B2 p2 g2] 24))
  obtain ⟨W2, hW2⟩ : ∃ W2, (w2.alloc (.cells #[.int .i64 m, .slice A2 l2 e2, .slice B2 p2 g2] 24)) = W2 := ⟨_, rfl⟩
  rw [hW2] at hx2b hr2 hv2c
  have HX2 := hid hx2b
  have HR2 := hid hr2
  have HV2 := hid hv2c
  have HW2 := hid hW2
  have HY2 := HX2
  have HZ2 := hid (Ext.rfl' W2)
  clear f0 f1 f2 hx2 hx2b hr2 hv2b hv2c hW2
  obtain ⟨f0, f1, f2, -, -, -⟩ := row_facts3 (HR.out.ext HX2.out)
  go_upto_region 2 with fail
  rw [HW2.out]
  go_wp2_with fail
  refine (step_ok _ m us ad s W2 (HV1.out.ext HY2.out) hM hs (HTT.out.ext HY2.out)).mono ?_
  rintro e w3 ⟨rfl, hx⟩
  rw [HX0.out, HS1.out, HC1.out]
  have HY3 := hid (HY2.out.step hx)
  have HZ3 := hid (HZ2.out.step hx)
  clear f0 f1 f2 hx
  obtain ⟨f0, f1, f2, -, -, -⟩ := row_facts3 (HR.out.ext HY3.out)
  go_wp2_with fail
  refine (run_ok _ m us ad s k w3 (HV1.out.ext HY3.out) hM hs hk (HTT.out.ext HY3.out)).mono ?_
  rintro e w4 ⟨rfl, hx⟩
  rw [HX0.out, HS2.out, HC2.out]
  have HY4 := hid (HY3.out.step hx)
  have HZ4 := hid (HZ3.out.step hx)
  clear f0 f1 f2 hx
  obtain ⟨f0, f1, f2, -, -, -⟩ := row_facts3 (HR.out.ext HY4.out)
  obtain ⟨t0, t1, t2, -, -, -⟩ := row_facts3 (HR2.out.ext HZ4.out)
  go_wp2_with fail
  refine (rsame_eq _ _ m us ad w4 (HV1.out.ext HY4.out) (HV2.out.ext HZ4.out)).mono ?_
  rintro e w5 ⟨rfl, hx⟩
  have HY5 := hid (HY4.out.step hx)
  clear f0 f1 f2 t0 t1 t2 hx
  obtain ⟨f0, f1, f2, -, -, -⟩ := row_facts3 (HR.out.ext HY5.out)
  go_wp2_with fail
  refine (formed_any _ m us ad s w5 (HV1.out.ext HY5.out) hlen (hid rfl) (hid rfl) hb).mono ?_
  rintro e w6 ⟨rfl, hx⟩
  have HY6 := hid (HY5.out.step hx)
  clear f0 f1 f2 hx
  go_wp2_with fail
  refine (parse_any s w6 hs.out).mono ?_
  rintro e w7 ⟨vp, rfl, hvp, hx⟩
  rw [HX0.out] at hvp
  have hvp2 := hvp
  obtain ⟨AP, kP, cP, xsP, bP, rfl, -⟩ := hvp
  obtain ⟨eP, wP, rP⟩ := box2 (t := 34) hvp2
  obtain ⟨W9, hW9⟩ : ∃ W9, (w7.alloc (.cells #[.bool bP, .slice AP kP cP] 34)) = W9 := ⟨_, rfl⟩
  rw [hW9] at eP wP rP
  have HW9 := hid hW9
  have HVP := hid wP
  have HRP := hid rP
  have HY9 := hid ((HY6.out.step hx).step eP)
  obtain ⟨f0, f1, f2, -, -, -⟩ := row_facts3 (HR.out.ext HY9.out)
  obtain ⟨g0, g1, -, -⟩ := row_facts rP
  clear eP wP rP hW9 hvp2 hx
  go_upto_region 9 with fail
  rw [HW9.out]
  go_wp2_with fail
  refine (step2_fits _ _ m X us ad W9 (HV1.out.ext HY9.out) hM HVP.out HXF).mono ?_
  rintro e w10 ⟨vq, rfl, hvq, hx⟩
  have HY10 := hid (HY9.out.step hx)
  have HP10 := hid hx
  clear f0 f1 f2 g0 g1 hx
  have hvq2 := hvq
  obtain ⟨AQ, kQ, cQ, xsQ, bQ, rfl, -⟩ := hvq
  go_wp2_with fail
  refine (rtold_any _ (stepI m us ad X) w10 hvq2 (stepI_big hM.out HXF.out)).mono ?_
  rintro e w11 htp
  obtain ⟨rfl, hx⟩ := told_run htp
  rw [HS1.out, HC1.out]
  have HY11 := hid (HY10.out.step hx)
  have HP11 := hid (HP10.out.step hx)
  clear hvq2 hx htp
  obtain ⟨f0, f1, f2, -, -, -⟩ := row_facts3 (HR.out.ext HY11.out)
  obtain ⟨g0, g1, -, -⟩ := row_facts (HRP.out.ext HP11.out)
  go_wp2_with fail
  refine (rrun_any _ _ m X us ad k w11 (HV1.out.ext HY11.out) hM (HVP.out.ext HP11.out) HXF (by omega)).mono ?_
  rintro e w12 ⟨vr, z, b, rfl, hvr, HO, hx⟩
  have HY12 := hid (HY11.out.step hx)
  clear f0 f1 f2 g0 g1 hx
  have hvr2 := hvr
  obtain ⟨AR, kR, cR, xsR, bR, rfl, -⟩ := hvr
  obtain ⟨eR, wR, rR⟩ := box2 (t := 34) hvr2
  obtain ⟨W13, hW13⟩ : ∃ W13, (w12.alloc (.cells #[.bool bR, .slice AR kR cR] 34)) = W13 := ⟨_, rfl⟩
  rw [hW13] at eR wR rR
  have HW13 := hid hW13
  have HVR := hid wR
  have HRR := hid rR
  have HY13 := hid (HY12.out.step eR)
  clear eR wR rR hW13 hvr2
  go_upto_region 15 with fail
  rw [HW13.out]
  cases b with
  | false =>
    obtain rfl : s2 = ⟨#[]⟩ := by rw [← HS2.out, HO.out]; rfl
    obtain rfl : c2 = 3 := by rw [← HC2.out, HO.out]; rfl
    go_wp2_with fail
    refine (awake2_any W13 (HTT.out.ext HY13.out)).mono ?_
    rintro e wL ⟨rfl, hxL⟩
    have HL := hid (HX.out.step (HY13.out.step hxL))
    go_wp2
    go_ret
    exact ⟨rfl, HL.out⟩
  | true =>
    have HFZ : Hid (K.fits z) := hid (runO_fits k X z HXF.out HO.out)
    obtain rfl : s2 = Str (K.txt z) := by rw [← HS2.out, HO.out]; rfl
    obtain rfl : c2 = 0 := by rw [← HC2.out, HO.out]; rfl
    obtain ⟨tz, htz⟩ : ∃ tz, Str (K.txt z) = tz := ⟨_, rfl⟩
    rw [htz]
    have HTZ := hid htz
    have htt : (tz.toList == tz.toList) = true := by simp
    clear htz
    obtain ⟨g0, g1, -, -⟩ := row_facts HRR.out
    go_wp2_with fail
    refine (rtext_any _ z W13 HVR.out (fits_big HFZ.out)).mono ?_
    rintro e w14 ⟨rfl, hx⟩
    rw [HTZ.out]
    have HY14 := hid (HY13.out.step hx)
    clear g0 g1 hx
    go_wp2_with fail
    refine (awake2_any w14 (HTT.out.ext HY14.out)).mono ?_
    rintro e wL ⟨rfl, hxL⟩
    have HL := hid (HX.out.step (HY14.out.step hxL))
    go_wp2
    go_ret
    exact ⟨rfl, HL.out⟩
theorem law_StepRuns (v : Value) (m : Int) (us ad : List Int) (s : List UInt8) (k : Int) (w : World) (hv : MapV w v m us ad) (h8 : Fit8 v) (hlen : s.length ≤ 140737488351232) (ht : Tab w) :
    Calls Tryz.prog 3 #[v, .string (Str s), .int .i64 k] w (TruePost w) := by
  cases hf : (mapB m us ad && K.validL s) with
  | false => exact runs_form v m us ad s k w hv h8 ht hlen (hid hf.symm)
  | true =>
    have h2 := hf
    rw [Bool.and_eq_true] at h2
    have hM := hid ((mapB_iff m us ad).1 h2.1)
    have hs := hid h2.2
    rcases Int.lt_or_le k 0 with h1 | h1
    · exact runs_low v m us ad s k w hv h8 ht hlen (hid hf.symm) hM hs h1
    · rcases Int.lt_or_le 20000 k with h3 | h3
      · exact runs_high v m us ad s k w hv h8 ht hlen (hid hf.symm) hM hs h1 h3
      · obtain ⟨n, rfl⟩ : ∃ n : Nat, k = n := ⟨k.toNat, by omega⟩
        exact runs_in v m us ad s n w hv h8 ht hlen (hid hf.symm) hM hs (by omega)
end Go.Proofs.YtflgkijmbpcnfaaGreatDoor
