/- the law StepFalls -/
import Derived.Test.YtflgkijmbpcnfaaGreatDoorJG15
import Derived.Test.YtflgkijmbpcnfaaGreatDoorJG17
import Derived.Test.YtflgkijmbpcnfaaGreatDoorJG13
import Derived.Deep.DeepCutAuto
set_option linter.unusedSimpArgs false
set_option linter.unusedVariables false
namespace Go.Proofs.YtflgkijmbpcnfaaGreatDoor
open Go.RowKit
set_option maxRecDepth 100000 in
set_option maxHeartbeats 3200000 in
theorem fallsl_form (v : Value) (m : Int) (us ad : List Int) (s : List UInt8) (k : Int) (w : World) (hv : MapV w v m us ad) (h8 : Fit8 v) (ht : Tab w) (hlen : s.length ≤ 140737488351232) (hb : Hid (false = (mapB m us ad && K.validL s))) :
    Calls Tryz.prog 5 #[v, .string (Str s), .int .i64 k] w (TruePost w) := by
  have HT := hid ht
  have HV := hid hv
  have H8 := hid h8
  obtain ⟨A, n, cc, B, n2, d, rfl, -⟩ := hv
  have hx : Ext w (w.alloc (.cells #[.int .i64 m, .slice A n cc, .slice B n2 d] 24)) := (Ext.rfl' w).alloc' _
  have hr : Row (w.alloc (.cells #[.int .i64 m, .slice A n cc, .slice B n2 d] 24)) w.heap.size 24 [.int .i64 m, .slice A n cc, .slice B n2 d] := Row.new w _ _
  obtain ⟨W1, hW1⟩ : ∃ W1, (w.alloc (.cells #[.int .i64 m, .slice A n cc, .slice B n2 d] 24)) = W1 := ⟨_, rfl⟩
  rw [hW1] at hx hr
  have HX := hid hx
  have HR := hid hr
  have HW1 := hid hW1
  obtain ⟨f0, f1, f2, -, -, -⟩ := row_facts3 hr
  have HTT : Hid (Tab W1) := hid (ht.ext hx)
  have HV1 := hid (HV.out.ext hx)
  clear hW1 hx hr h8
  go_enter Tryz.func5, Tryz.ntmps5
  go_upto_region 1 with fail
  rw [HW1.out]
  go_wp2_with fail
  refine (twin_any _ m us ad W1 HV1.out H8.out).mono ?_
  rintro e w2 ⟨v2, rfl, hv2, hx2⟩
  have hv2b := hv2
  obtain ⟨A2, l2, e2, B2, p2, g2, rfl, -⟩ := hv2
  have hx2b : Ext W1 (w2.alloc (.cells #[.int .i64 m, .slice A2 l2 e2, .slice B2 p2 g2] 24)) := hx2.alloc' _
  have hr2 : Row (w2.alloc (.cells #[.int .i64 m, .slice A2 l2 e2, .slice B2 p2 g2] 24)) w2.heap.size 24 [.int .i64 m, .slice A2 l2 e2, .slice B2 p2 g2] := Row.new w2 _ _
  have hv2c := hv2b.ext ((Ext.rfl' w2).alloc' (.cells #[.int .i64 m, .slice A2 l2 e2, .slice B2 p2 g2] 24))
  obtain ⟨W2, hW2⟩ : ∃ W2, (w2.alloc (.cells #[.int .i64 m, .slice A2 l2 e2, .slice B2 p2 g2] 24)) = W2 := ⟨_, rfl⟩
  rw [hW2] at hx2b hr2 hv2c
  have HX2 := hid hx2b
  have HR2 := hid hr2
  have HV2 := hid hv2c
  have HW2 := hid hW2
  have HY2 := HX2
  have HZ2 := hid (Ext.rfl' W2)
  clear f0 f1 f2 hx2 hx2b hr2 hv2b hv2c hW2
  obtain ⟨f0, f1, f2, -, -, -⟩ := row_facts3 (HR.out.ext HX2.out)
  go_upto_region 2 with fail
  rw [HW2.out]
  go_wp2_with fail
  refine (falls_bad _ m us ad s k W2 (HV1.out.ext HY2.out) hlen (hid rfl) (hid rfl) (c := 1) (hid (by rw [if_neg (by intro h; have := hb.out; rw [h.1, h.2] at this; cases this)])) rfl).mono ?_
  rintro e w3 ⟨rfl, hx⟩
  have HY3 := hid (HY2.out.step hx)
  have HZ3 := hid (HZ2.out.step hx)
  clear f0 f1 f2 hx
  obtain ⟨f0, f1, f2, -, -, -⟩ := row_facts3 (HR.out.ext HY3.out)
  obtain ⟨t0, t1, t2, -, -, -⟩ := row_facts3 (HR2.out.ext HZ3.out)
  go_wp2_with fail
  refine (rsame_eq _ _ m us ad w3 (HV1.out.ext HY3.out) (HV2.out.ext HZ3.out)).mono ?_
  rintro e w4 ⟨rfl, hx⟩
  have HY4 := hid (HY3.out.step hx)
  clear f0 f1 f2 t0 t1 t2 hx
  obtain ⟨f0, f1, f2, -, -, -⟩ := row_facts3 (HR.out.ext HY4.out)
  go_wp2_with fail
  refine (formed_any _ m us ad s w4 (HV1.out.ext HY4.out) hlen (hid rfl) (hid rfl) hb).mono ?_
  rintro e w5 ⟨rfl, hx⟩
  have HY5 := hid (HY4.out.step hx)
  clear f0 f1 f2 hx
  go_wp2_with fail
  refine (awake2_any w5 (HTT.out.ext HY5.out)).mono ?_
  rintro e wL ⟨rfl, hxL⟩
  have HL := hid (HX.out.step (HY5.out.step hxL))
  go_wp2
  go_ret
  exact ⟨rfl, HL.out⟩
set_option maxRecDepth 100000 in
set_option maxHeartbeats 3200000 in
theorem fallsl_low (v : Value) (m : Int) (us ad : List Int) (s : List UInt8) (k : Int) (w : World) (hv : MapV w v m us ad) (h8 : Fit8 v) (ht : Tab w) (hlen : s.length ≤ 140737488351232) (hb : Hid (true = (mapB m us ad && K.validL s))) (hM : Hid (mapP m us ad)) (hs : Hid (K.validL s = true)) (h1 : k < 1) :
    Calls Tryz.prog 5 #[v, .string (Str s), .int .i64 k] w (TruePost w) := by
  have HT := hid ht
  have HV := hid hv
  have H8 := hid h8
  obtain ⟨A, n, cc, B, n2, d, rfl, -⟩ := hv
  have hx : Ext w (w.alloc (.cells #[.int .i64 m, .slice A n cc, .slice B n2 d] 24)) := (Ext.rfl' w).alloc' _
  have hr : Row (w.alloc (.cells #[.int .i64 m, .slice A n cc, .slice B n2 d] 24)) w.heap.size 24 [.int .i64 m, .slice A n cc, .slice B n2 d] := Row.new w _ _
  obtain ⟨W1, hW1⟩ : ∃ W1, (w.alloc (.cells #[.int .i64 m, .slice A n cc, .slice B n2 d] 24)) = W1 := ⟨_, rfl⟩
  rw [hW1] at hx hr
  have HX := hid hx
  have HR := hid hr
  have HW1 := hid hW1
  obtain ⟨f0, f1, f2, -, -, -⟩ := row_facts3 hr
  have HTT : Hid (Tab W1) := hid (ht.ext hx)
  have HV1 := hid (HV.out.ext hx)
  clear hW1 hx hr h8
  go_enter Tryz.func5, Tryz.ntmps5
  go_upto_region 1 with fail
  rw [HW1.out]
  go_wp2_with fail
  refine (twin_any _ m us ad W1 HV1.out H8.out).mono ?_
  rintro e w2 ⟨v2, rfl, hv2, hx2⟩
  have hv2b := hv2
  obtain ⟨A2, l2, e2, B2, p2, g2, rfl, -⟩ := hv2
  have hx2b : Ext W1 (w2.alloc (.cells #[.int .i64 m, .slice A2 l2 e2, .slice B2 p2 g2] 24)) := hx2.alloc' _
  have hr2 : Row (w2.alloc (.cells #[.int .i64 m, .slice A2 l2 e2, .slice B2 p2 g2] 24)) w2.heap.size 24 [.int .i64 m, .slice A2 l2 e2, .slice B2 p2 g2] := Row.new w2 _ _
  have hv2c := hv2b.ext ((Ext.rfl' w2).alloc' (.cells #[.int .i64 m, .slice A2 l2 e2, .slice B2 p2 g2] 24))
  obtain ⟨W2, hW2⟩ : ∃ W2, (w2.alloc (.cells #[.int .i64 m, .slice A2 l2 e2, .slice B2 p2 g2] 24)) = W2 := ⟨_, rfl⟩
  rw [hW2] at hx2b hr2 hv2c
  have HX2 := hid hx2b
  have HR2 := hid hr2
  have HV2 := hid hv2c
  have HW2 := hid hW2
  have HY2 := HX2
  have HZ2 := hid (Ext.rfl' W2)
  clear f0 f1 f2 hx2 hx2b hr2 hv2b hv2c hW2
  obtain ⟨f0, f1, f2, -, -, -⟩ := row_facts3 (HR.out.ext HX2.out)
  go_upto_region 2 with fail
  rw [HW2.out]
  go_wp2_with fail
  refine (falls_bad _ m us ad s k W2 (HV1.out.ext HY2.out) hlen (hid ((mapB_iff m us ad).2 hM.out)) hs (c := 2) (hid (by rw [if_pos ⟨rfl, rfl⟩, if_pos (by first | exact .inl h1 | exact .inr h1)])) rfl).mono ?_
  rintro e w3 ⟨rfl, hx⟩
  have HY3 := hid (HY2.out.step hx)
  have HZ3 := hid (HZ2.out.step hx)
  clear f0 f1 f2 hx
  obtain ⟨f0, f1, f2, -, -, -⟩ := row_facts3 (HR.out.ext HY3.out)
  obtain ⟨t0, t1, t2, -, -, -⟩ := row_facts3 (HR2.out.ext HZ3.out)
  go_wp2_with fail
  refine (rsame_eq _ _ m us ad w3 (HV1.out.ext HY3.out) (HV2.out.ext HZ3.out)).mono ?_
  rintro e w4 ⟨rfl, hx⟩
  have HY4 := hid (HY3.out.step hx)
  clear f0 f1 f2 t0 t1 t2 hx
  obtain ⟨f0, f1, f2, -, -, -⟩ := row_facts3 (HR.out.ext HY4.out)
  go_wp2_with fail
  refine (formed_any _ m us ad s w4 (HV1.out.ext HY4.out) hlen (hid rfl) (hid rfl) hb).mono ?_
  rintro e w5 ⟨rfl, hx⟩
  have HY5 := hid (HY4.out.step hx)
  clear f0 f1 f2 hx
  go_wp2_with fail
  refine (awake2_any w5 (HTT.out.ext HY5.out)).mono ?_
  rintro e wL ⟨rfl, hxL⟩
  have HL := hid (HX.out.step (HY5.out.step hxL))
  go_wp2
  go_ret
  exact ⟨rfl, HL.out⟩
set_option maxRecDepth 100000 in
set_option maxHeartbeats 3200000 in
theorem fallsl_high (v : Value) (m : Int) (us ad : List Int) (s : List UInt8) (k : Int) (w : World) (hv : MapV w v m us ad) (h8 : Fit8 v) (ht : Tab w) (hlen : s.length ≤ 140737488351232) (hb : Hid (true = (mapB m us ad && K.validL s))) (hM : Hid (mapP m us ad)) (hs : Hid (K.validL s = true)) (h0 : 1 ≤ k) (h1 : 20000 < k) :
    Calls Tryz.prog 5 #[v, .string (Str s), .int .i64 k] w (TruePost w) := by
  have HT := hid ht
  have HV := hid hv
  have H8 := hid h8
  obtain ⟨A, n, cc, B, n2, d, rfl, -⟩ := hv
  have hx : Ext w (w.alloc (.cells #[.int .i64 m, .slice A n cc, .slice B n2 d] 24)) := (Ext.rfl' w).alloc' _
  have hr : Row (w.alloc (.cells #[.int .i64 m, .slice A n cc, .slice B n2 d] 24)) w.heap.size 24 [.int .i64 m, .slice A n cc, .slice B n2 d] := Row.new w _ _
  obtain ⟨W1, hW1⟩ : ∃ W1, (w.alloc (.cells #[.int .i64 m, .slice A n cc, .slice B n2 d] 24)) = W1 := ⟨_, rfl⟩
  rw [hW1] at hx hr
  have HX := hid hx
  have HR := hid hr
  have HW1 := hid hW1
  obtain ⟨f0, f1, f2, -, -, -⟩ := row_facts3 hr
  have HTT : Hid (Tab W1) := hid (ht.ext hx)
  have HV1 := hid (HV.out.ext hx)
  clear hW1 hx hr h8
  go_enter Tryz.func5, Tryz.ntmps5
  go_upto_region 1 with fail
  rw [HW1.out]
  go_wp2_with fail
  refine (twin_any _ m us ad W1 HV1.out H8.out).mono ?_
  rintro e w2 ⟨v2, rfl, hv2, hx2⟩
  have hv2b := hv2
  obtain ⟨A2, l2, e2, B2, p2, g2, rfl, -⟩ := hv2
  have hx2b : Ext W1 (w2.alloc (.cells #[.int .i64 m, .slice A2 l2 e2, .slice B2 p2 g2] 24)) := hx2.alloc' _
  have hr2 : Row (w2.alloc (.cells #[.int .i64 m, .slice A2 l2 e2, .slice B2 p2 g2] 24)) w2.heap.size 24 [.int .i64 m, .slice A2 l2 e2, .slice B2 p2 g2] := Row.new w2 _ _
  have hv2c := hv2b.ext ((Ext.rfl' w2).alloc' (.cells #[.int .i64 m, .slice A2 l2 e2, .slice B2 p2 g2] 24))
  obtain ⟨W2, hW2⟩ : ∃ W2, (w2.alloc (.cells #[.int .i64 m, .slice A2 l2 e2, .slice B2 p2 g2] 24)) = W2 := ⟨_, rfl⟩
  rw [hW2] at hx2b hr2 hv2c
  have HX2 := hid hx2b
  have HR2 := hid hr2
  have HV2 := hid hv2c
  have HW2 := hid hW2
  have HY2 := HX2
  have HZ2 := hid (Ext.rfl' W2)
  clear f0 f1 f2 hx2 hx2b hr2 hv2b hv2c hW2
  obtain ⟨f0, f1, f2, -, -, -⟩ := row_facts3 (HR.out.ext HX2.out)
  go_upto_region 2 with fail
  rw [HW2.out]
  go_wp2_with fail
  refine (falls_bad _ m us ad s k W2 (HV1.out.ext HY2.out) hlen (hid ((mapB_iff m us ad).2 hM.out)) hs (c := 2) (hid (by rw [if_pos ⟨rfl, rfl⟩, if_pos (by first | exact .inl h1 | exact .inr h1)])) rfl).mono ?_
  rintro e w3 ⟨rfl, hx⟩
  have HY3 := hid (HY2.out.step hx)
  have HZ3 := hid (HZ2.out.step hx)
  clear f0 f1 f2 hx
  obtain ⟨f0, f1, f2, -, -, -⟩ := row_facts3 (HR.out.ext HY3.out)
  obtain ⟨t0, t1, t2, -, -, -⟩ := row_facts3 (HR2.out.ext HZ3.out)
  go_wp2_with fail
  refine (rsame_eq _ _ m us ad w3 (HV1.out.ext HY3.out) (HV2.out.ext HZ3.out)).mono ?_
  rintro e w4 ⟨rfl, hx⟩
  have HY4 := hid (HY3.out.step hx)
  clear f0 f1 f2 t0 t1 t2 hx
  obtain ⟨f0, f1, f2, -, -, -⟩ := row_facts3 (HR.out.ext HY4.out)
  go_wp2_with fail
  refine (formed_any _ m us ad s w4 (HV1.out.ext HY4.out) hlen (hid rfl) (hid rfl) hb).mono ?_
  rintro e w5 ⟨rfl, hx⟩
  have HY5 := hid (HY4.out.step hx)
  clear f0 f1 f2 hx
  go_wp2_with fail
  refine (awake2_any w5 (HTT.out.ext HY5.out)).mono ?_
  rintro e wL ⟨rfl, hxL⟩
  have HL := hid (HX.out.step (HY5.out.step hxL))
  go_wp2
  go_ret
  exact ⟨rfl, HL.out⟩
set_option maxRecDepth 100000 in
set_option maxHeartbeats 6400000 in
theorem fallsl_err (v : Value) (m : Int) (us ad : List Int) (s : List UInt8) (k : Nat) (w : World) (hv : MapV w v m us ad) (h8 : Fit8 v) (ht : Tab w) (hlen : s.length ≤ 140737488351232) (hb : Hid (true = (mapB m us ad && K.validL s))) (hM : Hid (mapP m us ad)) (hs : Hid (K.validL s = true)) (hk0 : 1 ≤ k) (hk : k ≤ 20000) (fi fc : Int) (ft : ByteArray) (HFR : Hid (fallL (K.numL s) 0 (seqO m us ad k (K.numL s)) = (fi, ft, fc))) (hfi : fi = 0) (hft : ft = ⟨#[]⟩) (hf0 : (fc == 0) = false) (hf1 : (fc != 0) = true) :
    Calls Tryz.prog 5 #[v, .string (Str s), .int .i64 (k : Int)] w (TruePost w) := by
  obtain ⟨X, HX0⟩ : ∃ X, Hid (K.numL s = X) := ⟨_, hid rfl⟩
  have HXF : Hid (K.fits X) := hid (by rw [← HX0.out]; exact (K.txt_numL s hs.out).2)
  have HFR2 : Hid (fallL X 0 (seqO m us ad k X) = (fi, ft, fc)) := hid (by rw [← HX0.out]; exact HFR.out)
  have q0 : (1 : Int) ≤ (k : Int) := by omega
  have q1 : (k : Int) ≤ 20000 := by omega
  subst hfi hft
  have hff : (fc == fc) = true := by simp
  have HT := hid ht
  have HV := hid hv
  have H8 := hid h8
  obtain ⟨A, n, cc, B, n2, d, rfl, -⟩ := hv
  have hx : Ext w (w.alloc (.cells #[.int .i64 m, .slice A n cc, .slice B n2 d] 24)) := (Ext.rfl' w).alloc' _
  have hr : Row (w.alloc (.cells #[.int .i64 m, .slice A n cc, .slice B n2 d] 24)) w.heap.size 24 [.int .i64 m, .slice A n cc, .slice B n2 d] := Row.new w _ _
  obtain ⟨W1, hW1⟩ : ∃ W1, (w.alloc (.cells #[.int .i64 m, .slice A n cc, .slice B n2 d] 24)) = W1 := ⟨_, rfl⟩
  rw [hW1] at hx hr
  have HX := hid hx
  have HR := hid hr
  have HW1 := hid hW1
  obtain ⟨f0, f1, f2, -, -, -⟩ := row_facts3 hr
  have HTT : Hid (Tab W1) := hid (ht.ext hx)
  have HV1 := hid (HV.out.ext hx)
  clear hW1 hx hr h8
  go_enter Tryz.func5, Tryz.ntmps5
  go_upto_region 1 with fail
  rw [HW1.out]
  go_wp2_with fail
  refine (twin_any _ m us ad W1 HV1.out H8.out).mono ?_
  rintro e w2 ⟨v2, rfl, hv2, hx2⟩
  have hv2b := hv2
  obtain ⟨A2, l2, e2, B2, p2, g2, rfl, -⟩ := hv2
  have hx2b : Ext W1 (w2.alloc (.cells #[.int .i64 m, .slice A2 l2 e2, .slice B2 p2 g2] 24)) := hx2.alloc' _
  have hr2 : Row (w2.alloc (.cells #[.int .i64 m, .slice A2 l2 e2, .slice B2 p2 g2] 24)) w2.heap.size 24 [.int .i64 m, .slice A2 l2 e2, .slice B2 p2 g2] := Row.new w2 _ _
  have hv2c := hv2b.ext ((Ext.rfl' w2).alloc' (.cells #[.int .i64 m, .slice A2 l2 e2, .slice B2 p2 g2] 24))
  obtain ⟨W2, hW2⟩ : ∃ W2, (w2.alloc (.cells #[.int .i64 m, .slice A2 l2 e2, .slice B2 p2 g2] 24)) = W2 := ⟨_, rfl⟩
  rw [hW2] at hx2b hr2 hv2c
  have HX2 := hid hx2b
  have HR2 := hid hr2
  have HV2 := hid hv2c
  have HW2 := hid hW2
  have HY2 := HX2
  have HZ2 := hid (Ext.rfl' W2)
  clear f0 f1 f2 hx2 hx2b hr2 hv2b hv2c hW2
  obtain ⟨f0, f1, f2, -, -, -⟩ := row_facts3 (HR.out.ext HX2.out)
  go_upto_region 2 with fail
  rw [HW2.out]
  go_wp2_with fail
  refine (falls_at _ m us ad s k W2 (HV1.out.ext HY2.out) hM hs hk0 hk (HTT.out.ext HY2.out) HFR).mono ?_
  rintro e w3 ⟨rfl, hx⟩
  have HY3 := hid (HY2.out.step hx)
  have HZ3 := hid (HZ2.out.step hx)
  clear f0 f1 f2 hx
  obtain ⟨f0, f1, f2, -, -, -⟩ := row_facts3 (HR.out.ext HY3.out)
  obtain ⟨t0, t1, t2, -, -, -⟩ := row_facts3 (HR2.out.ext HZ3.out)
  go_wp2_with fail
  refine (rsame_eq _ _ m us ad w3 (HV1.out.ext HY3.out) (HV2.out.ext HZ3.out)).mono ?_
  rintro e w4 ⟨rfl, hx⟩
  have HY4 := hid (HY3.out.step hx)
  clear f0 f1 f2 t0 t1 t2 hx
  obtain ⟨f0, f1, f2, -, -, -⟩ := row_facts3 (HR.out.ext HY4.out)
  go_wp2_with fail
  refine (formed_any _ m us ad s w4 (HV1.out.ext HY4.out) hlen (hid rfl) (hid rfl) hb).mono ?_
  rintro e w5 ⟨rfl, hx⟩
  have HY5 := hid (HY4.out.step hx)
  clear f0 f1 f2 hx
  have HRW := hid (HR.out.ext HY5.out)
  have HS : Hid (∀ W', Ext w5 W' → W'.cell? ⟨w.heap.size, 0, none⟩ = some (.int .i64 m) ∧ W'.cell? ⟨w.heap.size, 1, none⟩ = some (.slice A n cc) ∧ W'.cell? ⟨w.heap.size, 2, none⟩ = some (.slice B n2 d)) := hid (by
    intro W' e
    obtain ⟨p0, p1, p2, -, -, -⟩ := row_facts3 (HRW.out.ext e)
    exact ⟨p0, p1, p2⟩)
  have HVK := hid (HV1.out.ext HY5.out)
  have hcur : Ext w5 w5 := Ext.rfl' _
  go_upto_region 9 with fail
  go_cut [11, 12, 13] (fun s11 s12 s13 wx => ∃ (g : Nat) (b : Bool) (P : Option Addr) (q c : Nat), s11 = .int .i64 0 ∧ s12 = .pointer (some ⟨g, 0, none⟩) ∧ s13 = .int .i64 fc ∧ Row wx g 34 [.bool b, .slice P q c] ∧ (fc = 0 → ∃ y, RefV wx (.agg #[.bool b, .slice P q c]) y ∧ K.fits y ∧ (⟨#[]⟩ : ByteArray) = Str (K.txt y)) ∧ Ext w5 wx)
  case first =>
    go_region_held3 (fun W' => W'.cell? ⟨w.heap.size, 0, none⟩ = some (.int .i64 m) ∧ W'.cell? ⟨w.heap.size, 1, none⟩ = some (.slice A n cc) ∧ W'.cell? ⟨w.heap.size, 2, none⟩ = some (.slice B n2 d))
      (first | exact HS.out _ hcur | exact HS.out _ hcur.drew' | exact HS.out _ (hcur.alloc' _) | exact HS.out _ (hcur.drew'.alloc' _) | exact HS.out _ ((hcur.set' HB2.out.1 _).set' HB2.out.1 _) | go_keep)
      (first
        | (go_at_call 20; refine (parse_any s _ hs.out).mono ?_; rintro e w7 ⟨v7, rfl, hv7, hx⟩; rw [HX0.out] at hv7; (first | have HB2 := hid (HB2.out.ext hx) | have HB2 := hid ((NB.new hcur.size).ext hx) | have HB2 := hid ((NB.newD hcur.size).ext hx) | skip); have hcur := Ext.step hcur (by first | exact hx | exact Ext.undrew hx | exact Ext.step ((Ext.rfl' _).alloc' _) hx | exact Ext.step ((Ext.rfl' _).drew'.alloc' _) hx); have HV7 := hid hv7; obtain ⟨A7, k7, c7, xs7, b7, rfl, -⟩ := hv7; (first | (have hyy := row_facts HB2.out.2; obtain ⟨y0, y1, y2, y3⟩ := hyy) | skip))
        | (go_at_call 29; refine (rfalls_any _ _ m X us ad k _ (0, (⟨#[]⟩ : ByteArray), fc) (HVK.out.ext ?_) hM (HV7.out.ext ?_) HXF (by omega) HFR2).mono ?_; (first | exact hcur | exact hcur.drew' | exact hcur.alloc' _ | exact hcur.drew'.alloc' _ | exact (hcur.alloc' _).drew'); (first | exact Ext.rfl' _ | exact (Ext.rfl' _).drew' | exact (Ext.rfl' _).alloc' _ | exact (Ext.rfl' _).drew'.alloc' _); rintro e w8 ⟨v8, rfl, ⟨P8, q8, c8, b8, rfl⟩, hv8, hx⟩; (first | have HB2 := hid (HB2.out.ext hx) | have HB2 := hid ((NB.new hcur.size).ext hx) | have HB2 := hid ((NB.newD hcur.size).ext hx) | skip); have hcur := Ext.step hcur (by first | exact hx | exact Ext.undrew hx | exact Ext.step ((Ext.rfl' _).alloc' _) hx | exact Ext.step ((Ext.rfl' _).drew'.alloc' _) hx); have HV8 := hid hv8; (first | (have hyy := row_facts HB2.out.2; obtain ⟨y0, y1, y2, y3⟩ := hyy) | skip)))
    all_goals
      go_wp2_with fail
      go_meet
      first
        | exact ⟨_, b8, P8, q8, c8, rfl, rfl, rfl, (HB2.out.2.set 0 _).set 1 _, fun h => (HV8.out h).elim fun y hy => ⟨y, hy.1.box HB2.out.2, hy.2⟩, (hcur.set' HB2.out.1 _).set' HB2.out.1 _⟩
        | exact ⟨_, b8, P8, q8, c8, rfl, rfl, rfl, Row.new _ _ [.bool b8, .slice P8 q8 c8], fun h => (HV8.out h).elim fun y hy => ⟨y, hy.1.ext ((Ext.rfl' _).alloc' _), hy.2⟩, hcur.alloc' _⟩
  case rest =>
    obtain ⟨g, b, P, q, c, rfl, rfl, rfl, hrow, hv, hex⟩ := hcut
    have HYX := hid (HY5.out.step hex)
    have HROW := hid hrow
    have HVV := hid hv
    clear hrow hv hex hcur
    go_wp2_with fail
    refine (awake2_any wc (HTT.out.ext HYX.out)).mono ?_
    rintro e wL ⟨rfl, hxL⟩
    have HL := hid (HX.out.step (HYX.out.step hxL))
    go_wp2
    go_ret
    exact ⟨rfl, HL.out⟩
set_option maxRecDepth 100000 in
set_option maxHeartbeats 6400000 in
theorem fallsl_ok (v : Value) (m : Int) (us ad : List Int) (s : List UInt8) (k : Nat) (w : World) (hv : MapV w v m us ad) (h8 : Fit8 v) (ht : Tab w) (hlen : s.length ≤ 140737488351232) (hb : Hid (true = (mapB m us ad && K.validL s))) (hM : Hid (mapP m us ad)) (hs : Hid (K.validL s = true)) (hk0 : 1 ≤ k) (hk : k ≤ 20000) (fi fc : Int) (ft : ByteArray) (HFR : Hid (fallL (K.numL s) 0 (seqO m us ad k (K.numL s)) = (fi, ft, fc))) (hfc : fc = 0) :
    Calls Tryz.prog 5 #[v, .string (Str s), .int .i64 (k : Int)] w (TruePost w) := by
  obtain ⟨X, HX0⟩ : ∃ X, Hid (K.numL s = X) := ⟨_, hid rfl⟩
  have HXF : Hid (K.fits X) := hid (by rw [← HX0.out]; exact (K.txt_numL s hs.out).2)
  have HFR2 : Hid (fallL X 0 (seqO m us ad k X) = (fi, ft, fc)) := hid (by rw [← HX0.out]; exact HFR.out)
  have q0 : (1 : Int) ≤ (k : Int) := by omega
  have q1 : (k : Int) ≤ 20000 := by omega
  subst hfc
  have hii : (fi == fi) = true := by simp
  have htt : (ft.toList == ft.toList) = true := by simp
  have HT := hid ht
  have HV := hid hv
  have H8 := hid h8
  obtain ⟨A, n, cc, B, n2, d, rfl, -⟩ := hv
  have hx : Ext w (w.alloc (.cells #[.int .i64 m, .slice A n cc, .slice B n2 d] 24)) := (Ext.rfl' w).alloc' _
  have hr : Row (w.alloc (.cells #[.int .i64 m, .slice A n cc, .slice B n2 d] 24)) w.heap.size 24 [.int .i64 m, .slice A n cc, .slice B n2 d] := Row.new w _ _
  obtain ⟨W1, hW1⟩ : ∃ W1, (w.alloc (.cells #[.int .i64 m, .slice A n cc, .slice B n2 d] 24)) = W1 := ⟨_, rfl⟩
  rw [hW1] at hx hr
  have HX := hid hx
  have HR := hid hr
  have HW1 := hid hW1
  obtain ⟨f0, f1, f2, -, -, -⟩ := row_facts3 hr
  have HTT : Hid (Tab W1) := hid (ht.ext hx)
  have HV1 := hid (HV.out.ext hx)
  clear hW1 hx hr h8
  go_enter Tryz.func5, Tryz.ntmps5
  go_upto_region 1 with fail
  rw [HW1.out]
  go_wp2_with fail
  refine (twin_any _ m us ad W1 HV1.out H8.out).mono ?_
  rintro e w2 ⟨v2, rfl, hv2, hx2⟩
  have hv2b := hv2
  obtain ⟨A2, l2, e2, B2, p2, g2, rfl, -⟩ := hv2
  have hx2b : Ext W1 (w2.alloc (.cells #[.int .i64 m, .slice A2 l2 e2, .slice B2 p2 g2] 24)) := hx2.alloc' _
  have hr2 : Row (w2.alloc (.cells #[.int .i64 m, .slice A2 l2 e2, .slice B2 p2 g2] 24)) w2.heap.size 24 [.int .i64 m, .slice A2 l2 e2, .slice B2 p2 g2] := Row.new w2 _ _
  have hv2c := hv2b.ext ((Ext.rfl' w2).alloc' (.cells #[.int .i64 m, .slice A2 l2 e2, .slice B2 p2 g2] 24))
  obtain ⟨W2, hW2⟩ : ∃ W2, (w2.alloc (.cells #[.int .i64 m, .slice A2 l2 e2, .slice B2 p2 g2] 24)) = W2 := ⟨_, rfl⟩
  rw [hW2] at hx2b hr2 hv2c
  have HX2 := hid hx2b
  have HR2 := hid hr2
  have HV2 := hid hv2c
  have HW2 := hid hW2
  have HY2 := HX2
  have HZ2 := hid (Ext.rfl' W2)
  clear f0 f1 f2 hx2 hx2b hr2 hv2b hv2c hW2
  obtain ⟨f0, f1, f2, -, -, -⟩ := row_facts3 (HR.out.ext HX2.out)
  go_upto_region 2 with fail
  rw [HW2.out]
  go_wp2_with fail
  refine (falls_at _ m us ad s k W2 (HV1.out.ext HY2.out) hM hs hk0 hk (HTT.out.ext HY2.out) HFR).mono ?_
  rintro e w3 ⟨rfl, hx⟩
  have HY3 := hid (HY2.out.step hx)
  have HZ3 := hid (HZ2.out.step hx)
  clear f0 f1 f2 hx
  obtain ⟨f0, f1, f2, -, -, -⟩ := row_facts3 (HR.out.ext HY3.out)
  obtain ⟨t0, t1, t2, -, -, -⟩ := row_facts3 (HR2.out.ext HZ3.out)
  go_wp2_with fail
  refine (rsame_eq _ _ m us ad w3 (HV1.out.ext HY3.out) (HV2.out.ext HZ3.out)).mono ?_
  rintro e w4 ⟨rfl, hx⟩
  have HY4 := hid (HY3.out.step hx)
  clear f0 f1 f2 t0 t1 t2 hx
  obtain ⟨f0, f1, f2, -, -, -⟩ := row_facts3 (HR.out.ext HY4.out)
  go_wp2_with fail
  refine (formed_any _ m us ad s w4 (HV1.out.ext HY4.out) hlen (hid rfl) (hid rfl) hb).mono ?_
  rintro e w5 ⟨rfl, hx⟩
  have HY5 := hid (HY4.out.step hx)
  clear f0 f1 f2 hx
  have HRW := hid (HR.out.ext HY5.out)
  have HS : Hid (∀ W', Ext w5 W' → W'.cell? ⟨w.heap.size, 0, none⟩ = some (.int .i64 m) ∧ W'.cell? ⟨w.heap.size, 1, none⟩ = some (.slice A n cc) ∧ W'.cell? ⟨w.heap.size, 2, none⟩ = some (.slice B n2 d)) := hid (by
    intro W' e
    obtain ⟨p0, p1, p2, -, -, -⟩ := row_facts3 (HRW.out.ext e)
    exact ⟨p0, p1, p2⟩)
  have HVK := hid (HV1.out.ext HY5.out)
  have hcur : Ext w5 w5 := Ext.rfl' _
  go_upto_region 9 with fail
  go_cut [11, 12, 13] (fun s11 s12 s13 wx => ∃ (g : Nat) (b : Bool) (P : Option Addr) (q c : Nat), s11 = .int .i64 fi ∧ s12 = .pointer (some ⟨g, 0, none⟩) ∧ s13 = .int .i64 0 ∧ Row wx g 34 [.bool b, .slice P q c] ∧ (0 = 0 → ∃ y, RefV wx (.agg #[.bool b, .slice P q c]) y ∧ K.fits y ∧ ft = Str (K.txt y)) ∧ Ext w5 wx)
  case first =>
    go_region_held3 (fun W' => W'.cell? ⟨w.heap.size, 0, none⟩ = some (.int .i64 m) ∧ W'.cell? ⟨w.heap.size, 1, none⟩ = some (.slice A n cc) ∧ W'.cell? ⟨w.heap.size, 2, none⟩ = some (.slice B n2 d))
      (first | exact HS.out _ hcur | exact HS.out _ hcur.drew' | exact HS.out _ (hcur.alloc' _) | exact HS.out _ (hcur.drew'.alloc' _) | exact HS.out _ ((hcur.set' HB2.out.1 _).set' HB2.out.1 _) | go_keep)
      (first
        | (go_at_call 20; refine (parse_any s _ hs.out).mono ?_; rintro e w7 ⟨v7, rfl, hv7, hx⟩; rw [HX0.out] at hv7; (first | have HB2 := hid (HB2.out.ext hx) | have HB2 := hid ((NB.new hcur.size).ext hx) | have HB2 := hid ((NB.newD hcur.size).ext hx) | skip); have hcur := Ext.step hcur (by first | exact hx | exact Ext.undrew hx | exact Ext.step ((Ext.rfl' _).alloc' _) hx | exact Ext.step ((Ext.rfl' _).drew'.alloc' _) hx); have HV7 := hid hv7; obtain ⟨A7, k7, c7, xs7, b7, rfl, -⟩ := hv7; (first | (have hyy := row_facts HB2.out.2; obtain ⟨y0, y1, y2, y3⟩ := hyy) | skip))
        | (go_at_call 29; refine (rfalls_any _ _ m X us ad k _ (fi, ft, 0) (HVK.out.ext ?_) hM (HV7.out.ext ?_) HXF (by omega) HFR2).mono ?_; (first | exact hcur | exact hcur.drew' | exact hcur.alloc' _ | exact hcur.drew'.alloc' _ | exact (hcur.alloc' _).drew'); (first | exact Ext.rfl' _ | exact (Ext.rfl' _).drew' | exact (Ext.rfl' _).alloc' _ | exact (Ext.rfl' _).drew'.alloc' _); rintro e w8 ⟨v8, rfl, ⟨P8, q8, c8, b8, rfl⟩, hv8, hx⟩; (first | have HB2 := hid (HB2.out.ext hx) | have HB2 := hid ((NB.new hcur.size).ext hx) | have HB2 := hid ((NB.newD hcur.size).ext hx) | skip); have hcur := Ext.step hcur (by first | exact hx | exact Ext.undrew hx | exact Ext.step ((Ext.rfl' _).alloc' _) hx | exact Ext.step ((Ext.rfl' _).drew'.alloc' _) hx); have HV8 := hid hv8; (first | (have hyy := row_facts HB2.out.2; obtain ⟨y0, y1, y2, y3⟩ := hyy) | skip)))
    all_goals
      go_wp2_with fail
      go_meet
      first
        | exact ⟨_, b8, P8, q8, c8, rfl, rfl, rfl, (HB2.out.2.set 0 _).set 1 _, fun h => (HV8.out h).elim fun y hy => ⟨y, hy.1.box HB2.out.2, hy.2⟩, (hcur.set' HB2.out.1 _).set' HB2.out.1 _⟩
        | exact ⟨_, b8, P8, q8, c8, rfl, rfl, rfl, Row.new _ _ [.bool b8, .slice P8 q8 c8], fun h => (HV8.out h).elim fun y hy => ⟨y, hy.1.ext ((Ext.rfl' _).alloc' _), hy.2⟩, hcur.alloc' _⟩
  case rest =>
    obtain ⟨g, b, P, q, c, rfl, rfl, rfl, hrow, hv, hex⟩ := hcut
    have HYX := hid (HY5.out.step hex)
    have HROW := hid hrow
    have HVV := hid hv
    clear hrow hv hex hcur
    obtain ⟨y, hy1, hy2, hy3⟩ := HVV.out rfl
    have VY := hid hy1
    have FY := hid hy2
    have TY := hid hy3
    obtain ⟨g0, g1, -, -⟩ := row_facts HROW.out
    clear hy1 hy2 hy3 HVV
    go_wp2_with fail
    refine (rtext_any _ y wc VY.out (fits_big FY.out)).mono ?_
    rintro e w20 ⟨rfl, hx⟩
    rw [← TY.out]
    have HY20 := hid (HYX.out.step hx)
    clear g0 g1 hx
    go_wp2_with fail
    refine (awake2_any w20 (HTT.out.ext HY20.out)).mono ?_
    rintro e wL ⟨rfl, hxL⟩
    have HL := hid (HX.out.step (HY20.out.step hxL))
    go_wp2
    go_ret
    exact ⟨rfl, HL.out⟩
theorem law_StepFalls (v : Value) (m : Int) (us ad : List Int) (s : List UInt8) (k : Int) (w : World) (hv : MapV w v m us ad) (h8 : Fit8 v) (hlen : s.length ≤ 140737488351232) (ht : Tab w) :
    Calls Tryz.prog 5 #[v, .string (Str s), .int .i64 k] w (TruePost w) := by
  cases hf : (mapB m us ad && K.validL s) with
  | false => exact fallsl_form v m us ad s k w hv h8 ht hlen (hid hf.symm)
  | true =>
    have h2 := hf
    rw [Bool.and_eq_true] at h2
    have hM := hid ((mapB_iff m us ad).1 h2.1)
    have hs := hid h2.2
    rcases Int.lt_or_le k 1 with h1 | h1
    · exact fallsl_low v m us ad s k w hv h8 ht hlen (hid hf.symm) hM hs h1
    · rcases Int.lt_or_le 20000 k with h3 | h3
      · exact fallsl_high v m us ad s k w hv h8 ht hlen (hid hf.symm) hM hs h1 h3
      · obtain ⟨n, rfl⟩ : ∃ n : Nat, k = n := ⟨k.toNat, by omega⟩
        rcases fall_cases (K.numL s) (seqO m us ad n (K.numL s)) 0 with ⟨-, g2⟩ | ⟨-, -, g3⟩ | ⟨j, y, -, -, -, -, g5⟩
        · exact fallsl_err v m us ad s n w hv h8 ht hlen (hid hf.symm) hM hs (by omega) (by omega) 0 3 _ (hid g2) rfl rfl rfl rfl
        · exact fallsl_err v m us ad s n w hv h8 ht hlen (hid hf.symm) hM hs (by omega) (by omega) 0 4 _ (hid g3) rfl rfl rfl rfl
        · exact fallsl_ok v m us ad s n w hv h8 ht hlen (hid hf.symm) hM hs (by omega) (by omega) _ 0 _ (hid g5) rfl
end Go.Proofs.YtflgkijmbpcnfaaGreatDoor
