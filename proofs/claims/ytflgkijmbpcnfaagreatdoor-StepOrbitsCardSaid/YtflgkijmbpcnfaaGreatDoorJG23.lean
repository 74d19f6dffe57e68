/- the law StepOrbits -/
import Derived.Test.YtflgkijmbpcnfaaGreatDoorJG15
import Derived.Test.YtflgkijmbpcnfaaGreatDoorJG22
import Derived.Test.YtflgkijmbpcnfaaGreatDoorJG17
import Derived.Test.YtflgkijmbpcnfaaGreatDoorJG13
import Derived.IntWalk
set_option linter.unusedSimpArgs false
set_option linter.unusedVariables false
namespace Go.Proofs.YtflgkijmbpcnfaaGreatDoor
open Go.RowKit
set_option maxRecDepth 100000 in
set_option maxHeartbeats 3200000 in
theorem orbits_form (v : Value) (m : Int) (us ad : List Int) (s : List UInt8) (k : Int) (w : World) (hv : MapV w v m us ad) (h8 : Fit8 v) (ht : Tab w) (hlen : s.length ≤ 140737488351232) (hb : Hid (false = (mapB m us ad && K.validL s))) :
    Calls Tryz.prog 4 #[v, .string (Str s), .int .i64 k] w (TruePost w) := by
  have HT := hid ht
  have HV := hid hv
  have H8 := hid h8
  obtain ⟨A, n, cc, B, n2, d, rfl, -⟩ := hv
  have hx : Ext w (w.alloc (.cells #[.int .i64 m, .slice A n cc, .slice B n2 d] 24)) := (Ext.rfl' w).alloc' _
  have hr : Row (w.alloc (.cells #[.int .i64 m, .slice A n cc, .slice B n2 d] 24)) w.heap.size 24 [.int .i64 m, .slice A n cc, .slice B n2 d] := Row.new w _ _
  obtain ⟨W1, hW1⟩ : ∃ W1, (w.alloc (.cells #[.int .i64 m, .slice A n cc, .slice B n2 d] 24)) = W1 := ⟨_, rfl⟩
  rw [hW1] at hx hr
  have HX := hid hx
  have HR := hid hr
  have HW1 := hid hW1
  obtain ⟨f0, f1, f2, -, -, -⟩ := row_facts3 hr
  have HTT : Hid (Tab W1) := hid (ht.ext hx)
  have HV1 := hid (HV.out.ext hx)
  clear hW1 hx hr h8
  go_enter Tryz.func4, Tryz.ntmps4
  go_upto_region 1 with fail
  rw [HW1.out]
  go_wp2_with fail
  refine (twin_any _ m us ad W1 HV1.out H8.out).mono ?_
  rintro e w2 ⟨v2, rfl, hv2, hx2⟩
  have hv2b := hv2
  obtain ⟨A2, l2, e2, B2, p2, g2, rfl, -⟩ := hv2
  have hx2b : Ext W1 (w2.alloc (.cells #[.int .i64 m, .slice A2 l2 e2, .slice B2 p2 g2] 24)) := hx2.alloc' _
  have hr2 : Row (w2.alloc (.cells #[.int .i64 m, .slice A2 l2 e2, .slice B2 p2 g2] 24)) w2.heap.size 24 [.int .i64 m, .slice A2 l2 e2, .slice B2 p2 g2] := Row.new w2 _ _
  have hv2c := hv2b.ext ((Ext.rfl' w2).alloc' (.cells #[.int .i64 m, .slice A2 l2 e2, .slice B2 p2 g2] 24))
  obtain ⟨W2, hW2⟩ : ∃ W2, (w2.alloc (.cells #[.int .i64 m, .slice A2 l2 e2, .slice B2 p2 g2] 24)) = W2 := ⟨_, rfl⟩
  rw [hW2] at hx2b hr2 hv2c
  have HX2 := hid hx2b
  have HR2 := hid hr2
  have HV2 := hid hv2c
  have HW2 := hid hW2
  have HY2 := HX2
  have HZ2 := hid (Ext.rfl' W2)
  clear f0 f1 f2 hx2 hx2b hr2 hv2b hv2c hW2
  obtain ⟨f0, f1, f2, -, -, -⟩ := row_facts3 (HR.out.ext HX2.out)
  go_upto_region 2 with fail
  rw [HW2.out]
  go_wp2_with fail
  refine (orbit_bad _ m us ad s k W2 (HV1.out.ext HY2.out) hlen (hid rfl) (hid rfl) (c := 1) (hid (by rw [if_neg (by intro h; have := hb.out; rw [h.1, h.2] at this; cases this)])) rfl).mono ?_
  rintro e w3 ⟨rfl, hx⟩
  have HY3 := hid (HY2.out.step hx)
  have HZ3 := hid (HZ2.out.step hx)
  clear f0 f1 f2 hx
  obtain ⟨f0, f1, f2, -, -, -⟩ := row_facts3 (HR.out.ext HY3.out)
  obtain ⟨t0, t1, t2, -, -, -⟩ := row_facts3 (HR2.out.ext HZ3.out)
  go_wp2_with fail
  refine (rsame_eq _ _ m us ad w3 (HV1.out.ext HY3.out) (HV2.out.ext HZ3.out)).mono ?_
  rintro e w4 ⟨rfl, hx⟩
  have HY4 := hid (HY3.out.step hx)
  clear f0 f1 f2 t0 t1 t2 hx
  obtain ⟨f0, f1, f2, -, -, -⟩ := row_facts3 (HR.out.ext HY4.out)
  go_wp2_with fail
  refine (formed_any _ m us ad s w4 (HV1.out.ext HY4.out) hlen (hid rfl) (hid rfl) hb).mono ?_
  rintro e w5 ⟨rfl, hx⟩
  have HY5 := hid (HY4.out.step hx)
  clear f0 f1 f2 hx
  go_wp2_with fail
  refine (awake2_any w5 (HTT.out.ext HY5.out)).mono ?_
  rintro e wL ⟨rfl, hxL⟩
  have HL := hid (HX.out.step (HY5.out.step hxL))
  go_wp2
  go_ret
  exact ⟨rfl, HL.out⟩
set_option maxRecDepth 100000 in
set_option maxHeartbeats 3200000 in
theorem orbits_low (v : Value) (m : Int) (us ad : List Int) (s : List UInt8) (k : Int) (w : World) (hv : MapV w v m us ad) (h8 : Fit8 v) (ht : Tab w) (hlen : s.length ≤ 140737488351232) (hb : Hid (true = (mapB m us ad && K.validL s))) (hM : Hid (mapP m us ad)) (hs : Hid (K.validL s = true)) (h1 : k < 0) :
    Calls Tryz.prog 4 #[v, .string (Str s), .int .i64 k] w (TruePost w) := by
  have HT := hid ht
  have HV := hid hv
  have H8 := hid h8
  obtain ⟨A, n, cc, B, n2, d, rfl, -⟩ := hv
  have hx : Ext w (w.alloc (.cells #[.int .i64 m, .slice A n cc, .slice B n2 d] 24)) := (Ext.rfl' w).alloc' _
  have hr : Row (w.alloc (.cells #[.int .i64 m, .slice A n cc, .slice B n2 d] 24)) w.heap.size 24 [.int .i64 m, .slice A n cc, .slice B n2 d] := Row.new w _ _
  obtain ⟨W1, hW1⟩ : ∃ W1, (w.alloc (.cells #[.int .i64 m, .slice A n cc, .slice B n2 d] 24)) = W1 := ⟨_, rfl⟩
  rw [hW1] at hx hr
  have HX := hid hx
  have HR := hid hr
  have HW1 := hid hW1
  obtain ⟨f0, f1, f2, -, -, -⟩ := row_facts3 hr
  have HTT : Hid (Tab W1) := hid (ht.ext hx)
  have HV1 := hid (HV.out.ext hx)
  clear hW1 hx hr h8
  go_enter Tryz.func4, Tryz.ntmps4
  go_upto_region 1 with fail
  rw [HW1.out]
  go_wp2_with fail
  refine (twin_any _ m us ad W1 HV1.out H8.out).mono ?_
  rintro e w2 ⟨v2, rfl, hv2, hx2⟩
  have hv2b := hv2
  obtain ⟨A2, l2, e2, B2, p2, g2, rfl, -⟩ := hv2
  have hx2b : Ext W1 (w2.alloc (.cells #[.int .i64 m, .slice A2 l2 e2, .slice B2 p2 g2] 24)) := hx2.alloc' _
  have hr2 : Row (w2.alloc (.cells #[.int .i64 m, .slice A2 l2 e2, .slice B2 p2 g2] 24)) w2.heap.size 24 [.int .i64 m, .slice A2 l2 e2, .slice B2 p2 g2] := Row.new w2 _ _
  have hv2c := hv2b.ext ((Ext.rfl' w2).alloc' (.cells #[.int .i64 m, .slice A2 l2 e2, .slice B2 p2 g2] 24))
  obtain ⟨W2, hW2⟩ : ∃ W2, (w2.alloc (.cells #[.int .i64 m, .slice A2 l2 e2, .slice B2 p2 g2] 24)) = W2 := ⟨_, rfl⟩
  rw [hW2] at hx2b hr2 hv2c
  have HX2 := hid hx2b
  have HR2 := hid hr2
  have HV2 := hid hv2c
  have HW2 := hid hW2
  have HY2 := HX2
  have HZ2 := hid (Ext.rfl' W2)
  clear f0 f1 f2 hx2 hx2b hr2 hv2b hv2c hW2
  obtain ⟨f0, f1, f2, -, -, -⟩ := row_facts3 (HR.out.ext HX2.out)
  go_upto_region 2 with fail
  rw [HW2.out]
  go_wp2_with fail
  refine (orbit_bad _ m us ad s k W2 (HV1.out.ext HY2.out) hlen (hid ((mapB_iff m us ad).2 hM.out)) hs (c := 2) (hid (by rw [if_pos ⟨rfl, rfl⟩, if_pos (by first | exact .inl h1 | exact .inr h1)])) rfl).mono ?_
  rintro e w3 ⟨rfl, hx⟩
  have HY3 := hid (HY2.out.step hx)
  have HZ3 := hid (HZ2.out.step hx)
  clear f0 f1 f2 hx
  obtain ⟨f0, f1, f2, -, -, -⟩ := row_facts3 (HR.out.ext HY3.out)
  obtain ⟨t0, t1, t2, -, -, -⟩ := row_facts3 (HR2.out.ext HZ3.out)
  go_wp2_with fail
  refine (rsame_eq _ _ m us ad w3 (HV1.out.ext HY3.out) (HV2.out.ext HZ3.out)).mono ?_
  rintro e w4 ⟨rfl, hx⟩
  have HY4 := hid (HY3.out.step hx)
  clear f0 f1 f2 t0 t1 t2 hx
  obtain ⟨f0, f1, f2, -, -, -⟩ := row_facts3 (HR.out.ext HY4.out)
  go_wp2_with fail
  refine (formed_any _ m us ad s w4 (HV1.out.ext HY4.out) hlen (hid rfl) (hid rfl) hb).mono ?_
  rintro e w5 ⟨rfl, hx⟩
  have HY5 := hid (HY4.out.step hx)
  clear f0 f1 f2 hx
  go_wp2_with fail
  refine (awake2_any w5 (HTT.out.ext HY5.out)).mono ?_
  rintro e wL ⟨rfl, hxL⟩
  have HL := hid (HX.out.step (HY5.out.step hxL))
  go_wp2
  go_ret
  exact ⟨rfl, HL.out⟩
set_option maxRecDepth 100000 in
set_option maxHeartbeats 3200000 in
theorem orbits_high (v : Value) (m : Int) (us ad : List Int) (s : List UInt8) (k : Int) (w : World) (hv : MapV w v m us ad) (h8 : Fit8 v) (ht : Tab w) (hlen : s.length ≤ 140737488351232) (hb : Hid (true = (mapB m us ad && K.validL s))) (hM : Hid (mapP m us ad)) (hs : Hid (K.validL s = true)) (h0 : 0 ≤ k) (h1 : 1000 < k) :
    Calls Tryz.prog 4 #[v, .string (Str s), .int .i64 k] w (TruePost w) := by
  have HT := hid ht
  have HV := hid hv
  have H8 := hid h8
  obtain ⟨A, n, cc, B, n2, d, rfl, -⟩ := hv
  have hx : Ext w (w.alloc (.cells #[.int .i64 m, .slice A n cc, .slice B n2 d] 24)) := (Ext.rfl' w).alloc' _
  have hr : Row (w.alloc (.cells #[.int .i64 m, .slice A n cc, .slice B n2 d] 24)) w.heap.size 24 [.int .i64 m, .slice A n cc, .slice B n2 d] := Row.new w _ _
  obtain ⟨W1, hW1⟩ : ∃ W1, (w.alloc (.cells #[.int .i64 m, .slice A n cc, .slice B n2 d] 24)) = W1 := ⟨_, rfl⟩
  rw [hW1] at hx hr
  have HX := hid hx
  have HR := hid hr
  have HW1 := hid hW1
  obtain ⟨f0, f1, f2, -, -, -⟩ := row_facts3 hr
  have HTT : Hid (Tab W1) := hid (ht.ext hx)
  have HV1 := hid (HV.out.ext hx)
  clear hW1 hx hr h8
  go_enter Tryz.func4, Tryz.ntmps4
  go_upto_region 1 with fail
  rw [HW1.out]
  go_wp2_with fail
  refine (twin_any _ m us ad W1 HV1.out H8.out).mono ?_
  rintro e w2 ⟨v2, rfl, hv2, hx2⟩
  have hv2b := hv2
  obtain ⟨A2, l2, e2, B2, p2, g2, rfl, -⟩ := hv2
  have hx2b : Ext W1 (w2.alloc (.cells #[.int .i64 m, .slice A2 l2 e2, .slice B2 p2 g2] 24)) := hx2.alloc' _
  have hr2 : Row (w2.alloc (.cells #[.int .i64 m, .slice A2 l2 e2, .slice B2 p2 g2] 24)) w2.heap.size 24 [.int .i64 m, .slice A2 l2 e2, .slice B2 p2 g2] := Row.new w2 _ _
  have hv2c := hv2b.ext ((Ext.rfl' w2).alloc' (.cells #[.int .i64 m, .slice A2 l2 e2, .slice B2 p2 g2] 24))
  obtain ⟨W2, hW2⟩ : ∃ W2, (w2.alloc (.cells #[.int .i64 m, .slice A2 l2 e2, .slice B2 p2 g2] 24)) = W2 := ⟨_, rfl⟩
  rw [hW2] at hx2b hr2 hv2c
  have HX2 := hid hx2b
  have HR2 := hid hr2
  have HV2 := hid hv2c
  have HW2 := hid hW2
  have HY2 := HX2
  have HZ2 := hid (Ext.rfl' W2)
  clear f0 f1 f2 hx2 hx2b hr2 hv2b hv2c hW2
  obtain ⟨f0, f1, f2, -, -, -⟩ := row_facts3 (HR.out.ext HX2.out)
  go_upto_region 2 with fail
  rw [HW2.out]
  go_wp2_with fail
  refine (orbit_bad _ m us ad s k W2 (HV1.out.ext HY2.out) hlen (hid ((mapB_iff m us ad).2 hM.out)) hs (c := 2) (hid (by rw [if_pos ⟨rfl, rfl⟩, if_pos (by first | exact .inl h1 | exact .inr h1)])) rfl).mono ?_
  rintro e w3 ⟨rfl, hx⟩
  have HY3 := hid (HY2.out.step hx)
  have HZ3 := hid (HZ2.out.step hx)
  clear f0 f1 f2 hx
  obtain ⟨f0, f1, f2, -, -, -⟩ := row_facts3 (HR.out.ext HY3.out)
  obtain ⟨t0, t1, t2, -, -, -⟩ := row_facts3 (HR2.out.ext HZ3.out)
  go_wp2_with fail
  refine (rsame_eq _ _ m us ad w3 (HV1.out.ext HY3.out) (HV2.out.ext HZ3.out)).mono ?_
  rintro e w4 ⟨rfl, hx⟩
  have HY4 := hid (HY3.out.step hx)
  clear f0 f1 f2 t0 t1 t2 hx
  obtain ⟨f0, f1, f2, -, -, -⟩ := row_facts3 (HR.out.ext HY4.out)
  go_wp2_with fail
  refine (formed_any _ m us ad s w4 (HV1.out.ext HY4.out) hlen (hid rfl) (hid rfl) hb).mono ?_
  rintro e w5 ⟨rfl, hx⟩
  have HY5 := hid (HY4.out.step hx)
  clear f0 f1 f2 hx
  go_wp2_with fail
  refine (awake2_any w5 (HTT.out.ext HY5.out)).mono ?_
  rintro e wL ⟨rfl, hxL⟩
  have HL := hid (HX.out.step (HY5.out.step hxL))
  go_wp2
  go_ret
  exact ⟨rfl, HL.out⟩
set_option maxRecDepth 100000 in
set_option maxHeartbeats 6400000 in
theorem orbits_size (v : Value) (m : Int) (us ad : List Int) (s : List UInt8) (k : Nat) (w : World) (hv : MapV w v m us ad) (h8 : Fit8 v) (ht : Tab w) (hlen : s.length ≤ 140737488351232) (hb : Hid (true = (mapB m us ad && K.validL s))) (hM : Hid (mapP m us ad)) (hs : Hid (K.validL s = true)) (hk : k ≤ 1000) (HN : Hid (none ∈ seqO m us ad k (K.numL s))) :
    Calls Tryz.prog 4 #[v, .string (Str s), .int .i64 (k : Int)] w (TruePost w) := by
  obtain ⟨X, HX0⟩ : ∃ X, Hid (K.numL s = X) := ⟨_, hid rfl⟩
  have HXF : Hid (K.fits X) := hid (by rw [← HX0.out]; exact (K.txt_numL s hs.out).2)
  have q0 : (0 : Int) ≤ (k : Int) := by omega
  have q1 : (k : Int) ≤ 1000 := by omega
  have HN2 : Hid (runO m us ad k X = none) := hid (by rw [← HX0.out]; exact (seq_run m us ad k (K.numL s)).2 HN.out)
  have HT := hid ht
  have HV := hid hv
  have H8 := hid h8
  obtain ⟨A, n, cc, B, n2, d, rfl, -⟩ := hv
  have hx : Ext w (w.alloc (.cells #[.int .i64 m, .slice A n cc, .slice B n2 d] 24)) := (Ext.rfl' w).alloc' _
  have hr : Row (w.alloc (.cells #[.int .i64 m, .slice A n cc, .slice B n2 d] 24)) w.heap.size 24 [.int .i64 m, .slice A n cc, .slice B n2 d] := Row.new w _ _
  obtain ⟨W1, hW1⟩ : ∃ W1, (w.alloc (.cells #[.int .i64 m, .slice A n cc, .slice B n2 d] 24)) = W1 := ⟨_, rfl⟩
  rw [hW1] at hx hr
  have HX := hid hx
  have HR := hid hr
  have HW1 := hid hW1
  obtain ⟨f0, f1, f2, -, -, -⟩ := row_facts3 hr
  have HTT : Hid (Tab W1) := hid (ht.ext hx)
  have HV1 := hid (HV.out.ext hx)
  clear hW1 hx hr h8
  go_enter Tryz.func4, Tryz.ntmps4
  go_upto_region 1 with fail
  rw [HW1.out]
  go_wp2_with fail
  refine (twin_any _ m us ad W1 HV1.out H8.out).mono ?_
  rintro e w2 ⟨v2, rfl, hv2, hx2⟩
  have hv2b := hv2
  obtain ⟨A2, l2, e2, B2, p2, g2, rfl, -⟩ := hv2
  have hx2b : Ext W1 (w2.alloc (.cells #[.int .i64 m, .slice A2 l2 e2, .slice B2 p2 g2] 24)) := hx2.alloc' _
  have hr2 : Row (w2.alloc (.cells #[.int .i64 m, .slice A2 l2 e2, .slice B2 p2 g2] 24)) w2.heap.size 24 [.int .i64 m, .slice A2 l2 e2, .slice B2 p2 g2] := Row.new w2 _ _
  have hv2c := hv2b.ext ((Ext.rfl' w2).alloc' (.cells #[.int .i64 m, .slice A2 l2 e2, .slice B2 p2 g2] 24))
  obtain ⟨W2, hW2⟩ : ∃ W2, (w2.alloc (.cells #[.int .i64 m, .slice A2 l2 e2, .slice B2 p2 g2] 24)) = W2 := ⟨_, rfl⟩
  rw [hW2] at hx2b hr2 hv2c
  have HX2 := hid hx2b
  have HR2 := hid hr2
  have HV2 := hid hv2c
  have HW2 := hid hW2
  have HY2 := HX2
  have HZ2 := hid (Ext.rfl' W2)
  clear f0 f1 f2 hx2 hx2b hr2 hv2b hv2c hW2
  obtain ⟨f0, f1, f2, -, -, -⟩ := row_facts3 (HR.out.ext HX2.out)
  go_upto_region 2 with fail
  rw [HW2.out]
  go_wp2_with fail
  refine (orbit_no _ m us ad s k W2 (HV1.out.ext HY2.out) hM hs hk (HTT.out.ext HY2.out) HN).mono ?_
  rintro e w3 ⟨rfl, hx⟩
  have HY3 := hid (HY2.out.step hx)
  have HZ3 := hid (HZ2.out.step hx)
  clear f0 f1 f2 hx
  obtain ⟨f0, f1, f2, -, -, -⟩ := row_facts3 (HR.out.ext HY3.out)
  obtain ⟨t0, t1, t2, -, -, -⟩ := row_facts3 (HR2.out.ext HZ3.out)
  go_wp2_with fail
  refine (rsame_eq _ _ m us ad w3 (HV1.out.ext HY3.out) (HV2.out.ext HZ3.out)).mono ?_
  rintro e w4 ⟨rfl, hx⟩
  have HY4 := hid (HY3.out.step hx)
  clear f0 f1 f2 t0 t1 t2 hx
  obtain ⟨f0, f1, f2, -, -, -⟩ := row_facts3 (HR.out.ext HY4.out)
  go_wp2_with fail
  refine (formed_any _ m us ad s w4 (HV1.out.ext HY4.out) hlen (hid rfl) (hid rfl) hb).mono ?_
  rintro e w5 ⟨rfl, hx⟩
  have HY5 := hid (HY4.out.step hx)
  clear f0 f1 f2 hx
  have HRW := hid (HR.out.ext HY5.out)
  have HS : Hid (∀ W', Ext w5 W' → W'.cell? ⟨w.heap.size, 0, none⟩ = some (.int .i64 m) ∧ W'.cell? ⟨w.heap.size, 1, none⟩ = some (.slice A n cc) ∧ W'.cell? ⟨w.heap.size, 2, none⟩ = some (.slice B n2 d)) := hid (by
    intro W' e
    obtain ⟨p0, p1, p2, -, -, -⟩ := row_facts3 (HRW.out.ext e)
    exact ⟨p0, p1, p2⟩)
  have HVK := hid (HV1.out.ext HY5.out)
  have hcur : Ext w5 w5 := Ext.rfl' _
  go_upto_region 9 with fail
  go_region_held3 (fun W' => W'.cell? ⟨w.heap.size, 0, none⟩ = some (.int .i64 m) ∧ W'.cell? ⟨w.heap.size, 1, none⟩ = some (.slice A n cc) ∧ W'.cell? ⟨w.heap.size, 2, none⟩ = some (.slice B n2 d))
    (first | exact HS.out _ hcur | exact HS.out _ hcur.drew' | exact HS.out _ (hcur.alloc' _) | exact HS.out _ (hcur.drew'.alloc' _) | exact HS.out _ ((hcur.set' HB2.out.1 _).set' HB2.out.1 _) | go_keep)
    (first
      | (go_at_call 20; refine (parse_any s _ hs.out).mono ?_; rintro e w7 ⟨v7, rfl, hv7, hx⟩; rw [HX0.out] at hv7; have hcur := Ext.step hcur (by first | exact hx | exact Ext.undrew hx | exact Ext.step ((Ext.rfl' _).alloc' _) hx | exact Ext.step ((Ext.rfl' _).drew'.alloc' _) hx); have HV7 := hid hv7; obtain ⟨A7, k7, c7, xs7, b7, rfl, -⟩ := hv7)
      | (go_at_call 26; refine (rorbit_any _ _ m X us ad k _ (HVK.out.ext ?_) hM (HV7.out.ext ?_) HXF hk).mono ?_; (first | exact hcur | exact hcur.drew' | exact hcur.alloc' _ | exact hcur.drew'.alloc' _ | exact (hcur.alloc' _).drew'); (first | exact Ext.rfl' _ | exact (Ext.rfl' _).drew' | exact (Ext.rfl' _).alloc' _ | exact (Ext.rfl' _).drew'.alloc' _); rintro e w8 ⟨j, z, ns, zs, g, cap, rfl, hjk, hjc, hrd, hns, hoa, hend, hx⟩; have hcur := Ext.step hcur (by first | exact hx | exact Ext.undrew hx | exact Ext.step ((Ext.rfl' _).alloc' _) hx | exact Ext.step ((Ext.rfl' _).drew'.alloc' _) hx); have HEND := hid hend; have HRD := hid hrd; have HNS := hid hns; have HOA := hid hoa; clear hend hrd hns hoa))
  all_goals
    have HZF : Hid (¬ K.fits z) := hid (by
      rcases HEND.out with ⟨-, -, h⟩ | ⟨h, -⟩
      · rw [HN2.out] at h; cases h
      · exact h)
    have HZB : Hid (z.natAbs ≤ BIG) := hid (HOA.out.2.2.2 z (by rw [HOA.out.2.1]; exact List.mem_of_getElem? (HOA.out.2.2.1 j (Nat.le_refl _))))
    obtain ⟨bz, Pz, qz, cz, hbx, hbv⟩ := HNS.out.2 j z (by rw [HOA.out.2.1]; exact HOA.out.2.2.1 j (Nat.le_refl _))
    have HBV := hid hbv
    have hcc := NL_at ns j bz Pz qz cz hbx
    have hc0 : w8.cell? ⟨g, j * 2, none⟩ = some (.bool bz) := by have h := rd_at HRD.out hcc.1; rwa [Nat.zero_add, Nat.mul_comm] at h
    have hc1 : w8.cell? ⟨g, j * 2 + 1, none⟩ = some (.slice Pz qz cz) := by have h := rd_at HRD.out hcc.2; rwa [Nat.zero_add, Nat.mul_comm] at h
    have hj1 : IntKind.i64.wrap ((j : Int) + 1 - 1) = (j : Int) := by rw [Int.add_sub_cancel]; exact IntWalk.i64_in _ (by omega)
    have HYX := hid (HY5.out.step hcur)
    clear hbv hcc hbx
    go_wp2_with fail
    refine (rfits_any _ z _ HBV.out HZB.out false (hid ⟨fun h => Bool.noConfusion h, fun h => absurd h HZF.out⟩)).mono ?_
    rintro e w20 ⟨rfl, hx⟩
    have HY20 := hid (HYX.out.step (by first | exact hx | exact Ext.undrew hx))
    clear hc0 hc1 hx hcur
    go_wp2_with fail
    refine (awake2_any w20 (HTT.out.ext HY20.out)).mono ?_
    rintro e wL ⟨rfl, hxL⟩
    have HL := hid (HX.out.step (HY20.out.step hxL))
    go_wp2
    go_ret
    exact ⟨rfl, HL.out⟩
set_option maxRecDepth 100000 in
set_option maxHeartbeats 6400000 in
theorem orbits_fine (v : Value) (m : Int) (us ad : List Int) (s : List UInt8) (k : Nat) (w : World) (hv : MapV w v m us ad) (h8 : Fit8 v) (ht : Tab w) (hlen : s.length ≤ 140737488351232) (hb : Hid (true = (mapB m us ad && K.validL s))) (hM : Hid (mapP m us ad)) (hs : Hid (K.validL s = true)) (hk : k ≤ 1000) (HN : Hid (none ∉ seqO m us ad k (K.numL s))) :
    Calls Tryz.prog 4 #[v, .string (Str s), .int .i64 (k : Int)] w (TruePost w) := by
  obtain ⟨X, HX0⟩ : ∃ X, Hid (K.numL s = X) := ⟨_, hid rfl⟩
  have HXF : Hid (K.fits X) := hid (by rw [← HX0.out]; exact (K.txt_numL s hs.out).2)
  have q0 : (0 : Int) ≤ (k : Int) := by omega
  have q1 : (k : Int) ≤ 1000 := by omega
  have HNX : Hid (none ∉ seqO m us ad k X) := hid (by rw [← HX0.out]; exact HN.out)
  have HN2 : Hid (∃ y, runO m us ad k X = some y) := hid ⟨_, (seq_run m us ad k X).1 HNX.out⟩
  have HT := hid ht
  have HV := hid hv
  have H8 := hid h8
  obtain ⟨A, n, cc, B, n2, d, rfl, -⟩ := hv
  have hx : Ext w (w.alloc (.cells #[.int .i64 m, .slice A n cc, .slice B n2 d] 24)) := (Ext.rfl' w).alloc' _
  have hr : Row (w.alloc (.cells #[.int .i64 m, .slice A n cc, .slice B n2 d] 24)) w.heap.size 24 [.int .i64 m, .slice A n cc, .slice B n2 d] := Row.new w _ _
  obtain ⟨W1, hW1⟩ : ∃ W1, (w.alloc (.cells #[.int .i64 m, .slice A n cc, .slice B n2 d] 24)) = W1 := ⟨_, rfl⟩
  rw [hW1] at hx hr
  have HX := hid hx
  have HR := hid hr
  have HW1 := hid hW1
  obtain ⟨f0, f1, f2, -, -, -⟩ := row_facts3 hr
  have HTT : Hid (Tab W1) := hid (ht.ext hx)
  have HV1 := hid (HV.out.ext hx)
  clear hW1 hx hr h8
  go_enter Tryz.func4, Tryz.ntmps4
  go_upto_region 1 with fail
  rw [HW1.out]
  go_wp2_with fail
  refine (twin_any _ m us ad W1 HV1.out H8.out).mono ?_
  rintro e w2 ⟨v2, rfl, hv2, hx2⟩
  have hv2b := hv2
  obtain ⟨A2, l2, e2, B2, p2, g2, rfl, -⟩ := hv2
  have hx2b : Ext W1 (w2.alloc (.cells #[.int .i64 m, .slice A2 l2 e2, .slice B2 p2 g2] 24)) := hx2.alloc' _
  have hr2 : Row (w2.alloc (.cells #[.int .i64 m, .slice A2 l2 e2, .slice B2 p2 g2] 24)) w2.heap.size 24 [.int .i64 m, .slice A2 l2 e2, .slice B2 p2 g2] := Row.new w2 _ _
  have hv2c := hv2b.ext ((Ext.rfl' w2).alloc' (.cells #[.int .i64 m, .slice A2 l2 e2, .slice B2 p2 g2] 24))
  obtain ⟨W2, hW2⟩ : ∃ W2, (w2.alloc (.cells #[.int .i64 m, .slice A2 l2 e2, .slice B2 p2 g2] 24)) = W2 := ⟨_, rfl⟩
  rw [hW2] at hx2b hr2 hv2c
  have HX2 := hid hx2b
  have HR2 := hid hr2
  have HV2 := hid hv2c
  have HW2 := hid hW2
  have HY2 := HX2
  have HZ2 := hid (Ext.rfl' W2)
  clear f0 f1 f2 hx2 hx2b hr2 hv2b hv2c hW2
  obtain ⟨f0, f1, f2, -, -, -⟩ := row_facts3 (HR.out.ext HX2.out)
  go_upto_region 2 with fail
  rw [HW2.out]
  go_wp2_with fail
  refine (orbit_at _ m us ad s k W2 (HV1.out.ext HY2.out) hM hs hk (HTT.out.ext HY2.out) HN).mono ?_
  rintro e w3 ⟨bl, ol, cl, rfl, hcl, HRL, hx⟩
  rw [HX0.out] at HRL
  have HY3 := hid (HY2.out.step hx)
  have HZ3 := hid (HZ2.out.step hx)
  clear f0 f1 f2 hx
  obtain ⟨f0, f1, f2, -, -, -⟩ := row_facts3 (HR.out.ext HY3.out)
  obtain ⟨t0, t1, t2, -, -, -⟩ := row_facts3 (HR2.out.ext HZ3.out)
  go_wp2_with fail
  refine (rsame_eq _ _ m us ad w3 (HV1.out.ext HY3.out) (HV2.out.ext HZ3.out)).mono ?_
  rintro e w4 ⟨rfl, hx⟩
  have HY4 := hid (HY3.out.step hx)
  have HRL := hid (HRL.out.ext hx)
  clear f0 f1 f2 t0 t1 t2 hx
  obtain ⟨f0, f1, f2, -, -, -⟩ := row_facts3 (HR.out.ext HY4.out)
  go_wp2_with fail
  refine (formed_any _ m us ad s w4 (HV1.out.ext HY4.out) hlen (hid rfl) (hid rfl) hb).mono ?_
  rintro e w5 ⟨rfl, hx⟩
  have HY5 := hid (HY4.out.step hx)
  have HRL := hid (HRL.out.ext hx)
  clear f0 f1 f2 hx
  have HRW := hid (HR.out.ext HY5.out)
  have HS : Hid (∀ W', Ext w5 W' → W'.cell? ⟨w.heap.size, 0, none⟩ = some (.int .i64 m) ∧ W'.cell? ⟨w.heap.size, 1, none⟩ = some (.slice A n cc) ∧ W'.cell? ⟨w.heap.size, 2, none⟩ = some (.slice B n2 d)) := hid (by
    intro W' e
    obtain ⟨p0, p1, p2, -, -, -⟩ := row_facts3 (HRW.out.ext e)
    exact ⟨p0, p1, p2⟩)
  have HVK := hid (HV1.out.ext HY5.out)
  have hcur : Ext w5 w5 := Ext.rfl' _
  go_upto_region 9 with fail
  go_region_held3 (fun W' => W'.cell? ⟨w.heap.size, 0, none⟩ = some (.int .i64 m) ∧ W'.cell? ⟨w.heap.size, 1, none⟩ = some (.slice A n cc) ∧ W'.cell? ⟨w.heap.size, 2, none⟩ = some (.slice B n2 d))
    (first | exact HS.out _ hcur | exact HS.out _ hcur.drew' | exact HS.out _ (hcur.alloc' _) | exact HS.out _ (hcur.drew'.alloc' _) | exact HS.out _ ((hcur.set' HB2.out.1 _).set' HB2.out.1 _) | go_keep)
    (first
      | (go_at_call 20; refine (parse_any s _ hs.out).mono ?_; rintro e w7 ⟨v7, rfl, hv7, hx⟩; rw [HX0.out] at hv7; have hcur := Ext.step hcur (by first | exact hx | exact Ext.undrew hx | exact Ext.step ((Ext.rfl' _).alloc' _) hx | exact Ext.step ((Ext.rfl' _).drew'.alloc' _) hx); have HV7 := hid hv7; obtain ⟨A7, k7, c7, xs7, b7, rfl, -⟩ := hv7)
      | (go_at_call 26; refine (rorbit_any _ _ m X us ad k _ (HVK.out.ext ?_) hM (HV7.out.ext ?_) HXF hk).mono ?_; (first | exact hcur | exact hcur.drew' | exact hcur.alloc' _ | exact hcur.drew'.alloc' _ | exact (hcur.alloc' _).drew'); (first | exact Ext.rfl' _ | exact (Ext.rfl' _).drew' | exact (Ext.rfl' _).alloc' _ | exact (Ext.rfl' _).drew'.alloc' _); rintro e w8 ⟨j, z, ns, zs, g, cap, rfl, hjk, hjc, hrd, hns, hoa, hend, hx⟩; have hcur := Ext.step hcur (by first | exact hx | exact Ext.undrew hx | exact Ext.step ((Ext.rfl' _).alloc' _) hx | exact Ext.step ((Ext.rfl' _).drew'.alloc' _) hx); have HEND := hid hend; have HRD := hid hrd; have HNS := hid hns; have HOA := hid hoa; clear hend hrd hns hoa))
  all_goals
    have HZF : Hid (K.fits z ∧ j = k) := hid (by
      rcases HEND.out with ⟨h1, h2, -⟩ | ⟨-, h⟩
      · exact ⟨h1, h2⟩
      · obtain ⟨y, hy⟩ := HN2.out
        rw [hy] at h; cases h)
    obtain rfl : k = j := HZF.out.2.symm
    have HZB : Hid (z.natAbs ≤ BIG) := hid (fits_big HZF.out.1)
    obtain ⟨bz, Pz, qz, cz, hbx, hbv⟩ := HNS.out.2 k z (by rw [HOA.out.2.1]; exact HOA.out.2.2.1 k (Nat.le_refl _))
    have HBV := hid hbv
    have hcc := NL_at ns k bz Pz qz cz hbx
    have hc0 : w8.cell? ⟨g, k * 2, none⟩ = some (.bool bz) := by have h := rd_at HRD.out hcc.1; rwa [Nat.zero_add, Nat.mul_comm] at h
    have hc1 : w8.cell? ⟨g, k * 2 + 1, none⟩ = some (.slice Pz qz cz) := by have h := rd_at HRD.out hcc.2; rwa [Nat.zero_add, Nat.mul_comm] at h
    have hj1 : IntKind.i64.wrap ((k : Int) + 1 - 1) = (k : Int) := by rw [Int.add_sub_cancel]; exact IntWalk.i64_in _ (by omega)
    have HYX := hid (HY5.out.step hcur)
    have HRL := hid (HRL.out.ext hcur)
    clear hbv hcc hbx
    go_wp2_with fail
    refine (rfits_any _ z _ HBV.out HZB.out true (hid ⟨fun _ => HZF.out.1, fun _ => rfl⟩)).mono ?_
    rintro e w20 ⟨rfl, hx⟩
    have HX20 := hid (by first | exact hx | exact Ext.undrew hx)
    have HY20 := hid (HYX.out.step HX20.out)
    have HRD20 := hid (HRD.out.ext HX20.out)
    have HNS20 := hid (HNS.out.ext HX20.out)
    have HRL20 := hid (HRL.out.ext HX20.out)
    clear hc0 hc1 hx hcur hj1
    go_wp2_with fail
    go_loopw [11] (fun iz wr => ∃ j : Nat, j ≤ k + 1 ∧ iz = .int .i64 (j : Int) ∧ Ext w20 wr) (fun iz _ => k + 1 - (intOf iz).toNat)
    case atStart => exact ⟨0, by omega, rfl, Ext.rfl' _⟩
    case round =>
      obtain ⟨j, hj, rfl, hex⟩ := hrel
      by_cases hlt1 : j < k + 1
      · have hjk2 : (j : Int) < (k : Int) + 1 := by omega
        obtain ⟨t, hst, hvt, hnt, hzb, hit⟩ := item_orb HNX.out HXF.out j hlt1
        obtain ⟨bj, Pj, qj, cj, hbx, hbv⟩ := HNS20.out.2 j (orbN m us ad j X) (HOA.out.2.2.1 j (by omega))
        have HTX : Hid (K.txt (orbN m us ad j X) = t) := hid (by rw [← hnt]; exact (K.txt_numL t hvt).1)
        have HBJ := hid (hbv.ext hex)
        have HZJ := hid hzb
        have hcc := NL_at ns j bj Pj qj cj hbx
        have HCS : Hid (∀ W', Ext wr W' → W'.cell? ⟨bl, ol + j, none⟩ = some (.string (Str t)) ∧ W'.cell? ⟨g, j * 2, none⟩ = some (.bool bj) ∧ W'.cell? ⟨g, j * 2 + 1, none⟩ = some (.slice Pj qj cj)) := hid (fun W' e => by
          refine ⟨cell_item (HRL20.out.ext (hex.step e)) hit hst, ?_, ?_⟩
          · have := rd_at (HRD20.out.ext (hex.step e)) hcc.1
            rwa [Nat.zero_add, Nat.mul_comm] at this
          · have := rd_at (HRD20.out.ext (hex.step e)) hcc.2
            rwa [Nat.zero_add, Nat.mul_comm] at this)
        have HEX := hid hex
        have hcur : Ext wr wr := Ext.rfl' _
        have htt : ((Str t).toList == (Str t).toList) = true := by simp
        have htn : ((Str t).toList != (Str t).toList) = false := by simp
        clear hst hvt hnt hit hbv hcc hbx hzb hex
        go_wp2_with fail
        go_region_held3 (fun W' => W'.cell? ⟨bl, ol + j, none⟩ = some (.string (Str t)) ∧ W'.cell? ⟨g, j * 2, none⟩ = some (.bool bj) ∧ W'.cell? ⟨g, j * 2 + 1, none⟩ = some (.slice Pj qj cj))
          (first | exact HCS.out _ hcur | exact HCS.out _ hcur.drew' | exact HCS.out _ (hcur.alloc' _) | exact HCS.out _ (hcur.drew'.alloc' _) | exact HCS.out _ ((hcur.set' HB2.out.1 _).set' HB2.out.1 _) | go_keep)
          (first
            | (go_at_call 24; refine (rtext_any _ (orbN m us ad j X) _ (HBJ.out.ext ?_) HZJ.out).mono ?_; (first | exact hcur | exact hcur.drew' | exact hcur.alloc' _ | exact hcur.drew'.alloc' _ | exact (hcur.alloc' _).drew'); rintro e w30 ⟨rfl, hx⟩; rw [HTX.out]; have hcur := Ext.step hcur (by first | exact hx | exact Ext.undrew hx | exact Ext.step ((Ext.rfl' _).alloc' _) hx | exact Ext.step ((Ext.rfl' _).drew'.alloc' _) hx)))
        all_goals
          have HCU := hid (HEX.out.step hcur)
          clear hcur
          go_wp2
          go_roundw
          case rel => exact ⟨j + 1, by omega, by simp, by first | exact HCU.out | exact HCU.out.drew'⟩
          case measure => first | (simp [intOf]; done) | (simp [intOf]; omega)
      · obtain rfl : j = k + 1 := by omega
        have HYW := hid (HY20.out.step hex)
        clear hex
        go_wp2_with fail
        refine (awake2_any wr (HTT.out.ext HYW.out)).mono ?_
        rintro e wL ⟨rfl, hxL⟩
        have HL := hid (HX.out.step (HYW.out.step hxL))
        go_wp2
        go_ret
        exact ⟨rfl, HL.out⟩
theorem law_StepOrbits (v : Value) (m : Int) (us ad : List Int) (s : List UInt8) (k : Int) (w : World) (hv : MapV w v m us ad) (h8 : Fit8 v) (hlen : s.length ≤ 140737488351232) (ht : Tab w) :
    Calls Tryz.prog 4 #[v, .string (Str s), .int .i64 k] w (TruePost w) := by
  cases hf : (mapB m us ad && K.validL s) with
  | false => exact orbits_form v m us ad s k w hv h8 ht hlen (hid hf.symm)
  | true =>
    have h2 := hf
    rw [Bool.and_eq_true] at h2
    have hM := hid ((mapB_iff m us ad).1 h2.1)
    have hs := hid h2.2
    rcases Int.lt_or_le k 0 with h1 | h1
    · exact orbits_low v m us ad s k w hv h8 ht hlen (hid hf.symm) hM hs h1
    · rcases Int.lt_or_le 1000 k with h3 | h3
      · exact orbits_high v m us ad s k w hv h8 ht hlen (hid hf.symm) hM hs h1 h3
      · obtain ⟨n, rfl⟩ : ∃ n : Nat, k = n := ⟨k.toNat, by omega⟩
        by_cases hn : none ∈ seqO m us ad n (K.numL s)
        · exact orbits_size v m us ad s n w hv h8 ht hlen (hid hf.symm) hM hs (by omega) (hid hn)
        · exact orbits_fine v m us ad s n w hv h8 ht hlen (hid hf.symm) hM hs (by omega) (hid hn)
end Go.Proofs.YtflgkijmbpcnfaaGreatDoor
