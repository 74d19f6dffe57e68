/- the law WordLines -/
import Derived.Test.YtlfbgemceeibiaaGreatDoorJG30
import Derived.Test.YtlfbgemceeibiaaGreatDoorJG27
set_option linter.unusedSimpArgs false
set_option linter.unusedVariables false
namespace Go.Proofs.YtlfbgemceeibiaaGreatDoor
open Go.RowKit
set_option maxRecDepth 100000 in
set_option maxHeartbeats 3200000 in
theorem lines_bad (v : Value) (m : Int) (us ad : List Int) (Wd : Option Addr) (wn wq : Nat) (ws : List Int) (w : World) (hv : MapV w v m us ad) (h8 : Fit8 v) (hw : Rd w Wd (Is ws)) (hl : ws.length = wn) (hwb2 : wn * 8 ≤ 140737488351232) (hwb : wn ≤ 140737488351232) (ht : Tab w) {b1 b2 : Bool} (hb1 : Hid (mapB m us ad = b1)) (hb2 : Hid (wordB m ws = b2)) {c : Int} (hc : Hid (c = if b1 = true then (if b2 = true then 0 else 2) else 1)) (hc0 : (c == 0) = false) (hcn : (c != 0) = true) :
    Calls Tryz.prog 4 #[v, .slice Wd wn wq] w (TruePost w) := by
  obtain ⟨i0, hi, hz0, hz1, hz2⟩ := info_parts infoI2
  have hee : ((⟨#[]⟩ : ByteArray) ++ ⟨#[]⟩).toList = [] := by decide +kernel
  have HEE := hid hee
  have HT := hid ht
  have HV := hid hv
  have H8 := hid h8
  have HWD0 := hid hw
  have HLN := hid hl
  obtain ⟨A, n, cc, B, n2, d, rfl, -⟩ := hv
  have hx : Ext w (w.alloc (.cells #[.int .i64 m, .slice A n cc, .slice B n2 d] 24)) := (Ext.rfl' w).alloc' _
  have hr : Row (w.alloc (.cells #[.int .i64 m, .slice A n cc, .slice B n2 d] 24)) w.heap.size 24 [.int .i64 m, .slice A n cc, .slice B n2 d] := Row.new w _ _
  obtain ⟨W1, hW1⟩ : ∃ W1, (w.alloc (.cells #[.int .i64 m, .slice A n cc, .slice B n2 d] 24)) = W1 := ⟨_, rfl⟩
  rw [hW1] at hx hr
  have HX := hid hx
  have HR := hid hr
  have HW1 := hid hW1
  obtain ⟨f0, f1, f2, -, -, -⟩ := row_facts3 hr
  have HTT : Hid (Tab W1) := hid (ht.ext hx)
  have HV1 := hid (HV.out.ext hx)
  have HWD := hid (HWD0.out.ext hx)
  clear hW1 hx hr h8 hw hl hee
  go_enter Tryz.func4, Tryz.ntmps4
  go_upto_region 1 with fail
  rw [HW1.out]
  go_wp2_with fail
  refine (twin_any _ m us ad W1 HV1.out H8.out).mono ?_
  rintro e w2 ⟨v2, rfl, hv2, hx2⟩
  have HV2 := hid hv2
  have HX2 := hid hx2
  obtain ⟨A2, l2, e2, B2, p2, g2, rfl, -⟩ := hv2
  clear f0 f1 f2 hx2
  go_wp2_with (at_builtin; refine wpList_append_slice rfl _ _ 22 rfl w2.heap.size 3 i0 Tryz.underlying22 hi hz0 hz1 hz2 (some ⟨w2.heap.size, 0, none⟩) 0 0 [] ?a1 ?a2 Wd wn wq ws ?a3 ?a4 ?a5 ?a6 ?a7 ?_)
  case a1 => rfl
  case a2 => exact (own_new _ _)
  case a3 => rfl
  case a4 => exact HLN.out
  case a5 => exact ((HWD.out.ext HX2.out).ext ((Ext.rfl' _).alloc' _))
  case a6 => omega
  case a7 => rw [World.size_alloc]; omega
  intro K2 kc2 w3 hown3 hgrow3
  have he3 : Ext w2 w3 := ((Ext.rfl' w2).alloc' _).grown hgrow3 (by rw [World.size_alloc]; omega) (by intro k hk; simp [Value.ownBlock] at hk; omega)
  have hk3 : Rd w3 K2 (Is ws) := by
    have := Rd.of_own hown3
    simpa using this
  have hx2b : Ext W1 (w3.alloc (.cells #[.int .i64 m, .slice A2 l2 e2, .slice B2 p2 g2] 24)) := (HX2.out.step he3).alloc' _
  have hr2 : Row (w3.alloc (.cells #[.int .i64 m, .slice A2 l2 e2, .slice B2 p2 g2] 24)) w3.heap.size 24 [.int .i64 m, .slice A2 l2 e2, .slice B2 p2 g2] := Row.new w3 _ _
  have hv2c := (HV2.out.ext he3).ext ((Ext.rfl' w3).alloc' (.cells #[.int .i64 m, .slice A2 l2 e2, .slice B2 p2 g2] 24))
  have hk3c := hk3.ext ((Ext.rfl' w3).alloc' (.cells #[.int .i64 m, .slice A2 l2 e2, .slice B2 p2 g2] 24))
  obtain ⟨W2, hW2⟩ : ∃ W2, (w3.alloc (.cells #[.int .i64 m, .slice A2 l2 e2, .slice B2 p2 g2] 24)) = W2 := ⟨_, rfl⟩
  rw [hW2] at hx2b hr2 hv2c hk3c
  have HY2 := hid hx2b
  have HR2 := hid hr2
  have HVT := hid hv2c
  have HKP := hid hk3c
  have HW2 := hid hW2
  clear hown3 hgrow3 he3 hk3 hx2b hr2 hv2c hk3c hW2
  obtain ⟨f0, f1, f2, -, -, -⟩ := row_facts3 (HR.out.ext HY2.out)
  go_upto_region 2 with fail
  rw [HW2.out]
  go_wp2_with fail
  refine (line_bad _ m us ad Wd wn wq ws W2 (HV1.out.ext HY2.out) (HWD.out.ext HY2.out) HLN.out hwb hb1 hb2 hc hc0 hcn).mono ?_
  rintro e w4 ⟨rfl, hx⟩
  have hy := (HY2.out.step hx).alloc' (.cells #[.string ⟨#[]⟩, .string ⟨#[]⟩, .string ⟨#[]⟩] 41)
  have hz := hx.alloc' (.cells #[.string ⟨#[]⟩, .string ⟨#[]⟩, .string ⟨#[]⟩] 41)
  have hr := Row.new w4 41 [.string ⟨#[]⟩, .string ⟨#[]⟩, .string ⟨#[]⟩]
  obtain ⟨W4, hW4⟩ : ∃ W4, w4.alloc (.cells #[.string ⟨#[]⟩, .string ⟨#[]⟩, .string ⟨#[]⟩] 41) = W4 := ⟨_, rfl⟩
  rw [hW4] at hy hz
  have RL : Hid (Row W4 w4.heap.size 41 [.string ⟨#[]⟩, .string ⟨#[]⟩, .string ⟨#[]⟩]) := hid (by rw [← hW4]; exact hr)
  have HY4 := hid hy
  have HZ4 := hid hz
  have HW4 := hid hW4
  clear f0 f1 f2 hx hy hz hr hW4
  obtain ⟨f0, f1, f2, -, -, -⟩ := row_facts3 (HR.out.ext HY4.out)
  go_upto_region 3 with fail
  rw [HW4.out]
  go_wp2_with fail
  refine (wrest_bad _ m us ad Wd wn wq ws W4 (HV1.out.ext HY4.out) (HWD.out.ext HY4.out) HLN.out hwb hb1 hb2 hc hc0 hcn).mono ?_
  rintro e w5 ⟨rfl, hx⟩
  have HY5 := hid (HY4.out.step hx)
  have HZ5 := hid (HZ4.out.step hx)
  have HL5 := hid hx
  clear f0 f1 f2 hx
  obtain ⟨f0, f1, f2, -, -, -⟩ := row_facts3 (HR.out.ext HY5.out)
  obtain ⟨t0, t1, t2, -, -, -⟩ := row_facts3 (HR2.out.ext HZ5.out)
  go_wp2_with fail
  refine (rsame_eq _ _ m us ad w5 (HV1.out.ext HY5.out) (HVT.out.ext HZ5.out)).mono ?_
  rintro e w6 ⟨rfl, hx⟩
  have HY6 := hid (HY5.out.step hx)
  have HZ6 := hid (HZ5.out.step hx)
  have HL6 := hid (HL5.out.step hx)
  clear f0 f1 f2 t0 t1 t2 hx
  go_wp2_with fail
  refine (ralike_eq Wd K2 wn wq kc2 ws w6 (HWD.out.ext HY6.out) (HKP.out.ext HZ6.out) HLN.out hwb).mono ?_
  rintro e w7 ⟨rfl, hx⟩
  have HY7 := hid (HY6.out.step hx)
  have HZ7 := hid (HZ6.out.step hx)
  have HL7 := hid (HL6.out.step hx)
  clear hx
  obtain ⟨f0, f1, f2, -, -, -⟩ := row_facts3 (HR.out.ext HY7.out)
  go_wp2_with fail
  refine (refvalid_any _ m us ad w7 (HV1.out.ext HY7.out) hb1).mono ?_
  rintro e w8 ⟨rfl, hx⟩
  have HY8 := hid (HY7.out.step hx)
  have HL8 := hid (HL7.out.step hx)
  clear f0 f1 f2 hx
  have hee := HEE.out
  cases b1 with
  | false =>
    obtain rfl : c = 1 := hc.out
    clear hc0 hcn
    obtain ⟨x0, x1, x2, -, -, -⟩ := row_facts3 (RL.out.ext HL8.out)
    go_wp2_with fail
    refine (awake3_any w8 (HTT.out.ext HY8.out)).mono ?_
    rintro e wL ⟨rfl, hxL⟩
    have HL9 := hid (HX.out.step (HY8.out.step hxL))
    clear hxL
    go_wp2
    go_ret
    exact ⟨rfl, HL9.out⟩
  | true =>
    obtain ⟨f0, f1, f2, -, -, -⟩ := row_facts3 (HR.out.ext HY8.out)
    go_wp2_with fail
    refine (is_any _ m us ad Wd wn wq ws w8 (HV1.out.ext HY8.out) (HWD.out.ext HY8.out) HLN.out hwb hb2).mono ?_
    rintro e w9 ⟨rfl, hx⟩
    have HY9 := hid (HY8.out.step hx)
    have HL9x := hid (HL8.out.step hx)
    clear f0 f1 f2 hx
    cases b2 with
    | false =>
      obtain rfl : c = 2 := hc.out
      clear hc0 hcn
      obtain ⟨x0, x1, x2, -, -, -⟩ := row_facts3 (RL.out.ext HL9x.out)
      go_wp2_with fail
      refine (awake3_any w9 (HTT.out.ext HY9.out)).mono ?_
      rintro e wL ⟨rfl, hxL⟩
      have HL9 := hid (HX.out.step (HY9.out.step hxL))
      clear hxL
      go_wp2
      go_ret
      exact ⟨rfl, HL9.out⟩
    | true =>
      obtain rfl : c = 0 := hc.out
      cases hc0
set_option maxRecDepth 100000 in
set_option maxHeartbeats 12800000 in
theorem lines_irr (v : Value) (m : Int) (us ad : List Int) (Wd : Option Addr) (wn wq : Nat) (ws : List Int) (w : World) (hv : MapV w v m us ad) (h8 : Fit8 v) (hw : Rd w Wd (Is ws)) (hl : ws.length = wn) (hwb2 : wn * 8 ≤ 140737488351232) (hwb : wn ≤ 140737488351232) (ht : Tab w) (hM : Hid (mapP m us ad)) (hb2 : Hid (wordB m ws = true)) (hb3 : Hid (regB m us = false)) :
    Calls Tryz.prog 4 #[v, .slice Wd wn wq] w (TruePost w) := by
  have hfit := lin_fits hM.out hb2.out (us := us) (ad := ad)
  have HFT := hid hfit
  have h200 : wn ≤ 200 := by rw [← hl]; exact (wordB_iff.1 hb2.out).1
  have hb1 : Hid (mapB m us ad = true) := hid ((mapB_iff m us ad).2 hM.out)
  obtain ⟨su, hsu⟩ : ∃ su, Str (K.txt (lineI m us ad ws).1) = su := ⟨_, rfl⟩
  obtain ⟨sa, hsa⟩ : ∃ sa, Str (K.txt (lineI m us ad ws).2.1) = sa := ⟨_, rfl⟩
  obtain ⟨sd, hsd⟩ : ∃ sd, Str (K.txt (lineI m us ad ws).2.2) = sd := ⟨_, rfl⟩
  have Hsu := hid hsu
  have Hsa := hid hsa
  have Hsd := hid hsd
  clear hsu hsa hsd hfit
  obtain ⟨i0, hi, hz0, hz1, hz2⟩ := info_parts infoI2
  have hee : ((⟨#[]⟩ : ByteArray) ++ ⟨#[]⟩).toList = [] := by decide +kernel
  have HEE := hid hee
  have HT := hid ht
  have HV := hid hv
  have H8 := hid h8
  have HWD0 := hid hw
  have HLN := hid hl
  obtain ⟨A, n, cc, B, n2, d, rfl, -⟩ := hv
  have hx : Ext w (w.alloc (.cells #[.int .i64 m, .slice A n cc, .slice B n2 d] 24)) := (Ext.rfl' w).alloc' _
  have hr : Row (w.alloc (.cells #[.int .i64 m, .slice A n cc, .slice B n2 d] 24)) w.heap.size 24 [.int .i64 m, .slice A n cc, .slice B n2 d] := Row.new w _ _
  obtain ⟨W1, hW1⟩ : ∃ W1, (w.alloc (.cells #[.int .i64 m, .slice A n cc, .slice B n2 d] 24)) = W1 := ⟨_, rfl⟩
  rw [hW1] at hx hr
  have HX := hid hx
  have HR := hid hr
  have HW1 := hid hW1
  obtain ⟨f0, f1, f2, -, -, -⟩ := row_facts3 hr
  have HTT : Hid (Tab W1) := hid (ht.ext hx)
  have HV1 := hid (HV.out.ext hx)
  have HWD := hid (HWD0.out.ext hx)
  clear hW1 hx hr h8 hw hl hee
  go_enter Tryz.func4, Tryz.ntmps4
  go_upto_region 1 with fail
  rw [HW1.out]
  go_wp2_with fail
  refine (twin_any _ m us ad W1 HV1.out H8.out).mono ?_
  rintro e w2 ⟨v2, rfl, hv2, hx2⟩
  have HV2 := hid hv2
  have HX2 := hid hx2
  obtain ⟨A2, l2, e2, B2, p2, g2, rfl, -⟩ := hv2
  clear f0 f1 f2 hx2
  go_wp2_with (at_builtin; refine wpList_append_slice rfl _ _ 22 rfl w2.heap.size 3 i0 Tryz.underlying22 hi hz0 hz1 hz2 (some ⟨w2.heap.size, 0, none⟩) 0 0 [] ?a1 ?a2 Wd wn wq ws ?a3 ?a4 ?a5 ?a6 ?a7 ?_)
  case a1 => rfl
  case a2 => exact (own_new _ _)
  case a3 => rfl
  case a4 => exact HLN.out
  case a5 => exact ((HWD.out.ext HX2.out).ext ((Ext.rfl' _).alloc' _))
  case a6 => omega
  case a7 => rw [World.size_alloc]; omega
  intro K2 kc2 w3 hown3 hgrow3
  have he3 : Ext w2 w3 := ((Ext.rfl' w2).alloc' _).grown hgrow3 (by rw [World.size_alloc]; omega) (by intro k hk; simp [Value.ownBlock] at hk; omega)
  have hk3 : Rd w3 K2 (Is ws) := by
    have := Rd.of_own hown3
    simpa using this
  have hx2b : Ext W1 (w3.alloc (.cells #[.int .i64 m, .slice A2 l2 e2, .slice B2 p2 g2] 24)) := (HX2.out.step he3).alloc' _
  have hr2 : Row (w3.alloc (.cells #[.int .i64 m, .slice A2 l2 e2, .slice B2 p2 g2] 24)) w3.heap.size 24 [.int .i64 m, .slice A2 l2 e2, .slice B2 p2 g2] := Row.new w3 _ _
  have hv2c := (HV2.out.ext he3).ext ((Ext.rfl' w3).alloc' (.cells #[.int .i64 m, .slice A2 l2 e2, .slice B2 p2 g2] 24))
  have hk3c := hk3.ext ((Ext.rfl' w3).alloc' (.cells #[.int .i64 m, .slice A2 l2 e2, .slice B2 p2 g2] 24))
  obtain ⟨W2, hW2⟩ : ∃ W2, (w3.alloc (.cells #[.int .i64 m, .slice A2 l2 e2, .slice B2 p2 g2] 24)) = W2 := ⟨_, rfl⟩
  rw [hW2] at hx2b hr2 hv2c hk3c
  have HY2 := hid hx2b
  have HR2 := hid hr2
  have HVT := hid hv2c
  have HKP := hid hk3c
  have HW2 := hid hW2
  clear hown3 hgrow3 he3 hk3 hx2b hr2 hv2c hk3c hW2
  obtain ⟨f0, f1, f2, -, -, -⟩ := row_facts3 (HR.out.ext HY2.out)
  go_upto_region 2 with fail
  rw [HW2.out]
  go_wp2_with fail
  refine (line_s _ m us ad Wd wn wq ws su sa sd W2 (HV1.out.ext HY2.out) (HWD.out.ext HY2.out) HLN.out hwb hM hb2 (HTT.out.ext HY2.out) Hsu Hsa Hsd).mono ?_
  rintro e w4 ⟨rfl, hx⟩
  have hy := (HY2.out.step hx).alloc' (.cells #[.string su, .string sa, .string sd] 41)
  have hz := hx.alloc' (.cells #[.string su, .string sa, .string sd] 41)
  have hr := Row.new w4 41 [.string su, .string sa, .string sd]
  obtain ⟨W4, hW4⟩ : ∃ W4, w4.alloc (.cells #[.string su, .string sa, .string sd] 41) = W4 := ⟨_, rfl⟩
  rw [hW4] at hy hz
  have RL : Hid (Row W4 w4.heap.size 41 [.string su, .string sa, .string sd]) := hid (by rw [← hW4]; exact hr)
  have HY4 := hid hy
  have HZ4 := hid hz
  have HW4 := hid hW4
  clear f0 f1 f2 hx hy hz hr hW4
  obtain ⟨f0, f1, f2, -, -, -⟩ := row_facts3 (HR.out.ext HY4.out)
  go_upto_region 3 with fail
  rw [HW4.out]
  go_wp2_with fail
  refine (wrest_irr _ m us ad Wd wn wq ws W4 (HV1.out.ext HY4.out) (HWD.out.ext HY4.out) HLN.out hwb hM hb2 hb3).mono ?_
  rintro e w5 ⟨rfl, hx⟩
  have HY5 := hid (HY4.out.step hx)
  have HZ5 := hid (HZ4.out.step hx)
  have HL5 := hid hx
  clear f0 f1 f2 hx
  obtain ⟨f0, f1, f2, -, -, -⟩ := row_facts3 (HR.out.ext HY5.out)
  obtain ⟨t0, t1, t2, -, -, -⟩ := row_facts3 (HR2.out.ext HZ5.out)
  go_wp2_with fail
  refine (rsame_eq _ _ m us ad w5 (HV1.out.ext HY5.out) (HVT.out.ext HZ5.out)).mono ?_
  rintro e w6 ⟨rfl, hx⟩
  have HY6 := hid (HY5.out.step hx)
  have HZ6 := hid (HZ5.out.step hx)
  have HL6 := hid (HL5.out.step hx)
  clear f0 f1 f2 t0 t1 t2 hx
  go_wp2_with fail
  refine (ralike_eq Wd K2 wn wq kc2 ws w6 (HWD.out.ext HY6.out) (HKP.out.ext HZ6.out) HLN.out hwb).mono ?_
  rintro e w7 ⟨rfl, hx⟩
  have HY7 := hid (HY6.out.step hx)
  have HZ7 := hid (HZ6.out.step hx)
  have HL7 := hid (HL6.out.step hx)
  clear hx
  obtain ⟨f0, f1, f2, -, -, -⟩ := row_facts3 (HR.out.ext HY7.out)
  go_wp2_with fail
  refine (refvalid_any _ m us ad w7 (HV1.out.ext HY7.out) hb1).mono ?_
  rintro e w8 ⟨rfl, hx⟩
  have HY8 := hid (HY7.out.step hx)
  have HL8 := hid (HL7.out.step hx)
  clear f0 f1 f2 hx
  obtain ⟨f0, f1, f2, -, -, -⟩ := row_facts3 (HR.out.ext HY8.out)
  go_wp2_with fail
  refine (is_any _ m us ad Wd wn wq ws w8 (HV1.out.ext HY8.out) (HWD.out.ext HY8.out) HLN.out hwb hb2).mono ?_
  rintro e w9 ⟨rfl, hx⟩
  have HY9 := hid (HY8.out.step hx)
  have HL9x := hid (HL8.out.step hx)
  clear f0 f1 f2 hx
  have HS : Hid (∀ W', Ext w9 W' → W'.cell? ⟨w4.heap.size, 0, none⟩ = some (.string su) ∧ W'.cell? ⟨w4.heap.size, 1, none⟩ = some (.string sa) ∧ W'.cell? ⟨w4.heap.size, 2, none⟩ = some (.string sd) ∧ W'.cell? ⟨w.heap.size, 0, none⟩ = some (.int .i64 m) ∧ W'.cell? ⟨w.heap.size, 1, none⟩ = some (.slice A n cc) ∧ W'.cell? ⟨w.heap.size, 2, none⟩ = some (.slice B n2 d)) := hid (by
    intro W' e
    obtain ⟨p0, p1, p2, -, -, -⟩ := row_facts3 (RL.out.ext (HL9x.out.step e))
    obtain ⟨q0, q1, q2, -, -, -⟩ := row_facts3 (HR.out.ext (HY9.out.step e))
    exact ⟨p0, p1, p2, q0, q1, q2⟩)
  have hcur : Ext w9 w9 := Ext.rfl' _
  go_upto_region 10 with fail
  go_cut [101] (fun sx wx => sx = .bool false ∧ Ext w9 wx)
  case first =>
    clear HT HV HV2 H8 HX2 HR HR2 HVT HKP HW1 HW2 HW4 HY2 HY4 HY5 HY6 HY7 HY8 HZ4 HZ5 HZ6 HZ7 HL5 HL6 HL7 HL8 HL9x RL HEE h200
    go_region_held3 (fun W' => W'.cell? ⟨w4.heap.size, 0, none⟩ = some (.string su) ∧ W'.cell? ⟨w4.heap.size, 1, none⟩ = some (.string sa) ∧ W'.cell? ⟨w4.heap.size, 2, none⟩ = some (.string sd) ∧ W'.cell? ⟨w.heap.size, 0, none⟩ = some (.int .i64 m) ∧ W'.cell? ⟨w.heap.size, 1, none⟩ = some (.slice A n cc) ∧ W'.cell? ⟨w.heap.size, 2, none⟩ = some (.slice B n2 d))
      (first | (with_reducible exact HS.out _ hcur) | (with_reducible exact HS.out _ hcur.drew') | go_keep)
      (first
        | (go_at_call 27; refine (of_line _ m us ad Wd wn wq ws _ (HV1.out.ext (HY9.out.step ?_)) (HWD.out.ext (HY9.out.step ?_)) HLN.out hM hb2).mono ?_; (first | exact hcur | exact hcur.drew' | exact hcur.alloc' _ | exact hcur.drew'.alloc' _ | exact (hcur.alloc' _).drew'); (first | exact hcur | exact hcur.drew' | exact hcur.alloc' _ | exact hcur.drew'.alloc' _ | exact (hcur.alloc' _).drew'); rintro e w20 ⟨v20, rfl, hv20, hx⟩; have hcur := Ext.step hcur (by first | exact hx | exact Ext.undrew hx | exact Ext.step ((Ext.rfl' _).alloc' _) hx | exact Ext.step ((Ext.rfl' _).drew'.alloc' _) hx); have HV20 := hid hv20)
        | (go_at_call 26; refine (text_line _ (lineI m us ad ws) _ (HV20.out.ext ?_) su sa sd HFT Hsu Hsa Hsd).mono ?_; (first | exact Ext.rfl' _ | exact (Ext.rfl' _).drew' | exact (Ext.rfl' _).alloc' _ | exact (Ext.rfl' _).drew'.alloc' _); rintro e w21 ⟨rfl, hx⟩; have hcur := Ext.step hcur (by first | exact hx | exact Ext.undrew hx | exact Ext.step ((Ext.rfl' _).alloc' _) hx | exact Ext.step ((Ext.rfl' _).drew'.alloc' _) hx)))
    all_goals
      go_wp2_with fail
      go_meet
      exact ⟨rfl, hcur⟩
  case rest =>
    obtain ⟨rfl, h910⟩ := hcut
    have HYc := hid (HY9.out.step h910)
    clear h910 hcur HS
    obtain ⟨f0, f1, f2, -, -, -⟩ := row_facts3 (HR.out.ext HYc.out)
    go_wp2_with fail
    refine (rregular_b _ m us ad wc (HV1.out.ext HYc.out) hM hb3).mono ?_
    rintro e w11 ⟨rfl, hx⟩
    have HY11 := hid (HYc.out.step hx)
    clear f0 f1 f2 hx
    have hee := HEE.out
    go_wp2_with fail
    refine (awake3_any w11 (HTT.out.ext HY11.out)).mono ?_
    rintro e wL ⟨rfl, hxL⟩
    have HL9 := hid (HX.out.step (HY11.out.step hxL))
    clear hxL
    go_wp2
    go_ret
    exact ⟨rfl, HL9.out⟩
set_option maxRecDepth 100000 in
set_option maxHeartbeats 12800000 in
theorem lines_reg (v : Value) (m : Int) (us ad : List Int) (Wd : Option Addr) (wn wq : Nat) (ws : List Int) (w : World) (hv : MapV w v m us ad) (h8 : Fit8 v) (hw : Rd w Wd (Is ws)) (hl : ws.length = wn) (hwb2 : wn * 8 ≤ 140737488351232) (hwb : wn ≤ 140737488351232) (ht : Tab w) (hM : Hid (mapP m us ad)) (hb2 : Hid (wordB m ws = true)) (hb3 : Hid (regB m us = true)) :
    Calls Tryz.prog 4 #[v, .slice Wd wn wq] w (TruePost w) := by
  have hfit := lin_fits hM.out hb2.out (us := us) (ad := ad)
  have HFT := hid hfit
  have h200 : wn ≤ 200 := by rw [← hl]; exact (wordB_iff.1 hb2.out).1
  have hb1 : Hid (mapB m us ad = true) := hid ((mapB_iff m us ad).2 hM.out)
  obtain ⟨su, hsu⟩ : ∃ su, Str (K.txt (lineI m us ad ws).1) = su := ⟨_, rfl⟩
  obtain ⟨sa, hsa⟩ : ∃ sa, Str (K.txt (lineI m us ad ws).2.1) = sa := ⟨_, rfl⟩
  obtain ⟨sd, hsd⟩ : ∃ sd, Str (K.txt (lineI m us ad ws).2.2) = sd := ⟨_, rfl⟩
  have Hsu := hid hsu
  have Hsa := hid hsa
  have Hsd := hid hsd
  clear hsu hsa hsd hfit
  obtain ⟨i0, hi, hz0, hz1, hz2⟩ := info_parts infoI2
  have hee : ((⟨#[]⟩ : ByteArray) ++ ⟨#[]⟩).toList = [] := by decide +kernel
  have HEE := hid hee
  have HT := hid ht
  have HV := hid hv
  have H8 := hid h8
  have HWD0 := hid hw
  have HLN := hid hl
  obtain ⟨A, n, cc, B, n2, d, rfl, -⟩ := hv
  have hx : Ext w (w.alloc (.cells #[.int .i64 m, .slice A n cc, .slice B n2 d] 24)) := (Ext.rfl' w).alloc' _
  have hr : Row (w.alloc (.cells #[.int .i64 m, .slice A n cc, .slice B n2 d] 24)) w.heap.size 24 [.int .i64 m, .slice A n cc, .slice B n2 d] := Row.new w _ _
  obtain ⟨W1, hW1⟩ : ∃ W1, (w.alloc (.cells #[.int .i64 m, .slice A n cc, .slice B n2 d] 24)) = W1 := ⟨_, rfl⟩
  rw [hW1] at hx hr
  have HX := hid hx
  have HR := hid hr
  have HW1 := hid hW1
  obtain ⟨f0, f1, f2, -, -, -⟩ := row_facts3 hr
  have HTT : Hid (Tab W1) := hid (ht.ext hx)
  have HV1 := hid (HV.out.ext hx)
  have HWD := hid (HWD0.out.ext hx)
  clear hW1 hx hr h8 hw hl hee
  go_enter Tryz.func4, Tryz.ntmps4
  go_upto_region 1 with fail
  rw [HW1.out]
  go_wp2_with fail
  refine (twin_any _ m us ad W1 HV1.out H8.out).mono ?_
  rintro e w2 ⟨v2, rfl, hv2, hx2⟩
  have HV2 := hid hv2
  have HX2 := hid hx2
  obtain ⟨A2, l2, e2, B2, p2, g2, rfl, -⟩ := hv2
  clear f0 f1 f2 hx2
  go_wp2_with (at_builtin; refine wpList_append_slice rfl _ _ 22 rfl w2.heap.size 3 i0 Tryz.underlying22 hi hz0 hz1 hz2 (some ⟨w2.heap.size, 0, none⟩) 0 0 [] ?a1 ?a2 Wd wn wq ws ?a3 ?a4 ?a5 ?a6 ?a7 ?_)
  case a1 => rfl
  case a2 => exact (own_new _ _)
  case a3 => rfl
  case a4 => exact HLN.out
  case a5 => exact ((HWD.out.ext HX2.out).ext ((Ext.rfl' _).alloc' _))
  case a6 => omega
  case a7 => rw [World.size_alloc]; omega
  intro K2 kc2 w3 hown3 hgrow3
  have he3 : Ext w2 w3 := ((Ext.rfl' w2).alloc' _).grown hgrow3 (by rw [World.size_alloc]; omega) (by intro k hk; simp [Value.ownBlock] at hk; omega)
  have hk3 : Rd w3 K2 (Is ws) := by
    have := Rd.of_own hown3
    simpa using this
  have hx2b : Ext W1 (w3.alloc (.cells #[.int .i64 m, .slice A2 l2 e2, .slice B2 p2 g2] 24)) := (HX2.out.step he3).alloc' _
  have hr2 : Row (w3.alloc (.cells #[.int .i64 m, .slice A2 l2 e2, .slice B2 p2 g2] 24)) w3.heap.size 24 [.int .i64 m, .slice A2 l2 e2, .slice B2 p2 g2] := Row.new w3 _ _
  have hv2c := (HV2.out.ext he3).ext ((Ext.rfl' w3).alloc' (.cells #[.int .i64 m, .slice A2 l2 e2, .slice B2 p2 g2] 24))
  have hk3c := hk3.ext ((Ext.rfl' w3).alloc' (.cells #[.int .i64 m, .slice A2 l2 e2, .slice B2 p2 g2] 24))
  obtain ⟨W2, hW2⟩ : ∃ W2, (w3.alloc (.cells #[.int .i64 m, .slice A2 l2 e2, .slice B2 p2 g2] 24)) = W2 := ⟨_, rfl⟩
  rw [hW2] at hx2b hr2 hv2c hk3c
  have HY2 := hid hx2b
  have HR2 := hid hr2
  have HVT := hid hv2c
  have HKP := hid hk3c
  have HW2 := hid hW2
  clear hown3 hgrow3 he3 hk3 hx2b hr2 hv2c hk3c hW2
  obtain ⟨f0, f1, f2, -, -, -⟩ := row_facts3 (HR.out.ext HY2.out)
  go_upto_region 2 with fail
  rw [HW2.out]
  go_wp2_with fail
  refine (line_s _ m us ad Wd wn wq ws su sa sd W2 (HV1.out.ext HY2.out) (HWD.out.ext HY2.out) HLN.out hwb hM hb2 (HTT.out.ext HY2.out) Hsu Hsa Hsd).mono ?_
  rintro e w4 ⟨rfl, hx⟩
  have hy := (HY2.out.step hx).alloc' (.cells #[.string su, .string sa, .string sd] 41)
  have hz := hx.alloc' (.cells #[.string su, .string sa, .string sd] 41)
  have hr := Row.new w4 41 [.string su, .string sa, .string sd]
  obtain ⟨W4, hW4⟩ : ∃ W4, w4.alloc (.cells #[.string su, .string sa, .string sd] 41) = W4 := ⟨_, rfl⟩
  rw [hW4] at hy hz
  have RL : Hid (Row W4 w4.heap.size 41 [.string su, .string sa, .string sd]) := hid (by rw [← hW4]; exact hr)
  have HY4 := hid hy
  have HZ4 := hid hz
  have HW4 := hid hW4
  clear f0 f1 f2 hx hy hz hr hW4
  obtain ⟨f0, f1, f2, -, -, -⟩ := row_facts3 (HR.out.ext HY4.out)
  go_upto_region 3 with fail
  rw [HW4.out]
  go_wp2_with fail
  refine (wrest_ok _ m us ad Wd wn wq ws W4 (HV1.out.ext HY4.out) (HWD.out.ext HY4.out) HLN.out hwb hM hb2 hb3 (HTT.out.ext HY4.out)).mono ?_
  rintro e w5 hxx
  obtain ⟨R, rfl, hR0, hR1, hRI, hx⟩ := hxx
  obtain ⟨sr, hsr⟩ : ∃ sr, Str (K.txt R) = sr := ⟨_, rfl⟩
  obtain ⟨sq, hsq⟩ : ∃ sq, Str (K.txt (m ^ ws.length)) = sq := ⟨_, rfl⟩
  rw [hsr, hsq]
  have HSR := hid hsr
  have HSQ := hid hsq
  have HR0 := hid hR0
  have HR1 := hid hR1
  have HRI := hid hRI
  clear hsr hsq hR0 hR1 hRI
  have HY5 := hid (HY4.out.step hx)
  have HZ5 := hid (HZ4.out.step hx)
  have HL5 := hid hx
  clear f0 f1 f2 hx
  obtain ⟨f0, f1, f2, -, -, -⟩ := row_facts3 (HR.out.ext HY5.out)
  obtain ⟨t0, t1, t2, -, -, -⟩ := row_facts3 (HR2.out.ext HZ5.out)
  go_wp2_with fail
  refine (rsame_eq _ _ m us ad w5 (HV1.out.ext HY5.out) (HVT.out.ext HZ5.out)).mono ?_
  rintro e w6 ⟨rfl, hx⟩
  have HY6 := hid (HY5.out.step hx)
  have HZ6 := hid (HZ5.out.step hx)
  have HL6 := hid (HL5.out.step hx)
  clear f0 f1 f2 t0 t1 t2 hx
  go_wp2_with fail
  refine (ralike_eq Wd K2 wn wq kc2 ws w6 (HWD.out.ext HY6.out) (HKP.out.ext HZ6.out) HLN.out hwb).mono ?_
  rintro e w7 ⟨rfl, hx⟩
  have HY7 := hid (HY6.out.step hx)
  have HZ7 := hid (HZ6.out.step hx)
  have HL7 := hid (HL6.out.step hx)
  clear hx
  obtain ⟨f0, f1, f2, -, -, -⟩ := row_facts3 (HR.out.ext HY7.out)
  go_wp2_with fail
  refine (refvalid_any _ m us ad w7 (HV1.out.ext HY7.out) hb1).mono ?_
  rintro e w8 ⟨rfl, hx⟩
  have HY8 := hid (HY7.out.step hx)
  have HL8 := hid (HL7.out.step hx)
  clear f0 f1 f2 hx
  obtain ⟨f0, f1, f2, -, -, -⟩ := row_facts3 (HR.out.ext HY8.out)
  go_wp2_with fail
  refine (is_any _ m us ad Wd wn wq ws w8 (HV1.out.ext HY8.out) (HWD.out.ext HY8.out) HLN.out hwb hb2).mono ?_
  rintro e w9 ⟨rfl, hx⟩
  have HY9 := hid (HY8.out.step hx)
  have HL9x := hid (HL8.out.step hx)
  clear f0 f1 f2 hx
  have HS : Hid (∀ W', Ext w9 W' → W'.cell? ⟨w4.heap.size, 0, none⟩ = some (.string su) ∧ W'.cell? ⟨w4.heap.size, 1, none⟩ = some (.string sa) ∧ W'.cell? ⟨w4.heap.size, 2, none⟩ = some (.string sd) ∧ W'.cell? ⟨w.heap.size, 0, none⟩ = some (.int .i64 m) ∧ W'.cell? ⟨w.heap.size, 1, none⟩ = some (.slice A n cc) ∧ W'.cell? ⟨w.heap.size, 2, none⟩ = some (.slice B n2 d)) := hid (by
    intro W' e
    obtain ⟨p0, p1, p2, -, -, -⟩ := row_facts3 (RL.out.ext (HL9x.out.step e))
    obtain ⟨q0, q1, q2, -, -, -⟩ := row_facts3 (HR.out.ext (HY9.out.step e))
    exact ⟨p0, p1, p2, q0, q1, q2⟩)
  have hcur : Ext w9 w9 := Ext.rfl' _
  go_upto_region 10 with fail
  go_cut [101] (fun sx wx => sx = .bool false ∧ Ext w9 wx)
  case first =>
    clear HT HV HV2 H8 HX2 HR HR2 HVT HKP HW1 HW2 HW4 HY2 HY4 HY5 HY6 HY7 HY8 HZ4 HZ5 HZ6 HZ7 HL5 HL6 HL7 HL8 HL9x RL HEE h200
    go_region_held3 (fun W' => W'.cell? ⟨w4.heap.size, 0, none⟩ = some (.string su) ∧ W'.cell? ⟨w4.heap.size, 1, none⟩ = some (.string sa) ∧ W'.cell? ⟨w4.heap.size, 2, none⟩ = some (.string sd) ∧ W'.cell? ⟨w.heap.size, 0, none⟩ = some (.int .i64 m) ∧ W'.cell? ⟨w.heap.size, 1, none⟩ = some (.slice A n cc) ∧ W'.cell? ⟨w.heap.size, 2, none⟩ = some (.slice B n2 d))
      (first | (with_reducible exact HS.out _ hcur) | (with_reducible exact HS.out _ hcur.drew') | go_keep)
      (first
        | (go_at_call 27; refine (of_line _ m us ad Wd wn wq ws _ (HV1.out.ext (HY9.out.step ?_)) (HWD.out.ext (HY9.out.step ?_)) HLN.out hM hb2).mono ?_; (first | exact hcur | exact hcur.drew' | exact hcur.alloc' _ | exact hcur.drew'.alloc' _ | exact (hcur.alloc' _).drew'); (first | exact hcur | exact hcur.drew' | exact hcur.alloc' _ | exact hcur.drew'.alloc' _ | exact (hcur.alloc' _).drew'); rintro e w20 ⟨v20, rfl, hv20, hx⟩; have hcur := Ext.step hcur (by first | exact hx | exact Ext.undrew hx | exact Ext.step ((Ext.rfl' _).alloc' _) hx | exact Ext.step ((Ext.rfl' _).drew'.alloc' _) hx); have HV20 := hid hv20)
        | (go_at_call 26; refine (text_line _ (lineI m us ad ws) _ (HV20.out.ext ?_) su sa sd HFT Hsu Hsa Hsd).mono ?_; (first | exact Ext.rfl' _ | exact (Ext.rfl' _).drew' | exact (Ext.rfl' _).alloc' _ | exact (Ext.rfl' _).drew'.alloc' _); rintro e w21 ⟨rfl, hx⟩; have hcur := Ext.step hcur (by first | exact hx | exact Ext.undrew hx | exact Ext.step ((Ext.rfl' _).alloc' _) hx | exact Ext.step ((Ext.rfl' _).drew'.alloc' _) hx)))
    all_goals
      go_wp2_with fail
      go_meet
      exact ⟨rfl, hcur⟩
  case rest =>
    obtain ⟨rfl, h910⟩ := hcut
    have HYc := hid (HY9.out.step h910)
    clear h910 hcur HS
    obtain ⟨f0, f1, f2, -, -, -⟩ := row_facts3 (HR.out.ext HYc.out)
    go_wp2_with fail
    refine (rregular_b _ m us ad wc (HV1.out.ext HYc.out) hM hb3).mono ?_
    rintro e w11 ⟨rfl, hx⟩
    have HY11 := hid (HYc.out.step hx)
    clear f0 f1 f2 hx
    obtain ⟨f0, f1, f2, -, -, -⟩ := row_facts3 (HR.out.ext HY11.out)
    go_wp2_with fail
    refine (rest3_any _ m us ad Wd wn wq ws w11 (HV1.out.ext HY11.out) (HWD.out.ext HY11.out) HLN.out hM hb2 hb3).mono ?_
    rintro e w12 ⟨T, v1, v2, rfl, hv1, hv2, hra, hx⟩
    have hTR : T = R := by
      have hra2 : IsWord m us ad ws T := by
        have := hra.2.2
        rwa [← HLN.out, List.take_length] at this
      have h1 := (word_iff hM.out hb3.out (wordB_iff.1 hb2.out).2 HR0.out HR1.out HRI.out T).1 hra2
      rw [Int.emod_eq_of_lt hra.1 (by rw [HLN.out]; exact hra.2.1)] at h1
      exact h1
    subst hTR
    rw [← HLN.out] at hv2
    have HP1 := hid hv1
    have HP2 := hid hv2
    have HY12 := hid (HY11.out.step hx)
    have HPB := hid (show T.natAbs ≤ BIG ∧ (m ^ ws.length).natAbs ≤ BIG by
      have h1 := fits_big (fits_pow (us := us) (ad := ad) hM.out hb2.out (Nat.le_refl ws.length))
      have := HR0.out
      have := HR1.out
      exact ⟨by omega, h1⟩)
    obtain ⟨A21, k21, c21, xs21, b21, rfl, -⟩ := hv1
    obtain ⟨A22, k22, c22, xs22, b22, rfl, -⟩ := hv2
    have ha1 := (((Ext.rfl' w12).alloc' (.cells #[.bool b21, .slice A21 k21 c21] 36)).alloc' (.cells #[.bool b22, .slice A22 k22 c22] 36))
    have hk2 : ∀ w', Ext ((w12.alloc (.cells #[.bool b21, .slice A21 k21 c21] 36)).alloc (.cells #[.bool b22, .slice A22 k22 c22] 36)) w' →
        w'.cell? ⟨w12.heap.size, 0, none⟩ = some (.bool b21) ∧ w'.cell? ⟨w12.heap.size, 1, none⟩ = some (.slice A21 k21 c21) ∧ w'.cell? ⟨w12.heap.size + 1, 0, none⟩ = some (.bool b22) ∧ w'.cell? ⟨w12.heap.size + 1, 1, none⟩ = some (.slice A22 k22 c22) := fun w' e => boxes e
    obtain ⟨W13, hW13⟩ : ∃ W13, ((w12.alloc (.cells #[.bool b21, .slice A21 k21 c21] 36)).alloc (.cells #[.bool b22, .slice A22 k22 c22] 36)) = W13 := ⟨_, rfl⟩
    rw [hW13] at ha1 hk2
    have HW13 := hid hW13
    have HK2 := hid hk2
    have HP1 := hid (HP1.out.ext ha1)
    have HP2 := hid (HP2.out.ext ha1)
    have HY13 := hid (HY12.out.step ha1)
    clear f0 f1 f2 hx ha1 hk2 hW13 hra
    obtain ⟨x0, x1, x2, x3⟩ := HK2.out _ (Ext.rfl' _)
    go_upto_region 15 with fail
    rw [HW13.out]
    go_wp2_with fail
    refine (rtext_s _ HP1.out HPB.out.1 HSR).mono ?_
    rintro e w14 ⟨rfl, hx⟩
    have HY14 := hid (HY13.out.step hx)
    have H1314 := hid hx
    clear x0 x1 x2 x3 hx
    obtain ⟨x0, x1, x2, x3⟩ := HK2.out _ H1314.out
    go_wp2_with fail
    refine (rtext_s _ (HP2.out.ext H1314.out) HPB.out.2 HSQ).mono ?_
    rintro e w15 ⟨rfl, hx⟩
    have HY15 := hid (HY14.out.step hx)
    clear x0 x1 x2 x3 hx
    go_wp2_with fail
    refine (awake3_any w15 (HTT.out.ext HY15.out)).mono ?_
    rintro e wL ⟨rfl, hxL⟩
    have HL9 := hid (HX.out.step (HY15.out.step hxL))
    clear hxL
    go_wp2
    go_ret
    exact ⟨rfl, HL9.out⟩
theorem law_WordLines (v : Value) (m : Int) (us ad : List Int) (Wd : Option Addr) (wn wq : Nat) (ws : List Int) (w : World) (hv : MapV w v m us ad) (h8 : Fit8 v) (hw : Rd w Wd (Is ws)) (hl : ws.length = wn) (hwb2 : wn * 8 ≤ 140737488351232) (ht : Tab w) :
    Calls Tryz.prog 4 #[v, .slice Wd wn wq] w (TruePost w) := by
  have hwb : wn ≤ 140737488351232 := by omega
  by_cases h1 : mapB m us ad = true
  · have hM := hid ((mapB_iff m us ad).1 h1)
    by_cases h2 : wordB m ws = true
    · cases h3 : regB m us with
      | true => exact lines_reg v m us ad Wd wn wq ws w hv h8 hw hl hwb2 hwb ht hM (hid h2) (hid h3)
      | false => exact lines_irr v m us ad Wd wn wq ws w hv h8 hw hl hwb2 hwb ht hM (hid h2) (hid h3)
    · have h2' : wordB m ws = false := by simpa using h2
      exact lines_bad v m us ad Wd wn wq ws w hv h8 hw hl hwb2 hwb ht (b1 := true) (b2 := false) (hid h1) (hid h2') (c := 2) (hid rfl) rfl rfl
  · have h1' : mapB m us ad = false := by simpa using h1
    exact lines_bad v m us ad Wd wn wq ws w hv h8 hw hl hwb2 hwb ht (b1 := false) (hid h1') (hid rfl) (c := 1) (hid rfl) rfl rfl
end Go.Proofs.YtlfbgemceeibiaaGreatDoor
