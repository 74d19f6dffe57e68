/- the law WordTerras -/
import Derived.Test.YtlfbgemceeibiaaGreatDoorJG19
import Derived.Test.YtlfbgemceeibiaaGreatDoorJG26
import Derived.Test.YtlfbgemceeibiaaGreatDoorJG24
import Derived.Test.YtlfbgemceeibiaaGreatDoorJG14
import Derived.Test.YtlfbgemceeibiaaGreatDoorJG07
set_option linter.unusedSimpArgs false
set_option linter.unusedVariables false
namespace Go.Proofs.YtlfbgemceeibiaaGreatDoor
open Go.RowKit
theorem rregular_b (v : Value) (m : Int) (us ad : List Int) (w : World) (hv : MapV w v m us ad) (hM : Hid (mapP m us ad)) {b : Bool} (hb : Hid (regB m us = b)) :
    Calls Tryz.prog 28 #[v] w (fun e w' => e = .returned (.bool b) ∧ Ext w w') := by
  rw [← hb.out]; exact rregular_any v m us ad w hv hM
theorem rvalid_s (X : Int) (s : ByteArray) (w : World) (hf : K.fits X) (hs : Hid (Str (K.txt X) = s)) :
    Calls Tryz.prog 18 #[.string s] w fun e w' => e = .returned (.bool true) ∧ w = w' := by
  have h := rvalid_at (K.txt X) (v := true) w (hid (K.valid_txt X hf)) (len_of (K.txt_len _ hf))
  rwa [hs.out] at h
theorem rcmp_s (va vb : Value) (a b : Int) (w : World) (ha : RefV w va a) (hb : RefV w vb b) (la : a.natAbs ≤ BIG) (lb : b.natAbs ≤ BIG) {c : Int} (hc : Hid (sgnI a b = c)) :
    Calls Tryz.prog 32 #[va, vb] w (fun e w' => e = .returned (.int .i64 c) ∧ Ext w w') := by
  rw [← hc.out]; exact rcmp_any va vb a b w ha hb la lb
theorem wordc_s (v : Value) (m : Int) (us ad : List Int) (y : Int) (s : ByteArray) (k : Nat) (w : World) (hv : MapV w v m us ad) (hb1 : Hid (mapB m us ad = true)) (hf : K.fits y) (hs : Hid (Str (K.txt y) = s)) (hk : k ≤ 200) (ht : Tab w) :
    Calls Tryz.prog 15 #[v, .string s, .int .i64 (k : Int)] w (fun e w' => ∃ A wn f ws, e = .returned (.tuple #[.slice A wn wn, .int .i64 f]) ∧ Rd w' A (Is ws) ∧ ws.length = wn ∧ wn ≤ 200 ∧ WordC m us ad k y ws f ∧ Ext w w') := by
  have h := wordc_any v m us ad (K.txt y) k w hv (len_of (K.txt_len _ hf)) hb1 (hid (K.valid_txt y hf)) hk ht
  rwa [hs.out, K.numL_txt] at h
theorem terras_big {X D R : Int} (hX : K.fits X) (hD : K.fits D) (h0 : 0 ≤ R) (h1 : R < D) : (X - X % D).natAbs ≤ BIG ∧ (X - X % D + R).natAbs ≤ BIG := by
  have h2 := Int.emod_nonneg X (show D ≠ 0 by omega)
  have h3 := Int.emod_lt_of_pos X (show 0 < D by omega)
  have t1 := fits_top hX
  have t2 := fits_top hD
  have e1 : TOP 224 = TOP 1 * TOP 223 := TOP_add 1 223
  have e2 : TOP 1 = 1000000000 := by decide
  have e3 := TOP_pos 223
  have h4 : (X - X % D).natAbs < TOP 224 ∧ (X - X % D + R).natAbs < TOP 224 := by
    rw [e1, e2]
    generalize TOP 223 = t at *
    generalize X % D = q at *
    omega
  exact ⟨le_big h4.1 (by omega), le_big h4.2 (by omega)⟩
theorem terras_mod {X D R : Int} (h0 : 0 ≤ R) (h1 : R < D) : (X - X % D + R) % D = R := by
  have e : X - X % D + R = R + D * (X / D) := by
    have := Int.emod_add_mul_ediv X D
    omega
  rw [e, Int.add_mul_emod_self_left, Int.emod_eq_of_lt h0 h1]
set_option maxRecDepth 100000 in
set_option maxHeartbeats 3200000 in
theorem terras_no (v : Value) (m : Int) (us ad : List Int) (Wd : Option Addr) (wn wq : Nat) (ws : List Int) (l : List UInt8) (w : World) (hv : MapV w v m us ad) (hw : Rd w Wd (Is ws)) (hl : ws.length = wn) (hwb : wn ≤ 140737488351232) (hlen : l.length ≤ 140737488351232) (ht : Tab w) (x1 x2 x3 x4 : Bool) (hb1 : Hid (mapB m us ad = x1)) (hb2 : Hid (regB m us = x2)) (hb3 : Hid (wordB m ws = x3)) (hb4 : Hid (K.validL l = x4)) (HN : Hid (¬ (x1 = true ∧ x2 = true ∧ x3 = true ∧ x4 = true))) :
    Calls Tryz.prog 5 #[v, .slice Wd wn wq, .string (Str l)] w (TruePost w) := by
  have HT := hid ht
  have HV := hid hv
  have HWD := hid hw
  have HL := hid hl
  obtain ⟨A, n, cc, B, n2, d, rfl, -⟩ := hv
  have hx : Ext w (w.alloc (.cells #[.int .i64 m, .slice A n cc, .slice B n2 d] 24)) := (Ext.rfl' w).alloc' _
  have hr1 : Row (w.alloc (.cells #[.int .i64 m, .slice A n cc, .slice B n2 d] 24)) w.heap.size 24 [.int .i64 m, .slice A n cc, .slice B n2 d] := Row.new w _ _
  obtain ⟨W1, hW1⟩ : ∃ W1, (w.alloc (.cells #[.int .i64 m, .slice A n cc, .slice B n2 d] 24)) = W1 := ⟨_, rfl⟩
  rw [hW1] at hx hr1
  have HX := hid hx
  have HW1 := hid hW1
  have RM := hid hr1
  obtain ⟨f0, f1, f2, -, -, -⟩ := row_facts3 hr1
  clear hW1 hx hr1
  go_enter Tryz.func5, Tryz.ntmps5
  go_upto_region 1 with fail
  rw [HW1.out]
  go_wp2_with fail
  refine (refvalid_any _ m us ad W1 (HV.out.ext HX.out) hb1).mono ?_
  rintro e w2 ⟨rfl, hx⟩
  have HE2 := hid hx
  clear f0 f1 f2 hx
  cases x1 with
  | false =>
    go_wp2_with fail
    refine (awake3_any w2 (HT.out.ext (HX.out.step HE2.out))).mono ?_
    rintro e wL ⟨rfl, hxL⟩
    have HL9 := hid (Ext.step (HX.out.step HE2.out) hxL)
    go_wp2
    go_ret
    exact ⟨rfl, HL9.out⟩
  | true =>
    have hM : Hid (mapP m us ad) := hid ((mapB_iff m us ad).1 hb1.out)
    obtain ⟨f0, f1, f2, -, -, -⟩ := row_facts3 (RM.out.ext HE2.out)
    go_wp2_with fail
    refine (rregular_b _ m us ad w2 (HV.out.ext (HX.out.step HE2.out)) hM hb2).mono ?_
    rintro e w3 ⟨rfl, hx⟩
    have HE3 := hid (HE2.out.step hx)
    clear f0 f1 f2 hx
    cases x2 with
    | false =>
      go_wp2_with fail
      refine (awake3_any w3 (HT.out.ext (HX.out.step HE3.out))).mono ?_
      rintro e wL ⟨rfl, hxL⟩
      have HL9 := hid (Ext.step (HX.out.step HE3.out) hxL)
      go_wp2
      go_ret
      exact ⟨rfl, HL9.out⟩
    | true =>
      obtain ⟨f0, f1, f2, -, -, -⟩ := row_facts3 (RM.out.ext HE3.out)
      go_wp2_with fail
      refine (is_any _ m us ad Wd wn wq ws w3 (HV.out.ext (HX.out.step HE3.out)) (HWD.out.ext (HX.out.step HE3.out)) HL.out hwb hb3).mono ?_
      rintro e w4 ⟨rfl, hx⟩
      have HE4 := hid (HE3.out.step hx)
      clear f0 f1 f2 hx
      cases x3 with
      | false =>
        go_wp2_with fail
        refine (awake3_any w4 (HT.out.ext (HX.out.step HE4.out))).mono ?_
        rintro e wL ⟨rfl, hxL⟩
        have HL9 := hid (Ext.step (HX.out.step HE4.out) hxL)
        go_wp2
        go_ret
        exact ⟨rfl, HL9.out⟩
      | true =>
        go_wp2_with fail
        refine (rvalid_at l w4 hb4 hlen).mono ?_
        rintro e wz ⟨rfl, rfl⟩
        cases x4 with
        | false =>
          go_wp2_with fail
          refine (awake3_any w4 (HT.out.ext (HX.out.step HE4.out))).mono ?_
          rintro e wL ⟨rfl, hxL⟩
          have HL9 := hid (Ext.step (HX.out.step HE4.out) hxL)
          go_wp2
          go_ret
          exact ⟨rfl, HL9.out⟩
        | true => exact (HN.out (by simp)).elim
set_option maxRecDepth 100000 in
set_option maxHeartbeats 12800000 in
theorem terras_yes (v : Value) (m : Int) (us ad : List Int) (Wd : Option Addr) (wn wq : Nat) (ws : List Int) (l : List UInt8) (w : World) (hv : MapV w v m us ad) (hw : Rd w Wd (Is ws)) (hl : ws.length = wn) (hwb : wn ≤ 140737488351232) (hlen : l.length ≤ 140737488351232) (ht : Tab w) (hM : Hid (mapP m us ad)) (hb2 : Hid (regB m us = true)) (hb3 : Hid (wordB m ws = true)) (hb4 : Hid (K.validL l = true)) :
    Calls Tryz.prog 5 #[v, .slice Wd wn wq, .string (Str l)] w (TruePost w) := by
  have hb1 : Hid (mapB m us ad = true) := hid ((mapB_iff m us ad).2 hM.out)
  have HT := hid ht
  have HV := hid hv
  have HWD := hid hw
  have HL := hid hl
  obtain ⟨A, n, cc, B, n2, d, rfl, -⟩ := hv
  have hx : Ext w (w.alloc (.cells #[.int .i64 m, .slice A n cc, .slice B n2 d] 24)) := (Ext.rfl' w).alloc' _
  have hr1 : Row (w.alloc (.cells #[.int .i64 m, .slice A n cc, .slice B n2 d] 24)) w.heap.size 24 [.int .i64 m, .slice A n cc, .slice B n2 d] := Row.new w _ _
  obtain ⟨W1, hW1⟩ : ∃ W1, (w.alloc (.cells #[.int .i64 m, .slice A n cc, .slice B n2 d] 24)) = W1 := ⟨_, rfl⟩
  rw [hW1] at hx hr1
  have HX := hid hx
  have HW1 := hid hW1
  have RM := hid hr1
  obtain ⟨f0, f1, f2, -, -, -⟩ := row_facts3 hr1
  clear hW1 hx hr1
  go_enter Tryz.func5, Tryz.ntmps5
  go_upto_region 1 with fail
  rw [HW1.out]
  go_wp2_with fail
  refine (refvalid_any _ m us ad W1 (HV.out.ext HX.out) hb1).mono ?_
  rintro e w2 ⟨rfl, hx⟩
  have HE2 := hid hx
  clear f0 f1 f2 hx
  obtain ⟨f0, f1, f2, -, -, -⟩ := row_facts3 (RM.out.ext HE2.out)
  go_wp2_with fail
  refine (rregular_b _ m us ad w2 (HV.out.ext (HX.out.step HE2.out)) hM hb2).mono ?_
  rintro e w3 ⟨rfl, hx⟩
  have HE3 := hid (HE2.out.step hx)
  clear f0 f1 f2 hx
  obtain ⟨f0, f1, f2, -, -, -⟩ := row_facts3 (RM.out.ext HE3.out)
  go_wp2_with fail
  refine (is_any _ m us ad Wd wn wq ws w3 (HV.out.ext (HX.out.step HE3.out)) (HWD.out.ext (HX.out.step HE3.out)) HL.out hwb hb3).mono ?_
  rintro e w4 ⟨rfl, hx⟩
  have HE4 := hid (HE3.out.step hx)
  clear f0 f1 f2 hx
  go_wp2_with fail
  refine (rvalid_at l w4 hb4 hlen).mono ?_
  rintro e wz ⟨rfl, rfl⟩
  have HWB := hid (wordB_iff.1 hb3.out)
  have h200 : wn ≤ 200 := by rw [← HL.out]; exact HWB.out.1
  obtain ⟨f0, f1, f2, -, -, -⟩ := row_facts3 (RM.out.ext HE4.out)
  go_wp2_with fail
  refine (wrest_ok _ m us ad Wd wn wq ws w4 (HV.out.ext (HX.out.step HE4.out)) (HWD.out.ext (HX.out.step HE4.out)) HL.out hwb hM hb3 hb2 (HT.out.ext (HX.out.step HE4.out))).mono ?_
  rintro e w5 ⟨R, rfl, hR0, hR1, hRI, hx⟩
  have HE5 := hid (HE4.out.step hx)
  clear f0 f1 f2
  have hfd := (lin_fits (us := us) (ad := ad) hM.out hb3.out).2.2
  rw [lineI_div] at hfd
  have hIFF := word_iff hM.out hb2.out HWB.out.2 hR0 hR1 hRI
  obtain ⟨D, hD⟩ : ∃ D, m ^ ws.length = D := ⟨_, rfl⟩
  rw [hD] at hR1 hfd hIFF
  rw [hD]
  have hfr : K.fits R := Nat.lt_of_le_of_lt (show R.natAbs ≤ D.natAbs by omega) hfd
  have HDW := hid hD
  have HIFF := hid hIFF
  have HR0 := hid hR0
  have HR1 := hid hR1
  have HFD := hid hfd
  have HFR := hid hfr
  obtain ⟨sr, hsr⟩ : ∃ sr, Str (K.txt R) = sr := ⟨_, rfl⟩
  obtain ⟨sd, hsd⟩ : ∃ sd, Str (K.txt D) = sd := ⟨_, rfl⟩
  rw [hsr, hsd]
  have HSR := hid hsr
  have HSD := hid hsd
  have hfx := (K.txt_numL l hb4.out).2
  obtain ⟨X, hX⟩ : ∃ X, K.numL l = X := ⟨_, rfl⟩
  rw [hX] at hfx
  have HXL := hid hX
  have HFX := hid hfx
  have sD : sgn0 D = 1 := by unfold sgn0; rw [if_neg (by omega), if_neg (by omega)]
  have sR : sgnI R D = -1 := by unfold sgnI; rw [if_pos hR1]
  obtain ⟨s0, hs0⟩ : ∃ s0, sgn0 R = s0 := ⟨_, rfl⟩
  have qs0 : ¬ s0 < 0 := by rw [← hs0]; unfold sgn0; split <;> (try split) <;> omega
  have HS0 := hid hs0
  have HSD1 := hid sD
  have HSR1 := hid sR
  clear hx hR0 hR1 hRI hfd hIFF hfr hsr hsd hfx hX hs0 sD sR hD
  go_wp2_with fail
  refine (rvalid_s R sr w5 HFR.out HSR).mono ?_
  rintro e wz ⟨rfl, rfl⟩
  go_wp2_with fail
  refine (rvalid_s D sd w5 HFD.out HSD).mono ?_
  rintro e wz ⟨rfl, rfl⟩
  go_wp2_with fail
  refine (parse_s D sd w5 HFD.out HSD).mono ?_
  rintro e w6 ⟨v5, rfl, hv5, hx⟩
  have HE6 := hid (HE5.out.step hx)
  have HV5 := hid hv5
  obtain ⟨A5, k5, c5, xs5, b5, rfl, -⟩ := hv5
  clear hx
  go_wp2_with fail
  refine (rsign_at0 _ HV5.out HSD1).mono ?_
  rintro e w7 ⟨rfl, hx⟩
  have HE7 := hid (HE6.out.step hx)
  clear hx
  go_wp2_with fail
  refine (parse_s R sr w7 HFR.out HSR).mono ?_
  rintro e w8 ⟨v6, rfl, hv6, hx⟩
  have HE8 := hid (HE7.out.step hx)
  have HV6 := hid hv6
  obtain ⟨A6, k6, c6, xs6, b6, rfl, -⟩ := hv6
  clear hx
  go_wp2_with fail
  refine (parse_s D sd w8 HFD.out HSD).mono ?_
  rintro e w9 ⟨v7, rfl, hv7, hx⟩
  have HE9 := hid (HE8.out.step hx)
  have HV7 := hid hv7
  obtain ⟨A7, k7, c7, xs7, b7, rfl, -⟩ := hv7
  have HV6 := hid (HV6.out.ext hx)
  clear hx
  go_wp2_with fail
  refine (parse_any l w9 hb4.out).mono ?_
  rintro e w10 ⟨v8, rfl, hv8, hx⟩
  rw [HXL.out] at hv8
  have HE10 := hid (HE9.out.step hx)
  have HV6 := hid (HV6.out.ext hx)
  have HV7 := hid (HV7.out.ext hx)
  have HV8 := hid hv8
  obtain ⟨A8, k8, c8, xs8, b8, rfl, -⟩ := hv8
  have ha1 := ((((Ext.rfl' w10).alloc' (.cells #[.bool b6, .slice A6 k6 c6] 36)).alloc' (.cells #[.bool b7, .slice A7 k7 c7] 36)).alloc' (.cells #[.bool b8, .slice A8 k8 c8] 36))
  have q1 : Row (((w10.alloc (.cells #[.bool b6, .slice A6 k6 c6] 36)).alloc (.cells #[.bool b7, .slice A7 k7 c7] 36)).alloc (.cells #[.bool b8, .slice A8 k8 c8] 36)) w10.heap.size 36 [.bool b6, .slice A6 k6 c6] := ((Row.new w10 _ _).alloc _).alloc _
  have q2 : Row (((w10.alloc (.cells #[.bool b6, .slice A6 k6 c6] 36)).alloc (.cells #[.bool b7, .slice A7 k7 c7] 36)).alloc (.cells #[.bool b8, .slice A8 k8 c8] 36)) (w10.heap.size + 1) 36 [.bool b7, .slice A7 k7 c7] := by
    have := (Row.new (w10.alloc (.cells #[.bool b6, .slice A6 k6 c6] 36)) 36 [.bool b7, .slice A7 k7 c7]).alloc (.cells #[.bool b8, .slice A8 k8 c8] 36)
    rwa [World.size_alloc] at this
  have q3 : Row (((w10.alloc (.cells #[.bool b6, .slice A6 k6 c6] 36)).alloc (.cells #[.bool b7, .slice A7 k7 c7] 36)).alloc (.cells #[.bool b8, .slice A8 k8 c8] 36)) (w10.heap.size + 1 + 1) 36 [.bool b8, .slice A8 k8 c8] := by
    have := Row.new ((w10.alloc (.cells #[.bool b6, .slice A6 k6 c6] 36)).alloc (.cells #[.bool b7, .slice A7 k7 c7] 36)) 36 [.bool b8, .slice A8 k8 c8]
    rwa [World.size_alloc, World.size_alloc] at this
  obtain ⟨W11, hW11⟩ : ∃ W11, (((w10.alloc (.cells #[.bool b6, .slice A6 k6 c6] 36)).alloc (.cells #[.bool b7, .slice A7 k7 c7] 36)).alloc (.cells #[.bool b8, .slice A8 k8 c8] 36)) = W11 := ⟨_, rfl⟩
  rw [hW11] at ha1 q1 q2 q3
  have HW11 := hid hW11
  have HE11 := hid (HE10.out.step ha1)
  have HV6 := hid (HV6.out.ext ha1)
  have HV7 := hid (HV7.out.ext ha1)
  have HV8 := hid (HV8.out.ext ha1)
  have B6 := hid q1
  have B7 := hid q2
  have B8 := hid q3
  clear hx ha1 q1 q2 q3 hW11
  go_upto_region 7 with fail
  rw [HW11.out]
  obtain ⟨HB6, hHB6⟩ : ∃ HB6, w10.heap.size = HB6 := ⟨_, rfl⟩
  rw [hHB6] at B6 B7 B8
  rw [hHB6]
  clear hHB6
  obtain ⟨g0, g1, -, -⟩ := row_facts B6.out
  go_wp2_with fail
  refine (rsign_at0 _ HV6.out HS0).mono ?_
  rintro e w12 ⟨rfl, hx⟩
  have HE12 := hid (HE11.out.step hx)
  have H112 := hid hx
  clear g0 g1 hx
  obtain ⟨g0, g1, -, -⟩ := row_facts (B6.out.ext H112.out)
  obtain ⟨t0, t1, -, -⟩ := row_facts (B7.out.ext H112.out)
  go_wp2_with fail
  refine (rcmp_s _ _ R D w12 (HV6.out.ext H112.out) (HV7.out.ext H112.out) (fits_big HFR.out) (fits_big HFD.out) HSR1).mono ?_
  rintro e w13 ⟨rfl, hx⟩
  have HE13 := hid (HE12.out.step hx)
  have H113 := hid (H112.out.step hx)
  clear g0 g1 t0 t1 hx
  obtain ⟨g0, g1, -, -⟩ := row_facts (B8.out.ext H113.out)
  obtain ⟨t0, t1, -, -⟩ := row_facts (B7.out.ext H113.out)
  obtain ⟨dn, hdn⟩ := Int.eq_ofNat_of_zero_le (show 0 ≤ D by have := HR0.out; have := HR1.out; omega)
  have HDN := hid hdn
  have HV7N : Hid (RefV w13 (.agg #[.bool b7, .slice A7 k7 c7]) (dn : Int)) := hid (by rw [← hdn]; exact HV7.out.ext H113.out)
  have HD0 := hid (show 0 < dn by have := HR0.out; have := HR1.out; omega)
  have HDB := hid (show dn ≤ BIG by have := fits_big HFD.out; omega)
  clear hdn
  go_wp2_with fail
  refine (rdiv_any _ _ X dn w13 (HV8.out.ext H113.out) HV7N.out (fits_big HFX.out) HDB.out HD0.out).mono ?_
  rintro e w14 ⟨v13, v14, rfl, hq, hr, hx⟩
  rw [← HDN.out] at hr
  have HQ := hid hq
  have HV14 := hid hr
  have HE14 := hid (HE13.out.step hx)
  have H114 := hid (H113.out.step hx)
  obtain ⟨A13, k13, c13, xs13, b13, rfl, -⟩ := hq
  obtain ⟨A14, k14, c14, xs14, b14, rfl, -⟩ := hr
  have ha1 := (((Ext.rfl' w14).alloc' (.cells #[.bool b13, .slice A13 k13 c13] 36)).alloc' (.cells #[.bool b14, .slice A14 k14 c14] 36))
  have q2 : Row ((w14.alloc (.cells #[.bool b13, .slice A13 k13 c13] 36)).alloc (.cells #[.bool b14, .slice A14 k14 c14] 36)) (w14.heap.size + 1) 36 [.bool b14, .slice A14 k14 c14] := by
    have := (Row.new (w14.alloc (.cells #[.bool b13, .slice A13 k13 c13] 36)) 36 [.bool b14, .slice A14 k14 c14])
    rwa [World.size_alloc] at this
  obtain ⟨W15, hW15⟩ : ∃ W15, ((w14.alloc (.cells #[.bool b13, .slice A13 k13 c13] 36)).alloc (.cells #[.bool b14, .slice A14 k14 c14] 36)) = W15 := ⟨_, rfl⟩
  rw [hW15] at ha1 q2
  have HW15 := hid hW15
  have HE15 := hid (HE14.out.step ha1)
  have H115 := hid (H114.out.step ha1)
  have HV14 := hid (HV14.out.ext ha1)
  have B14 := hid q2
  clear g0 g1 t0 t1 hx ha1 q2 hW15
  go_upto_region 10 with fail
  rw [HW15.out]
  obtain ⟨HB12, hHB12⟩ : ∃ HB12, w14.heap.size = HB12 := ⟨_, rfl⟩
  rw [hHB12] at B14
  rw [hHB12]
  clear hHB12
  obtain ⟨f0, f1, f2, -, -, -⟩ := row_facts3 (RM.out.ext HE15.out)
  go_wp2_with fail
  refine (wordc_any _ m us ad l wn W15 (HV.out.ext (HX.out.step HE15.out)) hlen hb1 hb4 h200 (HT.out.ext (HX.out.step HE15.out))).mono ?_
  rintro e w16 ⟨L16, n16, f, ws16, rfl, hr16, hl16, hn16, hwc, hx⟩
  rw [HXL.out] at hwc
  have HR16 := hid hr16
  have HL16 := hid hl16
  have HN16 := hid hn16
  have HWC := hid hwc
  have HE16 := hid (HE15.out.step hx)
  have H116 := hid (H115.out.step hx)
  have H1516 := hid hx
  clear f0 f1 f2 hx hr16 hl16 hn16 hwc
  have HOB0 := hid (show (X % D).natAbs ≤ BIG by
    have h1 := Int.emod_nonneg X (show D ≠ 0 by have := HR0.out; have := HR1.out; omega)
    have h2 := Int.emod_lt_of_pos X (show 0 < D by have := HR0.out; have := HR1.out; omega)
    have := fits_big HFD.out
    omega)
  go_upto_region 11 with fail
  go_cut [113] (fun sx wx => sx = .bool false ∧ Ext w16 wx)
  case first =>
    have HS : Hid (∀ W', Ext w16 W' → W'.cell? ⟨HB6, 0, none⟩ = some (.bool b6) ∧ W'.cell? ⟨HB6, 1, none⟩ = some (.slice A6 k6 c6) ∧ W'.cell? ⟨HB12 + 1, 0, none⟩ = some (.bool b14) ∧ W'.cell? ⟨HB12 + 1, 1, none⟩ = some (.slice A14 k14 c14)) := hid (by
      intro W' e
      obtain ⟨x0, y0, -, -⟩ := row_facts ((B6.out.ext H116.out).ext e)
      obtain ⟨x1, y1, -, -⟩ := row_facts ((B14.out.ext H1516.out).ext e)
      exact ⟨x0, y0, x1, y1⟩)
    clear B6 B14
    clear HT HV RM HW1 HE2 HE3 HE4 HE5 HE6 HE7 HE8 HE9 HE10 HE11 HE12 HE13 HE14 HE15 HSR HSD HS0 HSD1 HSR1 HV5 HV7 HV8 HW11 B7 B8 H112 H113 H114 HDN HV7N HD0 HDB HQ HW15 HXL HFX HDW HR0 HR1 HFD hM hb1 hb2 hb3 hb4 HWB h200 qs0 hlen ht hw hl
    have hcur : Ext w16 w16 := Ext.rfl' _
    rcases HWC.out with ⟨rfl, hwx, -⟩ | ⟨rfl, -, -⟩
    · have hiff : ws16 = ws ↔ X % D = R := by
        rw [hwx, ← HL.out]
        exact wordI_iff.trans (HIFF.out X)
      clear hwx
      by_cases hI : X % D = R
      · have HALK : Hid (true = true ↔ ws16 = ws) := hid ⟨fun _ => hiff.2 hI, fun _ => rfl⟩
        have HCS : Hid (sgnI (X % D) R = 0) := hid (by unfold sgnI; rw [if_neg (by omega), if_neg (by omega)])
        clear hiff hI
        first
          | (go_region_held_law (fun W' => W'.cell? ⟨HB6, 0, none⟩ = some (.bool b6) ∧ W'.cell? ⟨HB6, 1, none⟩ = some (.slice A6 k6 c6) ∧ W'.cell? ⟨HB12 + 1, 0, none⟩ = some (.bool b14) ∧ W'.cell? ⟨HB12 + 1, 1, none⟩ = some (.slice A14 k14 c14))
              (first | (with_reducible exact HS.out _ hcur) | (with_reducible exact HS.out _ hcur.drew') | go_keep)
              (first
                | (go_at_call 22; refine (ralike_any L16 Wd n16 n16 wn wq ws16 ws _ (HR16.out.ext ?_) (HWD.out.ext ((HX.out.step HE16.out).step ?_)) HL16.out HL.out (by have := HN16.out; omega) hwb HALK).mono ?_; (first | exact hcur | exact hcur.drew' | exact hcur.alloc' _ | exact hcur.drew'.alloc' _ | exact (hcur.alloc' _).drew'); (first | exact hcur | exact hcur.drew' | exact hcur.alloc' _ | exact hcur.drew'.alloc' _ | exact (hcur.alloc' _).drew'); rintro e w30 ⟨rfl, hx⟩; have hcur := Ext.step hcur (by first | exact hx | exact Ext.undrew hx | exact Ext.step ((Ext.rfl' _).alloc' _) hx | exact Ext.step ((Ext.rfl' _).drew'.alloc' _) hx))
                | (go_at_call 32; refine (rcmp_s _ _ (X % D) R _ ((HV14.out.ext H1516.out).ext ?_) ((HV6.out.ext H116.out).ext ?_) HOB0.out (fits_big HFR.out) HCS).mono ?_; (first | exact hcur | exact hcur.drew' | exact hcur.alloc' _ | exact hcur.drew'.alloc' _ | exact (hcur.alloc' _).drew'); (first | exact hcur | exact hcur.drew' | exact hcur.alloc' _ | exact hcur.drew'.alloc' _ | exact (hcur.alloc' _).drew'); rintro e w31 ⟨rfl, hx⟩; have hcur := Ext.step hcur (by first | exact hx | exact Ext.undrew hx | exact Ext.step ((Ext.rfl' _).alloc' _) hx | exact Ext.step ((Ext.rfl' _).drew'.alloc' _) hx))))
          | fail
        all_goals
          go_wp2_with fail
          go_meet
          exact ⟨rfl, hcur⟩
      · have HALK : Hid (false = true ↔ ws16 = ws) := hid ⟨fun h => Bool.noConfusion h, fun h => absurd (hiff.1 h) hI⟩
        obtain ⟨c0, hc0⟩ : ∃ c0, sgnI (X % D) R = c0 := ⟨_, rfl⟩
        have HCS := hid hc0
        have q0 : ¬ c0 = 0 := by rw [← hc0]; unfold sgnI; split <;> (try split) <;> omega
        have q1 : (c0 == 0) = false := beq_eq_false_iff_ne.2 q0
        have q2 : (c0 != 0) = true := by rw [bne, q1]; rfl
        clear hiff hI hc0
        first
          | (go_region_held_law (fun W' => W'.cell? ⟨HB6, 0, none⟩ = some (.bool b6) ∧ W'.cell? ⟨HB6, 1, none⟩ = some (.slice A6 k6 c6) ∧ W'.cell? ⟨HB12 + 1, 0, none⟩ = some (.bool b14) ∧ W'.cell? ⟨HB12 + 1, 1, none⟩ = some (.slice A14 k14 c14))
              (first | (with_reducible exact HS.out _ hcur) | (with_reducible exact HS.out _ hcur.drew') | go_keep)
              (first
                | (go_at_call 22; refine (ralike_any L16 Wd n16 n16 wn wq ws16 ws _ (HR16.out.ext ?_) (HWD.out.ext ((HX.out.step HE16.out).step ?_)) HL16.out HL.out (by have := HN16.out; omega) hwb HALK).mono ?_; (first | exact hcur | exact hcur.drew' | exact hcur.alloc' _ | exact hcur.drew'.alloc' _ | exact (hcur.alloc' _).drew'); (first | exact hcur | exact hcur.drew' | exact hcur.alloc' _ | exact hcur.drew'.alloc' _ | exact (hcur.alloc' _).drew'); rintro e w30 ⟨rfl, hx⟩; have hcur := Ext.step hcur (by first | exact hx | exact Ext.undrew hx | exact Ext.step ((Ext.rfl' _).alloc' _) hx | exact Ext.step ((Ext.rfl' _).drew'.alloc' _) hx))
                | (go_at_call 32; refine (rcmp_s _ _ (X % D) R _ ((HV14.out.ext H1516.out).ext ?_) ((HV6.out.ext H116.out).ext ?_) HOB0.out (fits_big HFR.out) HCS).mono ?_; (first | exact hcur | exact hcur.drew' | exact hcur.alloc' _ | exact hcur.drew'.alloc' _ | exact (hcur.alloc' _).drew'); (first | exact hcur | exact hcur.drew' | exact hcur.alloc' _ | exact hcur.drew'.alloc' _ | exact (hcur.alloc' _).drew'); rintro e w31 ⟨rfl, hx⟩; have hcur := Ext.step hcur (by first | exact hx | exact Ext.undrew hx | exact Ext.step ((Ext.rfl' _).alloc' _) hx | exact Ext.step ((Ext.rfl' _).drew'.alloc' _) hx))))
          | fail
        all_goals
          go_wp2_with fail
          go_meet
          exact ⟨rfl, hcur⟩
    · clear HS
      go_quiet (fail)
      all_goals
        go_wp2_with fail
        go_meet
        exact ⟨rfl, by first | exact hcur | exact hcur.drewN _⟩
  case rest =>
    obtain ⟨rfl, h1617⟩ := hcut
    have H1617 := hid h1617
    have H117 := hid (H116.out.step h1617)
    clear h1617
    have HS : Hid (∀ W', Ext wc W' → W'.cell? ⟨HB6, 0, none⟩ = some (.bool b6) ∧ W'.cell? ⟨HB6, 1, none⟩ = some (.slice A6 k6 c6) ∧ W'.cell? ⟨HB6 + 1 + 1, 0, none⟩ = some (.bool b8) ∧ W'.cell? ⟨HB6 + 1 + 1, 1, none⟩ = some (.slice A8 k8 c8) ∧ W'.cell? ⟨HB12 + 1, 0, none⟩ = some (.bool b14) ∧ W'.cell? ⟨HB12 + 1, 1, none⟩ = some (.slice A14 k14 c14)) := hid (by
      intro W' e
      obtain ⟨x0, y0, -, -⟩ := row_facts ((B6.out.ext H117.out).ext e)
      obtain ⟨x1, y1, -, -⟩ := row_facts ((B8.out.ext H117.out).ext e)
      obtain ⟨x2, y2, -, -⟩ := row_facts ((B14.out.ext (H1516.out.step H1617.out)).ext e)
      exact ⟨x0, y0, x1, y1, x2, y2⟩)
    have HE17 := hid (HE16.out.step H1617.out)
    have hcur : Ext wc wc := Ext.rfl' _
    have HVX := hid (HV8.out.ext H117.out)
    have HVO := hid (HV14.out.ext (H1516.out.step H1617.out))
    have HVR := hid (HV6.out.ext H117.out)
    have HOB := hid (show (X % D).natAbs ≤ BIG by
      have h1 := Int.emod_nonneg X (show D ≠ 0 by have := HR0.out; have := HR1.out; omega)
      have h2 := Int.emod_lt_of_pos X (show 0 < D by have := HR0.out; have := HR1.out; omega)
      have := fits_big HFD.out
      omega)
    have HYB := hid (terras_big HFX.out HFD.out HR0.out HR1.out)
    go_upto_region 13 with fail
    go_cut [17] (fun sx wx => ∃ (WN : World) (g : Nat) (b : Bool) (P : Option Addr) (k c : Nat), WN = wx ∧ sx = .pointer (some ⟨g, 0, none⟩) ∧ Row wx g 36 [.bool b, .slice P k c] ∧ RefV wx (.agg #[.bool b, .slice P k c]) (X - X % D + R) ∧ Ext wc wx)
    case first =>
      clear HT HV RM HW1 HE2 HE3 HE4 HE5 HE6 HE7 HE8 HE9 HE10 HE11 HE12 HE13 HE14 HE15 HE16 HE17 HSR HSD HS0 HSD1 HSR1 HV5 HV6 HV7 HV8 HV14 HW11 B6 B7 B8 B14 H112 H113 H114 H115 H116 H117 H1516 H1617 HDN HV7N HD0 HDB HQ HW15 HXL HDW HR0 HR1 HFD hM hb1 hb2 hb3 hb4 HWB h200 qs0 hlen ht hw hl HWD HL HX HIFF HR16 HL16 HN16 HWC HOB0 hwb
      go_region_held3 (fun W' => W'.cell? ⟨HB6, 0, none⟩ = some (.bool b6) ∧ W'.cell? ⟨HB6, 1, none⟩ = some (.slice A6 k6 c6) ∧ W'.cell? ⟨HB6 + 1 + 1, 0, none⟩ = some (.bool b8) ∧ W'.cell? ⟨HB6 + 1 + 1, 1, none⟩ = some (.slice A8 k8 c8) ∧ W'.cell? ⟨HB12 + 1, 0, none⟩ = some (.bool b14) ∧ W'.cell? ⟨HB12 + 1, 1, none⟩ = some (.slice A14 k14 c14))
        (first | exact HS.out _ hcur | exact HS.out _ hcur.drew' | exact HS.out _ (hcur.alloc' _) | exact HS.out _ (hcur.drew'.alloc' _) | exact HS.out _ ((hcur.set' HB2.out.1 _).set' HB2.out.1 _) | go_keep)
        (first
          | (go_at_call 35; refine (rsub_any _ _ X (X % D) _ (HVX.out.ext ?_) (HVO.out.ext ?_) (fits_big HFX.out) HOB.out).mono ?_; (first | exact hcur | exact hcur.drew' | exact hcur.alloc' _ | exact hcur.drew'.alloc' _ | exact (hcur.alloc' _).drew'); (first | exact hcur | exact hcur.drew' | exact hcur.alloc' _ | exact hcur.drew'.alloc' _ | exact (hcur.alloc' _).drew'); rintro e w20 ⟨v20, rfl, hv20, hx⟩; (first | have HB2 := hid (HB2.out.ext hx) | have HB2 := hid ((NB.new hcur.size).ext hx) | have HB2 := hid ((NB.newD hcur.size).ext hx) | skip); have hcur := Ext.step hcur (by first | exact hx | exact Ext.undrew hx | exact Ext.step ((Ext.rfl' _).alloc' _) hx | exact Ext.step ((Ext.rfl' _).drew'.alloc' _) hx); have HV20 := hid hv20; obtain ⟨A20, k20, c20, xs20, b20, rfl, -⟩ := hv20; (first | (have hyy := row_facts HB2.out.2; obtain ⟨y0, y1, y2, y3⟩ := hyy) | skip))
          | (go_at_call 34; refine (radd_any _ _ (X - X % D) R _ (HV20.out.ext ?_) (HVR.out.ext ?_) HYB.out.1 (fits_big HFR.out)).mono ?_; (first | exact Ext.rfl' _ | exact (Ext.rfl' _).drew' | exact (Ext.rfl' _).alloc' _ | exact (Ext.rfl' _).drew'.alloc' _); (first | exact hcur | exact hcur.drew' | exact hcur.alloc' _ | exact hcur.drew'.alloc' _ | exact (hcur.alloc' _).drew'); rintro e w21 ⟨v21, rfl, hv21, hx⟩; (first | have HB2 := hid (HB2.out.ext hx) | have HB2 := hid ((NB.new hcur.size).ext hx) | have HB2 := hid ((NB.newD hcur.size).ext hx) | skip); have hcur := Ext.step hcur (by first | exact hx | exact Ext.undrew hx | exact Ext.step ((Ext.rfl' _).alloc' _) hx | exact Ext.step ((Ext.rfl' _).drew'.alloc' _) hx); have HV21 := hid hv21; obtain ⟨A21, k21, c21, xs21, b21, rfl, -⟩ := hv21; (first | (have hyy := row_facts HB2.out.2; obtain ⟨y0, y1, y2, y3⟩ := hyy) | skip)))
      all_goals
        go_wp2_with fail
        go_meet
        first
          | exact ⟨_, _, b21, A21, k21, c21, rfl, rfl, (HB2.out.2.set 0 _).set 1 _, HV21.out.box HB2.out.2, (hcur.set' HB2.out.1 _).set' HB2.out.1 _⟩
          | exact ⟨_, _, b21, A21, k21, c21, rfl, rfl, Row.new _ _ [.bool b21, .slice A21 k21 c21], HV21.out.ext ((Ext.rfl' _).alloc' _), hcur.alloc' _⟩
    case rest =>
      obtain ⟨W18, g18, b18, A18, k18, c18, rfl, rfl, hrow, hvx, hex⟩ := hcut
      clear hcur
      obtain ⟨y, hy⟩ : ∃ y, X - X % D + R = y := ⟨_, rfl⟩
      rw [hy] at hvx
      have HYD : Hid (y % D = R) := hid (by rw [← hy]; exact terras_mod HR0.out HR1.out)
      have HYB2 : Hid (y.natAbs ≤ BIG) := hid (by rw [← hy]; exact HYB.out.2)
      have B18 := hid hrow
      have HV18 := hid hvx
      have HE18 := hid (HE17.out.step hex)
      clear hrow hvx hex hy HS HVX HVO HVR HOB HYB HE2 HE3 HE4 HE5 HE6 HE7 HE8 HE9 HE10 HE11 HE12 HE13 HE14 HE15 HE16 HSR HSD HS0 HSD1 HSR1 HV5 HV6 HV7 HV8 HV14 HW11 HW1 B6 B7 B8 B14 H112 H113 H114 H115 H116 H117 H1516 H1617 HDN HV7N HD0 HDB HQ HW15 HXL HDW HR0 HR1 HFD HR16 HL16 HN16 HWC HOB0 qs0 HFR HFX hlen ht hw hl hb2 hb3 hb4 HWB hM
      obtain ⟨g0, g1, -, -⟩ := row_facts B18.out
      by_cases hf : K.fits y
      case neg =>
        have HFN := hid hf
        clear hf
        go_wp2_with fail
        refine (rfits_any _ y W18 HV18.out HYB2.out false (hid ⟨fun h => Bool.noConfusion h, fun h => absurd h HFN.out⟩)).mono ?_
        rintro e w19 ⟨rfl, hx⟩
        have HE19 := hid (HE18.out.step hx)
        clear g0 g1 hx
        go_wp2_with fail
        refine (awake3_any w19 (HT.out.ext (HX.out.step HE19.out))).mono ?_
        rintro e wL ⟨rfl, hxL⟩
        have HL9 := hid (Ext.step (HX.out.step HE19.out) hxL)
        go_wp2
        go_ret
        exact ⟨rfl, HL9.out⟩
      case pos =>
        have HFY := hid hf
        clear hf
        go_wp2_with fail
        refine (rfits_any _ y W18 HV18.out HYB2.out true (hid ⟨fun _ => HFY.out, fun _ => rfl⟩)).mono ?_
        rintro e w19 ⟨rfl, hx⟩
        have HE19 := hid (HE18.out.step hx)
        have HV19 := hid (HV18.out.ext hx)
        have B19 := hid (B18.out.ext hx)
        clear g0 g1 hx
        obtain ⟨sy, hsy⟩ : ∃ sy, Str (K.txt y) = sy := ⟨_, rfl⟩
        have HSY := hid hsy
        clear hsy
        have HS : Hid (∀ W', Ext w19 W' → W'.cell? ⟨w.heap.size, 0, none⟩ = some (.int .i64 m) ∧ W'.cell? ⟨w.heap.size, 1, none⟩ = some (.slice A n cc) ∧ W'.cell? ⟨w.heap.size, 2, none⟩ = some (.slice B n2 d) ∧ W'.cell? ⟨g18, 0, none⟩ = some (.bool b18) ∧ W'.cell? ⟨g18, 1, none⟩ = some (.slice A18 k18 c18)) := hid (by
          intro W' e
          obtain ⟨x0, y0, z0, -, -, -⟩ := row_facts3 (RM.out.ext (HE19.out.step e))
          obtain ⟨x1, y1, -, -⟩ := row_facts (B19.out.ext e)
          exact ⟨x0, y0, z0, x1, y1⟩)
        have hcur : Ext w19 w19 := Ext.rfl' _
        go_upto_region 16 with fail
        go_region_held3 (fun W' => W'.cell? ⟨w.heap.size, 0, none⟩ = some (.int .i64 m) ∧ W'.cell? ⟨w.heap.size, 1, none⟩ = some (.slice A n cc) ∧ W'.cell? ⟨w.heap.size, 2, none⟩ = some (.slice B n2 d) ∧ W'.cell? ⟨g18, 0, none⟩ = some (.bool b18) ∧ W'.cell? ⟨g18, 1, none⟩ = some (.slice A18 k18 c18))
          (first | (with_reducible exact HS.out _ hcur) | (with_reducible exact HS.out _ hcur.drew') | (with_reducible exact HS.out _ (hcur.alloc' _)) | (with_reducible exact HS.out _ (hcur.drew'.alloc' _)) | exact HS.out _ ((hcur.set' HB2.out.1 _).set' HB2.out.1 _) | go_keep)
          (first
            | (go_at_call 30; refine (rtext_s _ (HV19.out.ext ?_) HYB2.out HSY).mono ?_; (first | exact hcur | exact hcur.drew' | exact hcur.alloc' _ | exact hcur.drew'.alloc' _ | exact (hcur.alloc' _).drew'); rintro e w22 ⟨rfl, hx⟩; have hcur := Ext.step hcur (by first | exact hx | exact Ext.undrew hx | exact Ext.step ((Ext.rfl' _).alloc' _) hx | exact Ext.step ((Ext.rfl' _).drew'.alloc' _) hx))
            | (go_at_call 15; refine (wordc_s _ m us ad y sy wn _ (HV.out.ext ((HX.out.step HE19.out).step ?_)) hb1 HFY.out HSY h200 (HT.out.ext ((HX.out.step HE19.out).step ?_))).mono ?_; (first | exact hcur | exact hcur.drew' | exact hcur.alloc' _ | exact hcur.drew'.alloc' _ | exact (hcur.alloc' _).drew'); (first | exact hcur | exact hcur.drew' | exact hcur.alloc' _ | exact hcur.drew'.alloc' _ | exact (hcur.alloc' _).drew'); rintro e w23 ⟨L23, n23, f23, ws23, rfl, hr23, hl23, hn23, hwc, hx⟩; have hcur := Ext.step hcur (by first | exact hx | exact Ext.undrew hx | exact Ext.step ((Ext.rfl' _).alloc' _) hx | exact Ext.step ((Ext.rfl' _).drew'.alloc' _) hx); have HR23 := hid hr23; have HL23 := hid hl23; have HWC2 := hid hwc; have HN23 := hid hn23))
        all_goals
          have HE23 := hid (HE19.out.step hcur)
          clear hr23 hl23 hn23 hwc
          rcases HWC2.out with ⟨rfl, hwy, -⟩ | ⟨rfl, -, -⟩
          · have HEQ : Hid (ws23 = ws) := hid (by
              rw [hwy, ← HL.out]; exact wordI_iff.2 ((HIFF.out y).2 HYD.out))
            clear hwy
            go_wp2_with fail
            refine (ralike_any L23 Wd n23 n23 wn wq ws23 ws w23 HR23.out (HWD.out.ext (HX.out.step HE23.out)) HL23.out HL.out (by have := HN23.out; omega) hwb (b := true) (hid ⟨fun _ => HEQ.out, fun _ => rfl⟩)).mono ?_
            rintro e w24 ⟨rfl, hx⟩
            have HE24 := hid (HE23.out.step hx)
            clear hx
            go_wp2_with fail
            refine (awake3_any w24 (HT.out.ext (HX.out.step HE24.out))).mono ?_
            rintro e wL ⟨rfl, hxL⟩
            have HL9 := hid (Ext.step (HX.out.step HE24.out) hxL)
            go_wp2
            go_ret
            exact ⟨rfl, HL9.out⟩
          · 
            go_wp2_with fail
            refine (awake3_any w23 (HT.out.ext (HX.out.step HE23.out))).mono ?_
            rintro e wL ⟨rfl, hxL⟩
            have HL9 := hid (Ext.step (HX.out.step HE23.out) hxL)
            go_wp2
            go_ret
            exact ⟨rfl, HL9.out⟩
theorem law_WordTerras (v : Value) (m : Int) (us ad : List Int) (Wd : Option Addr) (wn wq : Nat) (ws : List Int) (l : List UInt8) (w : World) (hv : MapV w v m us ad) (hw : Rd w Wd (Is ws)) (hl : ws.length = wn) (hwb : wn ≤ 140737488351232) (hlen : l.length ≤ 140737488351232) (ht : Tab w) : Calls Tryz.prog 5 #[v, .slice Wd wn wq, .string (Str l)] w (TruePost w) := by
  by_cases h : mapB m us ad = true ∧ regB m us = true ∧ wordB m ws = true ∧ K.validL l = true
  · exact terras_yes v m us ad Wd wn wq ws l w hv hw hl hwb hlen ht (hid ((mapB_iff m us ad).1 h.1)) (hid h.2.1) (hid h.2.2.1) (hid h.2.2.2)
  · exact terras_no v m us ad Wd wn wq ws l w hv hw hl hwb hlen ht _ _ _ _ (hid rfl) (hid rfl) (hid rfl) (hid rfl) (hid h)
end Go.Proofs.YtlfbgemceeibiaaGreatDoor
