/- the law WordLinear -/
import Derived.Test.YtflgkijmbpcnfaaGreatDoorJG36
set_option linter.unusedSimpArgs false
set_option linter.unusedVariables false
namespace Go.Proofs.YtflgkijmbpcnfaaGreatDoor
open Go.RowKit
theorem powers_div {m : Int} {us ad ws : List Int} (hm : 0 < m) : 0 < (lineI m us ad ws).2.2 := by
  rw [lineI_div]; exact Int.pow_pos hm
theorem lin_fits {m : Int} {us ad ws : List Int} (hM : mapP m us ad) (hW : wordB m ws = true) : K.fits (lineI m us ad ws).1 ∧ K.fits (lineI m us ad ws).2.1 ∧ K.fits (lineI m us ad ws).2.2 := by
  have hw := wordB_iff.1 hW
  have hB := lineI_B hM ws hw.2
  have hm := hM.1
  have hf := hB.fits hM hw.1 (r := 0) (by omega) (by omega)
  exact ⟨hf.1, hf.2.1, hf.2.2.1⟩
set_option maxRecDepth 100000 in
set_option maxHeartbeats 1600000 in
theorem linear_no (v : Value) (m : Int) (us ad : List Int) (l : List UInt8) (k : Int) (x1 x2 : Bool) (w : World) (hv : MapV w v m us ad) (hlen : l.length ≤ 140737488351232) (ht : Tab w)
    (hb1 : Hid (mapB m us ad = x1)) (hb2 : Hid (K.validL l = x2)) (HN : Hid (¬ (x1 = true ∧ x2 = true ∧ 0 ≤ k ∧ k ≤ 200))) :
    Calls Tryz.prog 11 #[v, .string (Str l), .int .i64 k] w (TruePost w) := by
  have HT := hid ht
  have HV := hid hv
  obtain ⟨A, n, cc, B, n2, d, rfl, -⟩ := hv
  have hx : Ext w (w.alloc (.cells #[.int .i64 m, .slice A n cc, .slice B n2 d] 24)) := (Ext.rfl' w).alloc' _
  have hr1 : Row (w.alloc (.cells #[.int .i64 m, .slice A n cc, .slice B n2 d] 24)) w.heap.size 24 [.int .i64 m, .slice A n cc, .slice B n2 d] := Row.new w _ _
  obtain ⟨W1, hW1⟩ : ∃ W1, (w.alloc (.cells #[.int .i64 m, .slice A n cc, .slice B n2 d] 24)) = W1 := ⟨_, rfl⟩
  rw [hW1] at hx hr1
  have HX := hid hx
  have HW1 := hid hW1
  have R1 := hid hr1
  obtain ⟨f0, f1, f2, -, -, -⟩ := row_facts3 hr1
  clear hW1 hx hr1
  go_enter Tryz.func11, Tryz.ntmps11
  go_upto_region 1 with fail
  rw [HW1.out]
  go_wp2_with fail
  refine (refvalid_any _ m us ad W1 (HV.out.ext HX.out) hb1).mono ?_
  rintro e w2 ⟨rfl, hx2⟩
  have HE2 := hid hx2
  clear f0 f1 f2 hx2
  obtain ⟨f0, f1, f2, -, -, -⟩ := row_facts3 (R1.out.ext HE2.out)
  cases x1 with
  | false =>
    go_wp2_with fail
    refine (awake3_any w2 (HT.out.ext (HX.out.step HE2.out))).mono ?_
    rintro e wL ⟨rfl, hxL⟩
    have HL9 := hid (Ext.step (HX.out.step HE2.out) hxL)
    go_wp2
    go_ret
    exact ⟨rfl, HL9.out⟩
  | true =>
    go_wp2_with fail
    refine (rvalid_at l w2 hb2 hlen).mono ?_
    rintro e wz ⟨rfl, rfl⟩
    cases x2 with
    | false =>
      go_wp2_with fail
      refine (awake3_any w2 (HT.out.ext (HX.out.step HE2.out))).mono ?_
      rintro e wL ⟨rfl, hxL⟩
      have HL9 := hid (Ext.step (HX.out.step HE2.out) hxL)
      go_wp2
      go_ret
      exact ⟨rfl, HL9.out⟩
    | true =>
      by_cases h0 : k < 0
      · clear f0 f1 f2
        go_wp2_with fail
        refine (awake3_any w2 (HT.out.ext (HX.out.step HE2.out))).mono ?_
        rintro e wL ⟨rfl, hxL⟩
        have HL9 := hid (Ext.step (HX.out.step HE2.out) hxL)
        go_wp2
        go_ret
        exact ⟨rfl, HL9.out⟩
      · have h1 : 200 < k := by
          rcases Int.lt_or_le 200 k with h | h
          · exact h
          · exact (HN.out (by refine ⟨?_, ?_, ?_, ?_⟩ <;> first | trivial | omega)).elim
        clear f0 f1 f2
        go_wp2_with fail
        refine (awake3_any w2 (HT.out.ext (HX.out.step HE2.out))).mono ?_
        rintro e wL ⟨rfl, hxL⟩
        have HL9 := hid (Ext.step (HX.out.step HE2.out) hxL)
        go_wp2
        go_ret
        exact ⟨rfl, HL9.out⟩
set_option maxRecDepth 100000 in
set_option maxHeartbeats 6400000 in
theorem linear_yes (v : Value) (m : Int) (us ad : List Int) (l : List UInt8) (k : Nat) (w : World) (hv : MapV w v m us ad) (hlen : l.length ≤ 140737488351232) (ht : Tab w)
    (hM : Hid (mapP m us ad)) (hb2 : Hid (K.validL l = true)) (hk : k ≤ 200) :
    Calls Tryz.prog 11 #[v, .string (Str l), .int .i64 (k : Int)] w (TruePost w) := by
  have hb1 : Hid (mapB m us ad = true) := hid ((mapB_iff _ _ _).2 hM.out)
  have q0 : ¬ (k : Int) < 0 := by omega
  have q1 : ¬ (200 : Int) < (k : Int) := by omega
  have HT := hid ht
  have HV := hid hv
  obtain ⟨A, n, cc, B, n2, d, rfl, -⟩ := hv
  have hx : Ext w (w.alloc (.cells #[.int .i64 m, .slice A n cc, .slice B n2 d] 24)) := (Ext.rfl' w).alloc' _
  have hr1 : Row (w.alloc (.cells #[.int .i64 m, .slice A n cc, .slice B n2 d] 24)) w.heap.size 24 [.int .i64 m, .slice A n cc, .slice B n2 d] := Row.new w _ _
  obtain ⟨W1, hW1⟩ : ∃ W1, (w.alloc (.cells #[.int .i64 m, .slice A n cc, .slice B n2 d] 24)) = W1 := ⟨_, rfl⟩
  rw [hW1] at hx hr1
  have HX := hid hx
  have HW1 := hid hW1
  have R1 := hid hr1
  obtain ⟨f0, f1, f2, -, -, -⟩ := row_facts3 hr1
  clear hW1 hx hr1
  go_enter Tryz.func11, Tryz.ntmps11
  go_upto_region 1 with fail
  rw [HW1.out]
  go_wp2_with fail
  refine (refvalid_any _ m us ad W1 (HV.out.ext HX.out) hb1).mono ?_
  rintro e w2 ⟨rfl, hx2⟩
  have HE2 := hid hx2
  clear f0 f1 f2 hx2
  obtain ⟨f0, f1, f2, -, -, -⟩ := row_facts3 (R1.out.ext HE2.out)
  go_wp2_with fail
  refine (rvalid_at l w2 hb2 hlen).mono ?_
  rintro e wz ⟨rfl, rfl⟩
  go_wp2_with fail
  refine (wordl_any _ m us ad l k w2 (HV.out.ext (HX.out.step HE2.out)) hlen hb1 hb2 hk (HT.out.ext (HX.out.step HE2.out))).mono ?_
  rintro e w3 ⟨Wd, wn, f, ws, rfl, hr3, hl3, hn3, hws, hx3⟩
  have HR3 := hid hr3
  have HL3 := hid hl3
  have HWS := hid hws
  have HE3 := hid (HE2.out.step hx3)
  clear f0 f1 f2 hr3 hl3 hws
  have H23 := hid hx3
  clear hx3
  obtain ⟨f0, f1, f2, -, -, -⟩ := row_facts3 (R1.out.ext HE3.out)
  go_wp2_with fail
  refine (run_ok _ m us ad l k w3 (HV.out.ext (HX.out.step HE3.out)) hM hb2 (by omega) (HT.out.ext (HX.out.step HE3.out))).mono ?_
  rintro e w4 ⟨rfl, hx4⟩
  have HE4 := hid (HE3.out.step hx4)
  have HR4 := hid (HR3.out.ext hx4)
  clear f0 f1 f2 hx4
  obtain ⟨f0, f1, f2, -, -, -⟩ := row_facts3 (R1.out.ext HE4.out)
  rcases HWS.out with ⟨rfl, hww, hrun⟩ | ⟨rfl, hrun⟩
  case inr =>
    rw [hrun, show strO none = ⟨#[]⟩ from rfl, show codeO none = 3 from rfl]
    clear f0 f1 f2 hrun
    go_wp2_with fail
    refine (awake3_any w4 (HT.out.ext (HX.out.step HE4.out))).mono ?_
    rintro e wL ⟨rfl, hxL⟩
    have HL9 := hid (Ext.step (HX.out.step HE4.out) hxL)
    go_wp2
    go_ret
    exact ⟨rfl, HL9.out⟩
  case inl =>
    have HWW := hid hww
    have HRUN := hid hrun
    have hD := (powers_div (ws := ws) (m := m) (us := us) (ad := ad) (by have := hM.out.1; omega))
    have hWB : wordB m ws = true := by rw [hww]; exact word_B (by have := hM.out.1; omega) hk
    have hfits := lin_fits hM.out hWB
    have hlin := lin_orb hM.out (K.numL l) k
    rw [← hww] at hlin
    obtain ⟨M, hMM⟩ : ∃ M, (lineI m us ad ws).1 = M := ⟨_, rfl⟩
    obtain ⟨Ad, hAA⟩ : ∃ Ad, (lineI m us ad ws).2.1 = Ad := ⟨_, rfl⟩
    obtain ⟨D, hDD⟩ : ∃ D, (lineI m us ad ws).2.2 = D := ⟨_, rfl⟩
    obtain ⟨y, hy⟩ : ∃ y, orbN m us ad k (K.numL l) = y := ⟨_, rfl⟩
    unfold RunS at hrun
    rw [hMM, hAA, hDD] at hfits
    rw [hMM, hAA, hDD, hy] at hlin
    rw [hDD] at hD
    rw [hy] at hrun
    obtain ⟨su, hsu⟩ : ∃ su, Str (K.txt M) = su := ⟨_, rfl⟩
    obtain ⟨sa, hsa⟩ : ∃ sa, Str (K.txt Ad) = sa := ⟨_, rfl⟩
    obtain ⟨sd, hsd⟩ : ∃ sd, Str (K.txt D) = sd := ⟨_, rfl⟩
    obtain ⟨sy, hsy⟩ : ∃ sy, Str (K.txt y) = sy := ⟨_, rfl⟩
    have HSU := hid hsu
    have HSA := hid hsa
    have HSD := hid hsd
    have HSY := hid hsy
    have H1 : Hid (Str (K.txt (lineI m us ad ws).1) = su) := hid (by rw [hMM, hsu])
    have H2 : Hid (Str (K.txt (lineI m us ad ws).2.1) = sa) := hid (by rw [hAA, hsa])
    have H3 : Hid (Str (K.txt (lineI m us ad ws).2.2) = sd) := hid (by rw [hDD, hsd])
    have HFT := hid hfits
    have HLIN := hid hlin
    have HD := hid hD
    have HWB := hid hWB
    have HRN := hid hrun
    obtain ⟨ro, hro⟩ : ∃ ro, strO (runO m us ad k (K.numL l)) = ro := ⟨_, rfl⟩
    obtain ⟨co, hco⟩ : ∃ co, codeO (runO m us ad k (K.numL l)) = co := ⟨_, rfl⟩
    rw [hro, hco]
    have HRO := hid hro
    have HCO := hid hco
    clear hMM hAA hDD hy hsu hsa hsd hsy hfits hlin hD hWB hrun hro hco hww
    go_wp2_with fail
    refine (line_s _ m us ad Wd wn wn ws su sa sd w4 (HV.out.ext (HX.out.step HE4.out)) HR4.out HL3.out (by omega) hM HWB (HT.out.ext (HX.out.step HE4.out)) H1 H2 H3).mono ?_
    rintro e w5 ⟨rfl, hx5⟩
    have hy5 := (HE4.out.step hx5).alloc' (.cells #[.string su, .string sa, .string sd] 66)
    have r5 := Row.new w5 66 [.string su, .string sa, .string sd]
    obtain ⟨W5, hW5⟩ : ∃ W5, w5.alloc (.cells #[.string su, .string sa, .string sd] 66) = W5 := ⟨_, rfl⟩
    rw [hW5] at hy5
    have R5 : Hid (Row W5 w5.heap.size 66 [.string su, .string sa, .string sd]) := hid (by rw [← hW5]; exact r5)
    have HE5 := hid hy5
    have HW5 := hid hW5
    clear f0 f1 f2 hx5 hy5 r5 hW5
    obtain ⟨f0, f1, f2, -, -, -⟩ := row_facts3 R5.out
    go_upto_region 8 with fail
    rw [HW5.out]
    go_wp2_with fail
    by_cases hf : K.fits (D * y)
    · have hfy := fits_mul HD.out hf
      obtain ⟨h1, h2⟩ : ro = sy ∧ co = 0 := by
        rcases HRN.out with ⟨-, h⟩ | ⟨h, -⟩
        · rw [← HRO.out, ← HCO.out, h, ← HSY.out]; exact ⟨rfl, rfl⟩
        · exact absurd hfy h
      subst h1 h2
      refine (applyl_yes M Ad D (K.numL l) y su sa sd l ro W5 HFT.out.1 HFT.out.2.1 HFT.out.2.2 hb2.out rfl (HT.out.ext (HX.out.step HE5.out)) HD.out HLIN.out hf HSU HSA HSD HSY).mono ?_
      rintro e w6 ⟨rfl, hx6⟩
      have HE6 := hid (HE5.out.step hx6)
      clear f0 f1 f2 hx6 hf hfy
      go_wp2_with fail
      refine (awake3_any w6 (HT.out.ext (HX.out.step HE6.out))).mono ?_
      rintro e wL ⟨rfl, hxL⟩
      have HL9 := hid (Ext.step (HX.out.step HE6.out) hxL)
      go_wp2
      go_ret
      exact ⟨rfl, HL9.out⟩
    · refine (applyl_no M Ad D (K.numL l) y su sa sd l W5 HFT.out.1 HFT.out.2.1 HFT.out.2.2 hb2.out rfl (HT.out.ext (HX.out.step HE5.out)) HD.out HLIN.out hf HSU HSA HSD).mono ?_
      rintro e w6 ⟨rfl, hx6⟩
      have HE6 := hid (HE5.out.step hx6)
      clear f0 f1 f2 hx6 hf
      rcases (show co = 0 ∨ co = 3 by rcases HRN.out with ⟨-, h⟩ | ⟨-, h⟩ <;> rw [← HCO.out, h] <;> simp [codeO]) with h2 | h2
      · subst h2
        go_wp2_with fail
        refine (awake3_any w6 (HT.out.ext (HX.out.step HE6.out))).mono ?_
        rintro e wL ⟨rfl, hxL⟩
        have HL9 := hid (Ext.step (HX.out.step HE6.out) hxL)
        go_wp2
        go_ret
        exact ⟨rfl, HL9.out⟩
      · subst h2
        go_wp2_with fail
        refine (awake3_any w6 (HT.out.ext (HX.out.step HE6.out))).mono ?_
        rintro e wL ⟨rfl, hxL⟩
        have HL9 := hid (Ext.step (HX.out.step HE6.out) hxL)
        go_wp2
        go_ret
        exact ⟨rfl, HL9.out⟩
theorem law_WordLinear (v : Value) (m : Int) (us ad : List Int) (l : List UInt8) (k : Int) (w : World) (hv : MapV w v m us ad) (hlen : l.length ≤ 140737488351232) (ht : Tab w) :
    Calls Tryz.prog 11 #[v, .string (Str l), .int .i64 k] w (TruePost w) := by
  by_cases h : mapB m us ad = true ∧ K.validL l = true ∧ 0 ≤ k ∧ k ≤ 200
  · obtain ⟨q, rfl⟩ : ∃ q : Nat, k = (q : Int) := ⟨k.toNat, by omega⟩
    exact linear_yes v m us ad l q w hv hlen ht (hid ((mapB_iff m us ad).1 h.1)) (hid h.2.1) (by omega)
  · exact linear_no v m us ad l k _ _ w hv hlen ht (hid rfl) (hid rfl) (hid h)
end Go.Proofs.YtflgkijmbpcnfaaGreatDoor
