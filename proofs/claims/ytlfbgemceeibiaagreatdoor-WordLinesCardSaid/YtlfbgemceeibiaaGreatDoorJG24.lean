/- the law WordParts, where both words together are not too long for one list -/
import Derived.Test.YtlfbgemceeibiaaGreatDoorJG23
import Derived.Test.YtlfbgemceeibiaaGreatDoorJG14
import Derived.Test.YtlfbgemceeibiaaGreatDoorJG18
set_option linter.unusedSimpArgs false
set_option linter.unusedVariables false
namespace Go.Proofs.YtlfbgemceeibiaaGreatDoor
open Go.RowKit
theorem wordB_parts {m : Int} {u v : List Int} (h : wordB m (u ++ v) = true) : wordB m u = true ∧ wordB m v = true := by
  have h1 := wordB_iff.1 h
  have hl : u.length + v.length ≤ 200 := by simpa using h1.1
  exact ⟨wordB_iff.2 ⟨by omega, fun r hr => h1.2 r (by simp [hr])⟩, wordB_iff.2 ⟨by omega, fun r hr => h1.2 r (by simp [hr])⟩⟩
theorem parse_s (X : Int) (s : ByteArray) (w : World) (hf : K.fits X) (hs : Hid (Str (K.txt X) = s)) :
    Calls Tryz.prog 21 #[.string s] w (RefPost X w) := by
  have h := parse_any (K.txt X) w (K.valid_txt X hf)
  rwa [K.numL_txt, hs.out] at h
theorem numbers_s (X Y Z : Int) (s1 s2 s3 : ByteArray) (w : World) (F : Hid (K.fits X ∧ K.fits Y ∧ K.fits Z)) (h1 : Hid (Str (K.txt X) = s1)) (h2 : Hid (Str (K.txt Y) = s2)) (h3 : Hid (Str (K.txt Z) = s3)) :
    Calls Tryz.prog 37 #[.agg #[.string s1, .string s2, .string s3]] w (fun e w' => e = .returned (.bool true) ∧ Ext w w') := by
  have h := numbers_ok (K.txt X) (K.txt Y) (K.txt Z) w (hid (K.valid_txt X F.out.1)) (hid (K.valid_txt Y F.out.2.1)) (hid (K.valid_txt Z F.out.2.2))
  rwa [h1.out, h2.out, h3.out] at h
theorem mulF_big {M N : Int} (h1 : K.fits M) (h2 : K.fits N) : (M * N).natAbs ≤ BIG := by
  rw [Int.natAbs_mul]; exact le_big (mul_top (fits_top h1) (fits_top h2)) (by omega)
set_option maxRecDepth 100000 in
set_option maxHeartbeats 3200000 in
theorem parts_no (v : Value) (m : Int) (us ad : List Int) (U V : Option Addr) (un uc vn vc N : Nat) (uw vw : List Int) (w : World) (hv : MapV w v m us ad) (hu : Rd w U (Is uw)) (hlu : uw.length = un) (hw : Rd w V (Is vw)) (hlv : vw.length = vn) (hN : un + vn = N) (hb : N * 8 ≤ 140737488355328) (ht : Tab w) (x1 x2 : Bool) (hb1 : Hid (mapB m us ad = x1)) (hb2 : Hid (wordB m (uw ++ vw) = x2)) (HN : Hid (¬ (x1 = true ∧ x2 = true))) :
    Calls Tryz.prog 6 #[v, .slice U un uc, .slice V vn vc] w (TruePost w) := by
  obtain ⟨i0, hi, hz0, hz1, hz2⟩ := info_parts infoI2
  have HT := hid ht
  have HV := hid hv
  have HU := hid hu
  have HW := hid hw
  obtain ⟨A, n, cc, B, n2, d, rfl, -⟩ := hv
  have hx : Ext w (w.alloc (.cells #[.int .i64 m, .slice A n cc, .slice B n2 d] 24)) := (Ext.rfl' w).alloc' _
  have hr1 : Row (w.alloc (.cells #[.int .i64 m, .slice A n cc, .slice B n2 d] 24)) w.heap.size 24 [.int .i64 m, .slice A n cc, .slice B n2 d] := Row.new w _ _
  obtain ⟨W1, hW1⟩ : ∃ W1, (w.alloc (.cells #[.int .i64 m, .slice A n cc, .slice B n2 d] 24)) = W1 := ⟨_, rfl⟩
  rw [hW1] at hx hr1
  have HX := hid hx
  have HW1 := hid hW1
  have R1 := hid hr1
  clear hW1 hx hr1
  go_enter Tryz.func6, Tryz.ntmps6
  go_upto_region 1 with fail
  rw [HW1.out]
  go_wp2_with (at_builtin; refine wpList_append_slice rfl _ _ 22 rfl W1.heap.size 3 i0 Tryz.underlying22 hi hz0 hz1 hz2 (some ⟨W1.heap.size, 0, none⟩) 0 0 [] ?a1 ?a2 U un uc uw ?a3 ?a4 ?a5 ?a6 ?a7 ?_)
  case a1 => rfl
  case a2 => exact (own_new _ _)
  case a3 => rfl
  case a4 => exact hlu
  case a5 => exact ((HU.out.ext HX.out).ext ((Ext.rfl' _).alloc' _))
  case a6 => omega
  case a7 => rw [World.size_alloc]; omega
  intro U2 uc2 w2 hown2 hgrow2
  have he2 : Ext W1 w2 := ((Ext.rfl' W1).alloc' _).grown hgrow2 (by rw [World.size_alloc]; omega) (by intro k hk; simp [Value.ownBlock] at hk; omega)
  have HE2 := hid he2
  have HO2 := hid hown2
  clear he2 hown2 hgrow2
  go_wp2_with (at_builtin; refine wpList_append_slice rfl _ _ 22 rfl W1.heap.size 3 i0 Tryz.underlying22 hi hz0 hz1 hz2 U2 un uc2 (Is uw) ?a1 ?a2 V vn vc vw ?a3 ?a4 ?a5 ?a6 ?a7 ?_)
  case a1 => rfl
  case a2 => exact HO2.out
  case a3 => rfl
  case a4 => exact hlv
  case a5 => exact ((HW.out.ext HX.out).ext HE2.out)
  case a6 => omega
  case a7 => exact HE2.out.size
  intro V2 vc2 w3 hown3 hgrow3
  have he3 : Ext W1 w3 := HE2.out.grown hgrow3 HE2.out.size (fun k hk => (HO2.out.lt k hk).1)
  have hrd : Rd w3 V2 (Is (uw ++ vw)) := by
    have := Rd.of_own hown3
    simpa using this
  have HE3 := hid he3
  have HRD := hid hrd
  have hlen : (uw ++ vw).length = N := by simp [hlu, hlv]; omega
  have HLEN := hid hlen
  clear he3 hrd hown3 hgrow3 HO2 hlen
  obtain ⟨f0, f1, f2, -, -, -⟩ := row_facts3 (R1.out.ext HE3.out)
  go_wp2_with fail
  refine (refvalid_any _ m us ad w3 (HV.out.ext (HX.out.step HE3.out)) hb1).mono ?_
  rintro e w4 ⟨rfl, hx⟩
  have HE4 := hid (HE3.out.step hx)
  have H34 := hid hx
  clear f0 f1 f2 hx
  obtain ⟨f0, f1, f2, -, -, -⟩ := row_facts3 (R1.out.ext HE4.out)
  cases x1 with
  | false =>
    go_wp2_with fail
    refine (awake3_any w4 (HT.out.ext (HX.out.step HE4.out))).mono ?_
    rintro e wL ⟨rfl, hxL⟩
    have HL9 := hid (Ext.step (HX.out.step HE4.out) hxL)
    go_wp2
    go_ret
    exact ⟨rfl, HL9.out⟩
  | true =>
    go_wp2_with fail
    refine (is_any _ m us ad V2 N vc2 (uw ++ vw) w4 (HV.out.ext (HX.out.step HE4.out)) (HRD.out.ext H34.out) HLEN.out (by omega) hb2).mono ?_
    rintro e w5 ⟨rfl, hx⟩
    have HE5 := hid (HE4.out.step hx)
    have H35 := hid (H34.out.step hx)
    clear f0 f1 f2 hx
    cases x2 with
    | false =>
      go_wp2_with fail
      refine (awake3_any w5 (HT.out.ext (HX.out.step HE5.out))).mono ?_
      rintro e wL ⟨rfl, hxL⟩
      have HL9 := hid (Ext.step (HX.out.step HE5.out) hxL)
      go_wp2
      go_ret
      exact ⟨rfl, HL9.out⟩
    | true => exact (HN.out (by simp)).elim
set_option maxRecDepth 100000 in
set_option maxHeartbeats 12800000 in
theorem parts_yes (v : Value) (m : Int) (us ad : List Int) (U V : Option Addr) (un uc vn vc N : Nat) (uw vw : List Int) (w : World) (hv : MapV w v m us ad) (hu : Rd w U (Is uw)) (hlu : uw.length = un) (hw : Rd w V (Is vw)) (hlv : vw.length = vn) (hN : un + vn = N) (hb : N * 8 ≤ 140737488355328) (ht : Tab w) (hM : Hid (mapP m us ad)) (hb2 : Hid (wordB m (uw ++ vw) = true)) (hwu : Hid (wordB m uw = true)) (hwv : Hid (wordB m vw = true))
    (Mu Au Du Mv Av Dv : Int) (su sa sd tu ta td pu pa pd : ByteArray) (FU : Hid (K.fits Mu ∧ K.fits Au ∧ K.fits Du)) (FV : Hid (K.fits Mv ∧ K.fits Av ∧ K.fits Dv)) (FW : Hid (K.fits (Mv * Mu) ∧ K.fits (Mv * Au + Av * Du) ∧ K.fits (Du * Dv)))
    (HU1 : Hid (lineI m us ad uw = (Mu, Au, Du))) (HV1 : Hid (lineI m us ad vw = (Mv, Av, Dv))) (HW1x : Hid (lineI m us ad (uw ++ vw) = (Mv * Mu, Mv * Au + Av * Du, Du * Dv)))
    (Ksu : Hid (Str (K.txt Mu) = su)) (Ksa : Hid (Str (K.txt Au) = sa)) (Ksd : Hid (Str (K.txt Du) = sd)) (Ktu : Hid (Str (K.txt Mv) = tu)) (Kta : Hid (Str (K.txt Av) = ta)) (Ktd : Hid (Str (K.txt Dv) = td))
    (Kpu : Hid (Str (K.txt (Mv * Mu)) = pu)) (Kpa : Hid (Str (K.txt (Mv * Au + Av * Du)) = pa)) (Kpd : Hid (Str (K.txt (Du * Dv)) = pd)) :
    Calls Tryz.prog 6 #[v, .slice U un uc, .slice V vn vc] w (TruePost w) := by
  have hb1 : Hid (mapB m us ad = true) := hid ((mapB_iff m us ad).2 hM.out)
  have Hsu : Hid (Str (K.txt (lineI m us ad uw).1) = su) := hid (by rw [HU1.out]; exact Ksu.out)
  have Hsa : Hid (Str (K.txt (lineI m us ad uw).2.1) = sa) := hid (by rw [HU1.out]; exact Ksa.out)
  have Hsd : Hid (Str (K.txt (lineI m us ad uw).2.2) = sd) := hid (by rw [HU1.out]; exact Ksd.out)
  have Htu : Hid (Str (K.txt (lineI m us ad vw).1) = tu) := hid (by rw [HV1.out]; exact Ktu.out)
  have Hta : Hid (Str (K.txt (lineI m us ad vw).2.1) = ta) := hid (by rw [HV1.out]; exact Kta.out)
  have Htd : Hid (Str (K.txt (lineI m us ad vw).2.2) = td) := hid (by rw [HV1.out]; exact Ktd.out)
  have Hpu : Hid (Str (K.txt (lineI m us ad (uw ++ vw)).1) = pu) := hid (by rw [HW1x.out]; exact Kpu.out)
  have Hpa : Hid (Str (K.txt (lineI m us ad (uw ++ vw)).2.1) = pa) := hid (by rw [HW1x.out]; exact Kpa.out)
  have Hpd : Hid (Str (K.txt (lineI m us ad (uw ++ vw)).2.2) = pd) := hid (by rw [HW1x.out]; exact Kpd.out)
  have BB : Hid (Mu.natAbs ≤ BIG ∧ Au.natAbs ≤ BIG ∧ Du.natAbs ≤ BIG ∧ Mv.natAbs ≤ BIG ∧ Av.natAbs ≤ BIG ∧ Dv.natAbs ≤ BIG) := hid ⟨fits_big FU.out.1, fits_big FU.out.2.1, fits_big FU.out.2.2, fits_big FV.out.1, fits_big FV.out.2.1, fits_big FV.out.2.2⟩
  have BB2 : Hid ((Mv * Au).natAbs ≤ BIG ∧ (Av * Du).natAbs ≤ BIG) := hid ⟨mulF_big FV.out.1 FU.out.2.1, mulF_big FV.out.2.1 FU.out.2.2⟩
  obtain ⟨i0, hi, hz0, hz1, hz2⟩ := info_parts infoI2
  have HT := hid ht
  have HV := hid hv
  have HU := hid hu
  have HW := hid hw
  obtain ⟨A, n, cc, B, n2, d, rfl, -⟩ := hv
  have hx : Ext w (w.alloc (.cells #[.int .i64 m, .slice A n cc, .slice B n2 d] 24)) := (Ext.rfl' w).alloc' _
  have hr1 : Row (w.alloc (.cells #[.int .i64 m, .slice A n cc, .slice B n2 d] 24)) w.heap.size 24 [.int .i64 m, .slice A n cc, .slice B n2 d] := Row.new w _ _
  obtain ⟨W1, hW1⟩ : ∃ W1, (w.alloc (.cells #[.int .i64 m, .slice A n cc, .slice B n2 d] 24)) = W1 := ⟨_, rfl⟩
  rw [hW1] at hx hr1
  have HX := hid hx
  have HW1 := hid hW1
  have R1 := hid hr1
  clear hW1 hx hr1
  go_enter Tryz.func6, Tryz.ntmps6
  go_upto_region 1 with fail
  rw [HW1.out]
  go_wp2_with (at_builtin; refine wpList_append_slice rfl _ _ 22 rfl W1.heap.size 3 i0 Tryz.underlying22 hi hz0 hz1 hz2 (some ⟨W1.heap.size, 0, none⟩) 0 0 [] ?a1 ?a2 U un uc uw ?a3 ?a4 ?a5 ?a6 ?a7 ?_)
  case a1 => rfl
  case a2 => exact (own_new _ _)
  case a3 => rfl
  case a4 => exact hlu
  case a5 => exact ((HU.out.ext HX.out).ext ((Ext.rfl' _).alloc' _))
  case a6 => omega
  case a7 => rw [World.size_alloc]; omega
  intro U2 uc2 w2 hown2 hgrow2
  have he2 : Ext W1 w2 := ((Ext.rfl' W1).alloc' _).grown hgrow2 (by rw [World.size_alloc]; omega) (by intro k hk; simp [Value.ownBlock] at hk; omega)
  have HE2 := hid he2
  have HO2 := hid hown2
  clear he2 hown2 hgrow2
  go_wp2_with (at_builtin; refine wpList_append_slice rfl _ _ 22 rfl W1.heap.size 3 i0 Tryz.underlying22 hi hz0 hz1 hz2 U2 un uc2 (Is uw) ?a1 ?a2 V vn vc vw ?a3 ?a4 ?a5 ?a6 ?a7 ?_)
  case a1 => rfl
  case a2 => exact HO2.out
  case a3 => rfl
  case a4 => exact hlv
  case a5 => exact ((HW.out.ext HX.out).ext HE2.out)
  case a6 => omega
  case a7 => exact HE2.out.size
  intro V2 vc2 w3 hown3 hgrow3
  have he3 : Ext W1 w3 := HE2.out.grown hgrow3 HE2.out.size (fun k hk => (HO2.out.lt k hk).1)
  have hrd : Rd w3 V2 (Is (uw ++ vw)) := by
    have := Rd.of_own hown3
    simpa using this
  have HE3 := hid he3
  have HRD := hid hrd
  have hlen : (uw ++ vw).length = N := by simp [hlu, hlv]; omega
  have HLEN := hid hlen
  clear he3 hrd hown3 hgrow3 HO2 hlen
  obtain ⟨f0, f1, f2, -, -, -⟩ := row_facts3 (R1.out.ext HE3.out)
  go_wp2_with fail
  refine (refvalid_any _ m us ad w3 (HV.out.ext (HX.out.step HE3.out)) hb1).mono ?_
  rintro e w4 ⟨rfl, hx⟩
  have HE4 := hid (HE3.out.step hx)
  have H34 := hid hx
  clear f0 f1 f2 hx
  obtain ⟨f0, f1, f2, -, -, -⟩ := row_facts3 (R1.out.ext HE4.out)
  go_wp2_with fail
  refine (is_any _ m us ad V2 N vc2 (uw ++ vw) w4 (HV.out.ext (HX.out.step HE4.out)) (HRD.out.ext H34.out) HLEN.out (by omega) hb2).mono ?_
  rintro e w5 ⟨rfl, hx⟩
  have HE5 := hid (HE4.out.step hx)
  have H35 := hid (H34.out.step hx)
  clear f0 f1 f2 hx
  obtain ⟨f0, f1, f2, -, -, -⟩ := row_facts3 (R1.out.ext HE5.out)
  go_wp2_with fail
  refine (line_s _ m us ad U un uc uw su sa sd w5 (HV.out.ext (HX.out.step HE5.out)) (HU.out.ext (HX.out.step HE5.out)) hlu (by omega) hM hwu (HT.out.ext (HX.out.step HE5.out)) Hsu Hsa Hsd).mono ?_
  rintro e w6 ⟨rfl, hx⟩
  have hy := (HE5.out.step hx).alloc' (.cells #[.string su, .string sa, .string sd] 41)
  have hz := hx.alloc' (.cells #[.string su, .string sa, .string sd] 41)
  have hr := Row.new w6 41 [.string su, .string sa, .string sd]
  obtain ⟨W6, hW6⟩ : ∃ W6, w6.alloc (.cells #[.string su, .string sa, .string sd] 41) = W6 := ⟨_, rfl⟩
  rw [hW6] at hy hz
  have R6 : Hid (Row W6 w6.heap.size 41 [.string su, .string sa, .string sd]) := hid (by rw [← hW6]; exact hr)
  have HE6 := hid hy
  have HZ6 := hid hz
  have HW6 := hid hW6
  clear f0 f1 f2 hx hy hz hr hW6
  go_upto_region 5 with fail
  rw [HW6.out]
  obtain ⟨f0, f1, f2, -, -, -⟩ := row_facts3 (R1.out.ext HE6.out)
  go_wp2_with fail
  refine (line_s _ m us ad V vn vc vw tu ta td W6 (HV.out.ext (HX.out.step HE6.out)) (HW.out.ext (HX.out.step HE6.out)) hlv (by omega) hM hwv (HT.out.ext (HX.out.step HE6.out)) Htu Hta Htd).mono ?_
  rintro e w7 ⟨rfl, hx⟩
  have hy := (HE6.out.step hx).alloc' (.cells #[.string tu, .string ta, .string td] 41)
  have hz := hx.alloc' (.cells #[.string tu, .string ta, .string td] 41)
  have hr := Row.new w7 41 [.string tu, .string ta, .string td]
  obtain ⟨W7, hW7⟩ : ∃ W7, w7.alloc (.cells #[.string tu, .string ta, .string td] 41) = W7 := ⟨_, rfl⟩
  rw [hW7] at hy hz
  have R7 : Hid (Row W7 w7.heap.size 41 [.string tu, .string ta, .string td]) := hid (by rw [← hW7]; exact hr)
  have HE7 := hid hy
  have HZ7 := hid hz
  have HW7 := hid hW7
  clear f0 f1 f2 hx hy hz hr hW7
  go_upto_region 6 with fail
  rw [HW7.out]
  obtain ⟨f0, f1, f2, -, -, -⟩ := row_facts3 (R1.out.ext HE7.out)
  go_wp2_with fail
  refine (line_s _ m us ad V2 N vc2 (uw ++ vw) pu pa pd W7 (HV.out.ext (HX.out.step HE7.out)) ((HRD.out.ext H35.out).ext (HZ6.out.step HZ7.out)) HLEN.out (by omega) hM hb2 (HT.out.ext (HX.out.step HE7.out)) Hpu Hpa Hpd).mono ?_
  rintro e w8 ⟨rfl, hx⟩
  have hy := (HE7.out.step hx).alloc' (.cells #[.string pu, .string pa, .string pd] 41)
  have hz := hx.alloc' (.cells #[.string pu, .string pa, .string pd] 41)
  have hr := Row.new w8 41 [.string pu, .string pa, .string pd]
  obtain ⟨W8, hW8⟩ : ∃ W8, w8.alloc (.cells #[.string pu, .string pa, .string pd] 41) = W8 := ⟨_, rfl⟩
  rw [hW8] at hy hz
  have R8 : Hid (Row W8 w8.heap.size 41 [.string pu, .string pa, .string pd]) := hid (by rw [← hW8]; exact hr)
  have HE8 := hid hy
  have HZ8 := hid hz
  have HW8 := hid hW8
  clear f0 f1 f2 hx hy hz hr hW8
  go_upto_region 7 with fail
  rw [HW8.out]
  have R68 := hid ((R6.out.ext HZ7.out).ext HZ8.out)
  have R78 := hid (R7.out.ext HZ8.out)
  obtain ⟨f0, f1, f2, -, -, -⟩ := row_facts3 R68.out
  go_wp2_with fail
  refine (numbers_s Mu Au Du su sa sd W8 FU Ksu Ksa Ksd).mono ?_
  rintro e w9 ⟨rfl, hx9⟩
  have HQ9 := hid hx9
  clear f0 f1 f2 hx9
  obtain ⟨f0, f1, f2, -, -, -⟩ := row_facts3 (R78.out.ext HQ9.out)
  go_wp2_with fail
  refine (numbers_s Mv Av Dv tu ta td w9 FV Ktu Kta Ktd).mono ?_
  rintro e w10 ⟨rfl, hx9⟩
  have HQ10 := hid (HQ9.out.step hx9)
  clear f0 f1 f2 hx9
  obtain ⟨f0, f1, f2, -, -, -⟩ := row_facts3 (R8.out.ext HQ10.out)
  go_wp2_with fail
  refine (numbers_s (Mv * Mu) (Mv * Au + Av * Du) (Du * Dv) pu pa pd w10 FW Kpu Kpa Kpd).mono ?_
  rintro e W9 ⟨rfl, hx9⟩
  have HQ := hid (HQ10.out.step hx9)
  clear f0 f1 f2 hx9
  have HE9 := hid (HE8.out.step HQ.out)
  have HS : Hid (∀ W', Ext W9 W' → W'.cell? ⟨w6.heap.size, 0, none⟩ = some (.string su) ∧ W'.cell? ⟨w6.heap.size, 1, none⟩ = some (.string sa) ∧ W'.cell? ⟨w6.heap.size, 2, none⟩ = some (.string sd) ∧ W'.cell? ⟨w7.heap.size, 0, none⟩ = some (.string tu) ∧ W'.cell? ⟨w7.heap.size, 1, none⟩ = some (.string ta) ∧ W'.cell? ⟨w7.heap.size, 2, none⟩ = some (.string td)) := hid (by
    intro W' e
    obtain ⟨p0, p1, p2, -, -, -⟩ := row_facts3 (R68.out.ext (HQ.out.step e))
    obtain ⟨q0, q1, q2, -, -, -⟩ := row_facts3 (R78.out.ext (HQ.out.step e))
    exact ⟨p0, p1, p2, q0, q1, q2⟩)
  have hcur : Ext W9 W9 := Ext.rfl' _
  go_upto_region 9 with fail
  go_cut [14] (fun sx wx => ∃ (WN : World) (g : Nat) (b : Bool) (P : Option Addr) (k c : Nat), WN = wx ∧ sx = .pointer (some ⟨g, 0, none⟩) ∧ Row wx g 36 [.bool b, .slice P k c] ∧ RefV wx (.agg #[.bool b, .slice P k c]) (Mv * Mu) ∧ Ext W9 wx)
  case first =>
    go_region_held3 (fun W' => W'.cell? ⟨w6.heap.size, 0, none⟩ = some (.string su) ∧ W'.cell? ⟨w6.heap.size, 1, none⟩ = some (.string sa) ∧ W'.cell? ⟨w6.heap.size, 2, none⟩ = some (.string sd) ∧ W'.cell? ⟨w7.heap.size, 0, none⟩ = some (.string tu) ∧ W'.cell? ⟨w7.heap.size, 1, none⟩ = some (.string ta) ∧ W'.cell? ⟨w7.heap.size, 2, none⟩ = some (.string td))
      (first | exact HS.out _ hcur | exact HS.out _ hcur.drew' | exact HS.out _ (hcur.alloc' _) | exact HS.out _ (hcur.drew'.alloc' _) | exact HS.out _ ((hcur.set' HB2.out.1 _).set' HB2.out.1 _) | go_keep)
      (first
        | (go_at_call_of 21 (Value.string tu); refine (parse_s Mv tu _ FV.out.1 Ktu).mono ?_; rintro e w20 ⟨v20, rfl, hv20, hx⟩; (first | have HB2 := hid (HB2.out.ext hx) | have HB2 := hid ((NB.new hcur.size).ext hx) | have HB2 := hid ((NB.newD hcur.size).ext hx) | skip); have hcur := Ext.step hcur (by first | exact hx | exact Ext.undrew hx | exact Ext.step ((Ext.rfl' _).alloc' _) hx | exact Ext.step ((Ext.rfl' _).drew'.alloc' _) hx); have HV20 := hid hv20; obtain ⟨A20, k20, c20, xs20, b20, rfl, -⟩ := hv20; (first | (have hyy := row_facts HB2.out.2; obtain ⟨y0, y1, y2, y3⟩ := hyy) | skip))
        | (go_at_call_of 21 (Value.string su); refine (parse_s Mu su _ FU.out.1 Ksu).mono ?_; rintro e w21 ⟨v21, rfl, hv21, hx⟩; (first | have HB2 := hid (HB2.out.ext hx) | have HB2 := hid ((NB.new hcur.size).ext hx) | have HB2 := hid ((NB.newD hcur.size).ext hx) | skip); have HV20 := hid (by first | exact HV20.out.ext hx | exact HV20.out.ext (Ext.undrew hx) | exact HV20.out.ext (Ext.step ((Ext.rfl' _).alloc' _) hx)); have hcur := Ext.step hcur (by first | exact hx | exact Ext.undrew hx | exact Ext.step ((Ext.rfl' _).alloc' _) hx | exact Ext.step ((Ext.rfl' _).drew'.alloc' _) hx); have HV21 := hid hv21; obtain ⟨A21, k21, c21, xs21, b21, rfl, -⟩ := hv21; (first | (have hyy := row_facts HB2.out.2; obtain ⟨y0, y1, y2, y3⟩ := hyy) | skip))
        | (go_at_call_of 38 (Value.agg #[Value.bool b20, Value.slice A20 k20 c20]); refine (rmul_any _ _ Mv Mu _ (HV20.out.ext ?_) (HV21.out.ext ?_) BB.out.2.2.2.1 BB.out.1).mono ?_; (first | exact Ext.rfl' _ | exact (Ext.rfl' _).drew' | exact (Ext.rfl' _).alloc' _ | exact (Ext.rfl' _).drew'.alloc' _); (first | exact Ext.rfl' _ | exact (Ext.rfl' _).drew' | exact (Ext.rfl' _).alloc' _ | exact (Ext.rfl' _).drew'.alloc' _); rintro e w22 ⟨v22, rfl, hv22, hx⟩; (first | have HB2 := hid (HB2.out.ext hx) | have HB2 := hid ((NB.new hcur.size).ext hx) | have HB2 := hid ((NB.newD hcur.size).ext hx) | skip); have hcur := Ext.step hcur (by first | exact hx | exact Ext.undrew hx | exact Ext.step ((Ext.rfl' _).alloc' _) hx | exact Ext.step ((Ext.rfl' _).drew'.alloc' _) hx); have HV22 := hid hv22; obtain ⟨A22, k22, c22, xs22, b22, rfl, -⟩ := hv22; (first | (have hyy := row_facts HB2.out.2; obtain ⟨y0, y1, y2, y3⟩ := hyy) | skip)))
    all_goals
      go_wp2_with fail
      go_meet
      first
        | exact ⟨_, _, b22, A22, k22, c22, rfl, rfl, (HB2.out.2.set 0 _).set 1 _, HV22.out.box HB2.out.2, (hcur.set' HB2.out.1 _).set' HB2.out.1 _⟩
        | exact ⟨_, _, b22, A22, k22, c22, rfl, rfl, Row.new _ _ [.bool b22, .slice A22 k22 c22], HV22.out.ext ((Ext.rfl' _).alloc' _), hcur.alloc' _⟩
  case rest =>
    obtain ⟨WA, g14, b14, P14, q14, c14, rfl, rfl, hrow, hvx, hex⟩ := hcut
    clear hcur
    have RW14 := hid hrow
    have VX14 := hid hvx
    have EX14 := hid hex
    clear hrow hvx hex
    have HSN : Hid (∀ W', Ext WA W' → W'.cell? ⟨w6.heap.size, 0, none⟩ = some (.string su) ∧ W'.cell? ⟨w6.heap.size, 1, none⟩ = some (.string sa) ∧ W'.cell? ⟨w6.heap.size, 2, none⟩ = some (.string sd) ∧ W'.cell? ⟨w7.heap.size, 0, none⟩ = some (.string tu) ∧ W'.cell? ⟨w7.heap.size, 1, none⟩ = some (.string ta) ∧ W'.cell? ⟨w7.heap.size, 2, none⟩ = some (.string td)) := hid (fun W' e => HS.out W' (EX14.out.step e))
    clear HS
    have HS := HSN
    clear HSN
    have hcur : Ext WA WA := Ext.rfl' _
    go_upto_region 10 with fail
    go_cut [15] (fun sx wx => ∃ (WN : World) (g : Nat) (b : Bool) (P : Option Addr) (k c : Nat), WN = wx ∧ sx = .pointer (some ⟨g, 0, none⟩) ∧ Row wx g 36 [.bool b, .slice P k c] ∧ RefV wx (.agg #[.bool b, .slice P k c]) (Mv * Au + Av * Du) ∧ Ext WA wx)
    case first =>
      go_region_held3 (fun W' => W'.cell? ⟨w6.heap.size, 0, none⟩ = some (.string su) ∧ W'.cell? ⟨w6.heap.size, 1, none⟩ = some (.string sa) ∧ W'.cell? ⟨w6.heap.size, 2, none⟩ = some (.string sd) ∧ W'.cell? ⟨w7.heap.size, 0, none⟩ = some (.string tu) ∧ W'.cell? ⟨w7.heap.size, 1, none⟩ = some (.string ta) ∧ W'.cell? ⟨w7.heap.size, 2, none⟩ = some (.string td))
        (first | exact HS.out _ hcur | exact HS.out _ hcur.drew' | exact HS.out _ (hcur.alloc' _) | exact HS.out _ (hcur.drew'.alloc' _) | exact HS.out _ ((hcur.set' HB2.out.1 _).set' HB2.out.1 _) | go_keep)
        (first
          | (go_at_call_of 21 (Value.string tu); refine (parse_s Mv tu _ FV.out.1 Ktu).mono ?_; rintro e w20 ⟨v20, rfl, hv20, hx⟩; (first | have HB2 := hid (HB2.out.ext hx) | have HB2 := hid ((NB.new hcur.size).ext hx) | have HB2 := hid ((NB.newD hcur.size).ext hx) | skip); have hcur := Ext.step hcur (by first | exact hx | exact Ext.undrew hx | exact Ext.step ((Ext.rfl' _).alloc' _) hx | exact Ext.step ((Ext.rfl' _).drew'.alloc' _) hx); have HV20 := hid hv20; obtain ⟨A20, k20, c20, xs20, b20, rfl, -⟩ := hv20; (first | (have hyy := row_facts HB2.out.2; obtain ⟨y0, y1, y2, y3⟩ := hyy) | skip))
          | (go_at_call_of 21 (Value.string sa); refine (parse_s Au sa _ FU.out.2.1 Ksa).mono ?_; rintro e w21 ⟨v21, rfl, hv21, hx⟩; (first | have HB2 := hid (HB2.out.ext hx) | have HB2 := hid ((NB.new hcur.size).ext hx) | have HB2 := hid ((NB.newD hcur.size).ext hx) | skip); have HV20 := hid (by first | exact HV20.out.ext hx | exact HV20.out.ext (Ext.undrew hx) | exact HV20.out.ext (Ext.step ((Ext.rfl' _).alloc' _) hx)); have hcur := Ext.step hcur (by first | exact hx | exact Ext.undrew hx | exact Ext.step ((Ext.rfl' _).alloc' _) hx | exact Ext.step ((Ext.rfl' _).drew'.alloc' _) hx); have HV21 := hid hv21; obtain ⟨A21, k21, c21, xs21, b21, rfl, -⟩ := hv21; (first | (have hyy := row_facts HB2.out.2; obtain ⟨y0, y1, y2, y3⟩ := hyy) | skip))
          | (go_at_call_of 38 (Value.agg #[Value.bool b20, Value.slice A20 k20 c20]); refine (rmul_any _ _ Mv Au _ (HV20.out.ext ?_) (HV21.out.ext ?_) BB.out.2.2.2.1 BB.out.2.1).mono ?_; (first | exact Ext.rfl' _ | exact (Ext.rfl' _).drew' | exact (Ext.rfl' _).alloc' _ | exact (Ext.rfl' _).drew'.alloc' _); (first | exact Ext.rfl' _ | exact (Ext.rfl' _).drew' | exact (Ext.rfl' _).alloc' _ | exact (Ext.rfl' _).drew'.alloc' _); rintro e w22 ⟨v22, rfl, hv22, hx⟩; (first | have HB2 := hid (HB2.out.ext hx) | have HB2 := hid ((NB.new hcur.size).ext hx) | have HB2 := hid ((NB.newD hcur.size).ext hx) | skip); have hcur := Ext.step hcur (by first | exact hx | exact Ext.undrew hx | exact Ext.step ((Ext.rfl' _).alloc' _) hx | exact Ext.step ((Ext.rfl' _).drew'.alloc' _) hx); have HV22 := hid hv22; obtain ⟨A22, k22, c22, xs22, b22, rfl, -⟩ := hv22; (first | (have hyy := row_facts HB2.out.2; obtain ⟨y0, y1, y2, y3⟩ := hyy) | skip))
          | (go_at_call_of 21 (Value.string ta); refine (parse_s Av ta _ FV.out.2.1 Kta).mono ?_; rintro e w23 ⟨v23, rfl, hv23, hx⟩; (first | have HB2 := hid (HB2.out.ext hx) | have HB2 := hid ((NB.new hcur.size).ext hx) | have HB2 := hid ((NB.newD hcur.size).ext hx) | skip); have HV22 := hid (by first | exact HV22.out.ext hx | exact HV22.out.ext (Ext.undrew hx) | exact HV22.out.ext (Ext.step ((Ext.rfl' _).alloc' _) hx)); have hcur := Ext.step hcur (by first | exact hx | exact Ext.undrew hx | exact Ext.step ((Ext.rfl' _).alloc' _) hx | exact Ext.step ((Ext.rfl' _).drew'.alloc' _) hx); have HV23 := hid hv23; obtain ⟨A23, k23, c23, xs23, b23, rfl, -⟩ := hv23; (first | (have hyy := row_facts HB2.out.2; obtain ⟨y0, y1, y2, y3⟩ := hyy) | skip))
          | (go_at_call_of 21 (Value.string sd); refine (parse_s Du sd _ FU.out.2.2 Ksd).mono ?_; rintro e w24 ⟨v24, rfl, hv24, hx⟩; (first | have HB2 := hid (HB2.out.ext hx) | have HB2 := hid ((NB.new hcur.size).ext hx) | have HB2 := hid ((NB.newD hcur.size).ext hx) | skip); have HV22 := hid (by first | exact HV22.out.ext hx | exact HV22.out.ext (Ext.undrew hx) | exact HV22.out.ext (Ext.step ((Ext.rfl' _).alloc' _) hx)); have HV23 := hid (by first | exact HV23.out.ext hx | exact HV23.out.ext (Ext.undrew hx) | exact HV23.out.ext (Ext.step ((Ext.rfl' _).alloc' _) hx)); have hcur := Ext.step hcur (by first | exact hx | exact Ext.undrew hx | exact Ext.step ((Ext.rfl' _).alloc' _) hx | exact Ext.step ((Ext.rfl' _).drew'.alloc' _) hx); have HV24 := hid hv24; obtain ⟨A24, k24, c24, xs24, b24, rfl, -⟩ := hv24; (first | (have hyy := row_facts HB2.out.2; obtain ⟨y0, y1, y2, y3⟩ := hyy) | skip))
          | (go_at_call_of 38 (Value.agg #[Value.bool b23, Value.slice A23 k23 c23]); refine (rmul_any _ _ Av Du _ (HV23.out.ext ?_) (HV24.out.ext ?_) BB.out.2.2.2.2.1 BB.out.2.2.1).mono ?_; (first | exact Ext.rfl' _ | exact (Ext.rfl' _).drew' | exact (Ext.rfl' _).alloc' _ | exact (Ext.rfl' _).drew'.alloc' _); (first | exact Ext.rfl' _ | exact (Ext.rfl' _).drew' | exact (Ext.rfl' _).alloc' _ | exact (Ext.rfl' _).drew'.alloc' _); rintro e w25 ⟨v25, rfl, hv25, hx⟩; (first | have HB2 := hid (HB2.out.ext hx) | have HB2 := hid ((NB.new hcur.size).ext hx) | have HB2 := hid ((NB.newD hcur.size).ext hx) | skip); have HV22 := hid (by first | exact HV22.out.ext hx | exact HV22.out.ext (Ext.undrew hx) | exact HV22.out.ext (Ext.step ((Ext.rfl' _).alloc' _) hx)); have hcur := Ext.step hcur (by first | exact hx | exact Ext.undrew hx | exact Ext.step ((Ext.rfl' _).alloc' _) hx | exact Ext.step ((Ext.rfl' _).drew'.alloc' _) hx); have HV25 := hid hv25; obtain ⟨A25, k25, c25, xs25, b25, rfl, -⟩ := hv25; (first | (have hyy := row_facts HB2.out.2; obtain ⟨y0, y1, y2, y3⟩ := hyy) | skip))
          | (go_at_call 34; refine (radd_any _ _ (Mv * Au) (Av * Du) _ (HV22.out.ext ?_) (HV25.out.ext ?_) BB2.out.1 BB2.out.2).mono ?_; (first | exact Ext.rfl' _ | exact (Ext.rfl' _).drew' | exact (Ext.rfl' _).alloc' _ | exact (Ext.rfl' _).drew'.alloc' _); (first | exact Ext.rfl' _ | exact (Ext.rfl' _).drew' | exact (Ext.rfl' _).alloc' _ | exact (Ext.rfl' _).drew'.alloc' _); rintro e w26 ⟨v26, rfl, hv26, hx⟩; (first | have HB2 := hid (HB2.out.ext hx) | have HB2 := hid ((NB.new hcur.size).ext hx) | have HB2 := hid ((NB.newD hcur.size).ext hx) | skip); have hcur := Ext.step hcur (by first | exact hx | exact Ext.undrew hx | exact Ext.step ((Ext.rfl' _).alloc' _) hx | exact Ext.step ((Ext.rfl' _).drew'.alloc' _) hx); have HV26 := hid hv26; obtain ⟨A26, k26, c26, xs26, b26, rfl, -⟩ := hv26; (first | (have hyy := row_facts HB2.out.2; obtain ⟨y0, y1, y2, y3⟩ := hyy) | skip)))
      all_goals
        go_wp2_with fail
        go_meet
        first
          | exact ⟨_, _, b26, A26, k26, c26, rfl, rfl, (HB2.out.2.set 0 _).set 1 _, HV26.out.box HB2.out.2, (hcur.set' HB2.out.1 _).set' HB2.out.1 _⟩
          | exact ⟨_, _, b26, A26, k26, c26, rfl, rfl, Row.new _ _ [.bool b26, .slice A26 k26 c26], HV26.out.ext ((Ext.rfl' _).alloc' _), hcur.alloc' _⟩
    case rest =>
      obtain ⟨WB, g15, b15, P15, q15, c15, rfl, rfl, hrow, hvx, hex⟩ := hcut
      clear hcur
      have RW15 := hid hrow
      have VX15 := hid hvx
      have EX15 := hid hex
      clear hrow hvx hex
      have HSN : Hid (∀ W', Ext WB W' → W'.cell? ⟨w6.heap.size, 0, none⟩ = some (.string su) ∧ W'.cell? ⟨w6.heap.size, 1, none⟩ = some (.string sa) ∧ W'.cell? ⟨w6.heap.size, 2, none⟩ = some (.string sd) ∧ W'.cell? ⟨w7.heap.size, 0, none⟩ = some (.string tu) ∧ W'.cell? ⟨w7.heap.size, 1, none⟩ = some (.string ta) ∧ W'.cell? ⟨w7.heap.size, 2, none⟩ = some (.string td)) := hid (fun W' e => HS.out W' (EX15.out.step e))
      clear HS
      have HS := HSN
      clear HSN
      have hcur : Ext WB WB := Ext.rfl' _
      go_upto_region 11 with fail
      go_cut [16] (fun sx wx => ∃ (WN : World) (g : Nat) (b : Bool) (P : Option Addr) (k c : Nat), WN = wx ∧ sx = .pointer (some ⟨g, 0, none⟩) ∧ Row wx g 36 [.bool b, .slice P k c] ∧ RefV wx (.agg #[.bool b, .slice P k c]) (Du * Dv) ∧ Ext WB wx)
      case first =>
        go_region_held3 (fun W' => W'.cell? ⟨w6.heap.size, 0, none⟩ = some (.string su) ∧ W'.cell? ⟨w6.heap.size, 1, none⟩ = some (.string sa) ∧ W'.cell? ⟨w6.heap.size, 2, none⟩ = some (.string sd) ∧ W'.cell? ⟨w7.heap.size, 0, none⟩ = some (.string tu) ∧ W'.cell? ⟨w7.heap.size, 1, none⟩ = some (.string ta) ∧ W'.cell? ⟨w7.heap.size, 2, none⟩ = some (.string td))
          (first | exact HS.out _ hcur | exact HS.out _ hcur.drew' | exact HS.out _ (hcur.alloc' _) | exact HS.out _ (hcur.drew'.alloc' _) | exact HS.out _ ((hcur.set' HB2.out.1 _).set' HB2.out.1 _) | go_keep)
          (first
            | (go_at_call_of 21 (Value.string sd); refine (parse_s Du sd _ FU.out.2.2 Ksd).mono ?_; rintro e w20 ⟨v20, rfl, hv20, hx⟩; (first | have HB2 := hid (HB2.out.ext hx) | have HB2 := hid ((NB.new hcur.size).ext hx) | have HB2 := hid ((NB.newD hcur.size).ext hx) | skip); have hcur := Ext.step hcur (by first | exact hx | exact Ext.undrew hx | exact Ext.step ((Ext.rfl' _).alloc' _) hx | exact Ext.step ((Ext.rfl' _).drew'.alloc' _) hx); have HV20 := hid hv20; obtain ⟨A20, k20, c20, xs20, b20, rfl, -⟩ := hv20; (first | (have hyy := row_facts HB2.out.2; obtain ⟨y0, y1, y2, y3⟩ := hyy) | skip))
            | (go_at_call_of 21 (Value.string td); refine (parse_s Dv td _ FV.out.2.2 Ktd).mono ?_; rintro e w21 ⟨v21, rfl, hv21, hx⟩; (first | have HB2 := hid (HB2.out.ext hx) | have HB2 := hid ((NB.new hcur.size).ext hx) | have HB2 := hid ((NB.newD hcur.size).ext hx) | skip); have HV20 := hid (by first | exact HV20.out.ext hx | exact HV20.out.ext (Ext.undrew hx) | exact HV20.out.ext (Ext.step ((Ext.rfl' _).alloc' _) hx)); have hcur := Ext.step hcur (by first | exact hx | exact Ext.undrew hx | exact Ext.step ((Ext.rfl' _).alloc' _) hx | exact Ext.step ((Ext.rfl' _).drew'.alloc' _) hx); have HV21 := hid hv21; obtain ⟨A21, k21, c21, xs21, b21, rfl, -⟩ := hv21; (first | (have hyy := row_facts HB2.out.2; obtain ⟨y0, y1, y2, y3⟩ := hyy) | skip))
            | (go_at_call_of 38 (Value.agg #[Value.bool b20, Value.slice A20 k20 c20]); refine (rmul_any _ _ Du Dv _ (HV20.out.ext ?_) (HV21.out.ext ?_) BB.out.2.2.1 BB.out.2.2.2.2.2).mono ?_; (first | exact Ext.rfl' _ | exact (Ext.rfl' _).drew' | exact (Ext.rfl' _).alloc' _ | exact (Ext.rfl' _).drew'.alloc' _); (first | exact Ext.rfl' _ | exact (Ext.rfl' _).drew' | exact (Ext.rfl' _).alloc' _ | exact (Ext.rfl' _).drew'.alloc' _); rintro e w22 ⟨v22, rfl, hv22, hx⟩; (first | have HB2 := hid (HB2.out.ext hx) | have HB2 := hid ((NB.new hcur.size).ext hx) | have HB2 := hid ((NB.newD hcur.size).ext hx) | skip); have hcur := Ext.step hcur (by first | exact hx | exact Ext.undrew hx | exact Ext.step ((Ext.rfl' _).alloc' _) hx | exact Ext.step ((Ext.rfl' _).drew'.alloc' _) hx); have HV22 := hid hv22; obtain ⟨A22, k22, c22, xs22, b22, rfl, -⟩ := hv22; (first | (have hyy := row_facts HB2.out.2; obtain ⟨y0, y1, y2, y3⟩ := hyy) | skip)))
        all_goals
          go_wp2_with fail
          go_meet
          first
            | exact ⟨_, _, b22, A22, k22, c22, rfl, rfl, (HB2.out.2.set 0 _).set 1 _, HV22.out.box HB2.out.2, (hcur.set' HB2.out.1 _).set' HB2.out.1 _⟩
            | exact ⟨_, _, b22, A22, k22, c22, rfl, rfl, Row.new _ _ [.bool b22, .slice A22 k22 c22], HV22.out.ext ((Ext.rfl' _).alloc' _), hcur.alloc' _⟩
      case rest =>
        obtain ⟨WC, g16, b16, P16, q16, c16, rfl, rfl, hrow, hvx, hex⟩ := hcut
        clear hcur
        have RW16 := hid hrow
        have VX16 := hid hvx
        have EX16 := hid hex
        clear hrow hvx hex
        have E9C := hid (EX14.out.step (EX15.out.step EX16.out))
        have HS2 : Hid (∀ W', Ext WC W' → W'.cell? ⟨w8.heap.size, 0, none⟩ = some (.string pu) ∧ W'.cell? ⟨w8.heap.size, 1, none⟩ = some (.string pa) ∧ W'.cell? ⟨w8.heap.size, 2, none⟩ = some (.string pd) ∧ W'.cell? ⟨g14, 0, none⟩ = some (.bool b14) ∧ W'.cell? ⟨g14, 1, none⟩ = some (.slice P14 q14 c14) ∧ W'.cell? ⟨g15, 0, none⟩ = some (.bool b15) ∧ W'.cell? ⟨g15, 1, none⟩ = some (.slice P15 q15 c15) ∧ W'.cell? ⟨g16, 0, none⟩ = some (.bool b16) ∧ W'.cell? ⟨g16, 1, none⟩ = some (.slice P16 q16 c16)) := hid (by
          intro W' e
          obtain ⟨p0, p1, p2, -, -, -⟩ := row_facts3 (R8.out.ext (HQ.out.step (E9C.out.step e)))
          obtain ⟨q0, q1, -, -⟩ := row_facts ((RW14.out.ext (EX15.out.step EX16.out)).ext e)
          obtain ⟨r0, r1, -, -⟩ := row_facts ((RW15.out.ext EX16.out).ext e)
          obtain ⟨s0, s1, -, -⟩ := row_facts (RW16.out.ext e)
          exact ⟨p0, p1, p2, q0, q1, r0, r1, s0, s1⟩)
        clear HS
        have HS := HS2
        clear HS2
        have hcur : Ext WC WC := Ext.rfl' _
        go_upto_region 12 with fail
        go_region_held3 (fun W' => W'.cell? ⟨w8.heap.size, 0, none⟩ = some (.string pu) ∧ W'.cell? ⟨w8.heap.size, 1, none⟩ = some (.string pa) ∧ W'.cell? ⟨w8.heap.size, 2, none⟩ = some (.string pd) ∧ W'.cell? ⟨g14, 0, none⟩ = some (.bool b14) ∧ W'.cell? ⟨g14, 1, none⟩ = some (.slice P14 q14 c14) ∧ W'.cell? ⟨g15, 0, none⟩ = some (.bool b15) ∧ W'.cell? ⟨g15, 1, none⟩ = some (.slice P15 q15 c15) ∧ W'.cell? ⟨g16, 0, none⟩ = some (.bool b16) ∧ W'.cell? ⟨g16, 1, none⟩ = some (.slice P16 q16 c16))
          (first | exact HS.out _ hcur | exact HS.out _ hcur.drew' | exact HS.out _ (hcur.alloc' _) | exact HS.out _ (hcur.drew'.alloc' _) | exact HS.out _ ((hcur.set' HB2.out.1 _).set' HB2.out.1 _) | go_keep)
          (first
            | (go_at_call_of 30 (Value.agg #[Value.bool b14, Value.slice P14 q14 c14]); refine (rtext_s _ ((VX14.out.ext (EX15.out.step EX16.out)).ext ?_) (fits_big FW.out.1) Kpu).mono ?_; (first | exact hcur | exact hcur.drew' | exact hcur.alloc' _ | exact hcur.drew'.alloc' _ | exact (hcur.alloc' _).drew'); rintro e w30 ⟨rfl, hx⟩; have hcur := Ext.step hcur (by first | exact hx | exact Ext.undrew hx | exact Ext.step ((Ext.rfl' _).alloc' _) hx | exact Ext.step ((Ext.rfl' _).drew'.alloc' _) hx))
            | (go_at_call_of 30 (Value.agg #[Value.bool b15, Value.slice P15 q15 c15]); refine (rtext_s _ ((VX15.out.ext EX16.out).ext ?_) (fits_big FW.out.2.1) Kpa).mono ?_; (first | exact hcur | exact hcur.drew' | exact hcur.alloc' _ | exact hcur.drew'.alloc' _ | exact (hcur.alloc' _).drew'); rintro e w30 ⟨rfl, hx⟩; have hcur := Ext.step hcur (by first | exact hx | exact Ext.undrew hx | exact Ext.step ((Ext.rfl' _).alloc' _) hx | exact Ext.step ((Ext.rfl' _).drew'.alloc' _) hx))
            | (go_at_call_of 30 (Value.agg #[Value.bool b16, Value.slice P16 q16 c16]); refine (rtext_s _ ((VX16.out.ext (Ext.rfl' _)).ext ?_) (fits_big FW.out.2.2) Kpd).mono ?_; (first | exact hcur | exact hcur.drew' | exact hcur.alloc' _ | exact hcur.drew'.alloc' _ | exact (hcur.alloc' _).drew'); rintro e w30 ⟨rfl, hx⟩; have hcur := Ext.step hcur (by first | exact hx | exact Ext.undrew hx | exact Ext.step ((Ext.rfl' _).alloc' _) hx | exact Ext.step ((Ext.rfl' _).drew'.alloc' _) hx))
            | (go_at_call 19; refine (awake3_any _ (HT.out.ext ((HX.out.step (HE9.out.step E9C.out)).step ?_))).mono ?_; (first | exact hcur | exact hcur.drew' | exact hcur.alloc' _ | exact hcur.drew'.alloc' _ | exact (hcur.alloc' _).drew'); rintro e w33 ⟨rfl, hx⟩; have hcur := Ext.step hcur (by first | exact hx | exact Ext.undrew hx | exact Ext.step ((Ext.rfl' _).alloc' _) hx | exact Ext.step ((Ext.rfl' _).drew'.alloc' _) hx)))
        all_goals
          have HZ := hid ((HX.out.step (HE9.out.step E9C.out)).step hcur)
          go_wp2
          go_ret
          exact ⟨rfl, by first | exact HZ.out | exact HZ.out.drew' | exact HZ.out.drewN _⟩
theorem law_WordParts (v : Value) (m : Int) (us ad : List Int) (U V : Option Addr) (un uc vn vc N : Nat) (uw vw : List Int) (w : World) (hv : MapV w v m us ad) (hu : Rd w U (Is uw)) (hlu : uw.length = un) (hw : Rd w V (Is vw)) (hlv : vw.length = vn) (hN : un + vn = N) (hb : N * 8 ≤ 140737488355328) (ht : Tab w) : Calls Tryz.prog 6 #[v, .slice U un uc, .slice V vn vc] w (TruePost w) := by
  by_cases h : mapB m us ad = true ∧ wordB m (uw ++ vw) = true
  · have hM := (mapB_iff m us ad).1 h.1
    have hp := wordB_parts h.2
    have e := line_append m us ad uw _ vw rfl
    have f1 := lin_fits hM hp.1
    have f2 := lin_fits hM hp.2
    have f3 := lin_fits hM h.2
    obtain ⟨⟨Mu, Au, Du⟩, h1⟩ : ∃ x, lineI m us ad uw = x := ⟨_, rfl⟩
    obtain ⟨⟨Mv, Av, Dv⟩, h2⟩ : ∃ x, lineI m us ad vw = x := ⟨_, rfl⟩
    rw [h1, h2] at e
    rw [h1] at f1
    rw [h2] at f2
    rw [e] at f3
    exact parts_yes v m us ad U V un uc vn vc N uw vw w hv hu hlu hw hlv hN hb ht (hid hM) (hid h.2) (hid hp.1) (hid hp.2) Mu Au Du Mv Av Dv _ _ _ _ _ _ _ _ _ (hid f1) (hid f2) (hid f3) (hid h1) (hid h2) (hid e)
      (hid rfl) (hid rfl) (hid rfl) (hid rfl) (hid rfl) (hid rfl) (hid rfl) (hid rfl) (hid rfl)
  · exact parts_no v m us ad U V un uc vn vc N uw vw w hv hu hlu hw hlv hN hb ht _ _ (hid rfl) (hid rfl) (hid h)
end Go.Proofs.YtlfbgemceeibiaaGreatDoor
