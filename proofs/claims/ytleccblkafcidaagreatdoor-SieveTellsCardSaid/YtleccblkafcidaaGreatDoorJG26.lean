/- Joined texts: the reference's Find of layer 4; package sieve: Find in its error ways. -/
import Derived.Test.YtleccblkafcidaaGreatDoorJG25
import Derived.Test.YtleccblkafcidaaGreatDoorJG21
import Derived.Test.YtleccblkafcidaaGreatDoorJG19
import Derived.Test.YtleccblkafcidaaGreatDoorJG20
set_option linter.unusedSimpArgs false
set_option linter.unusedVariables false
/- the reference's Find of layer 4 -/
namespace Go.Proofs.YtleccblkafcidaaGreatDoor
open Go.RowKit
theorem box_three3 (w : World) (t1 t2 t3 : TypeId) (a b c : List Value) : Ext w (((w.alloc (.cells a.toArray t1)).alloc (.cells b.toArray t2)).alloc (.cells c.toArray t3)) ∧ Row (((w.alloc (.cells a.toArray t1)).alloc (.cells b.toArray t2)).alloc (.cells c.toArray t3)) w.heap.size t1 a ∧ Row (((w.alloc (.cells a.toArray t1)).alloc (.cells b.toArray t2)).alloc (.cells c.toArray t3)) (w.heap.size + 1) t2 b ∧ Row (((w.alloc (.cells a.toArray t1)).alloc (.cells b.toArray t2)).alloc (.cells c.toArray t3)) (w.heap.size + 1 + 1) t3 c := by
  refine ⟨(((Ext.rfl' w).alloc' _).alloc' _).alloc' _, ((Row.new w t1 a).alloc _).alloc _, ?_, ?_⟩
  · have := (Row.new (w.alloc (.cells a.toArray t1)) t2 b).alloc (.cells c.toArray t3)
    rwa [World.size_alloc] at this
  · have := Row.new ((w.alloc (.cells a.toArray t1)).alloc (.cells b.toArray t2)) t3 c
    rwa [World.size_alloc, World.size_alloc] at this
theorem rrests_w (v : Value) (m : Int) (us ad : List Int) (q : Nat) (W : Int) (w : World) (hv : MapV w v m us ad) (hM : Hid (mapP m us ad)) (hS : Hid (SuitP m us (q : Int))) (hqq : (q : Int) ≤ 9223372036854775807) (hW : Hid (m ^ q = W)) :
    Calls Tryz.prog 27 #[v, .int .i64 (q : Int)] w (fun e w' => e = .returned (.int .i64 W) ∧ Ext w w') := by
  refine (rrests_any v m us ad (q : Int) w hv hM (by omega) hqq).mono ?_
  rintro e w' ⟨r, rfl, hr, hx⟩
  refine ⟨?_, hx⟩
  rcases hr with ⟨-, -, h⟩ | ⟨h, -⟩
  · rw [h, Int.toNat_natCast, hW.out]
  · exact absurd ⟨hS.out.2.1, hS.out.2.2⟩ h
theorem rpart_w (va : Value) (X W R : Int) (w : World) (ha : RefV w va X) (la : X.natAbs ≤ BIG) (hW : Hid (1 ≤ W ∧ W ≤ 65536)) (hR : Hid (X % W = R)) :
    Calls Tryz.prog 26 #[va, .int .i64 W] w (fun e w' => ∃ v, e = .returned (.tuple #[v, .int .i64 R]) ∧ RefV w' v (X / W) ∧ Ext w w') := by
  have h := hW.out
  obtain ⟨d, rfl⟩ : ∃ d : Nat, W = (d : Int) := ⟨W.toNat, by omega⟩
  rw [← hR.out]
  exact rpart_any va X d w ha la (by omega) (by omega)
theorem fall_nums {m : Int} {us ad : List Int} (hM : mapP m us ad) {k : Nat} (hk : m ^ ((k : Int)).toNat ≤ 65536) {X : Int} {i : Nat} (hi : i ≤ k) (hf : FallsAt m us ad X i) :
    K.fits (lnX m us ad X i).1 ∧ K.fits (lnX m us ad X i).2.1 ∧ K.fits (m ^ i) ∧ (lnX m us ad X i).1 < m ^ i ∧ K.fits (m ^ i - (lnX m us ad X i).1) ∧ K.fits ((lnX m us ad X i).2.1 / (m ^ i - (lnX m us ad X i).1)) := by
  rw [Int.toNat_natCast] at hk
  have hbd := place_bds hM hi hk X
  unfold FallsAt at hf
  have hab := hbd.2.2.2 (by omega)
  have hbB : ((lnX m us ad X i).2.1 / (m ^ i - (lnX m us ad X i).1)).natAbs ≤ 4294967296000000 := Nat.le_trans (Int.natAbs_ediv_le_natAbs _ _) hab
  exact ⟨fits_small (by omega), fits_small (by omega), fits_small (by omega), hf, fits_small (by omega), fits_small (by omega)⟩
set_option maxRecDepth 100000 in
set_option maxHeartbeats 12800000 in
theorem rfind_any (v vn : Value) (m : Int) (us ad : List Int) (X : Int) (q : Nat) (w : World) (hv : MapV w v m us ad) (hM : Hid (mapP m us ad)) (hn : RefV w vn X) (hX : X.natAbs ≤ BIG) (hS : Hid (SuitP m us (q : Int))) (hqq : (q : Int) ≤ 9223372036854775807) :
    Calls Tryz.prog 24 #[v, vn, .int .i64 (q : Int)] w (fun e w' => ∃ fv b, e = .returned (.tuple #[fv, .bool b]) ∧ FindC m us ad X q fv b ∧ Ext w w') := by
  have hm := hM.out.1
  have hm2 := hM.out.2.1
  have hkq : m ^ q ≤ 65536 := by have := hS.out.2.2; rwa [Int.toNat_natCast] at this
  have hwp : 0 < m ^ q := Int.pow_pos (by omega)
  have HQ : Hid (q ≤ 16) := hid (by
    rcases Nat.lt_or_ge 16 q with h | h
    · exfalso
      have h2 : m ^ 17 ≤ m ^ q := pow_grow hM.out.1 h
      have h3 : (2 : Int) ^ 17 ≤ m ^ 17 := two_pow hM.out.1 17
      have h4 : (2 : Int) ^ 17 = 131072 := by decide
      omega
    · exact h)
  obtain ⟨W, hW⟩ : ∃ W, m ^ q = W := ⟨_, rfl⟩
  obtain ⟨R, hR⟩ : ∃ R, X % m ^ q = R := ⟨_, rfl⟩
  have HR : Hid (0 ≤ R ∧ R ≤ 65536) := hid (by
    have h1 := Int.emod_nonneg X (show m ^ q ≠ 0 by omega)
    have h2 := Int.emod_lt_of_pos X hwp
    omega)
  have HW : Hid (1 ≤ W ∧ W ≤ 65536) := hid (by omega)
  have HWE := hid hW
  have HRE := hid hR
  have HRW : Hid (X % W = R) := hid (by rw [← hW]; exact hR)
  clear hW hR hkq hwp
  have HV := hid hv
  have HN := hid hn
  obtain ⟨A, n, cc, B, n2, d2, rfl, -⟩ := hv
  obtain ⟨A0, k0, c0, xs0, b0, rfl, -⟩ := hn
  have hx : Ext w (((w.alloc (.cells #[.int .i64 m, .slice A n cc, .slice B n2 d2] 24)).alloc (.cells #[.bool b0, .slice A0 k0 c0] 47)).alloc (.cells #[.int .i64 0, .int .i64 0, .string ⟨#[]⟩, .string ⟨#[]⟩, .string ⟨#[]⟩, .string ⟨#[]⟩] 40)) := (((Ext.rfl' w).alloc' _).alloc' _).alloc' _
  obtain ⟨e3, t1, t2, t3⟩ := box_three3 w 24 47 40 [.int .i64 m, .slice A n cc, .slice B n2 d2] [.bool b0, .slice A0 k0 c0] [.int .i64 0, .int .i64 0, .string ⟨#[]⟩, .string ⟨#[]⟩, .string ⟨#[]⟩, .string ⟨#[]⟩]
  obtain ⟨w1, hw1⟩ : ∃ w1, (((w.alloc (.cells #[.int .i64 m, .slice A n cc, .slice B n2 d2] 24)).alloc (.cells #[.bool b0, .slice A0 k0 c0] 47)).alloc (.cells #[.int .i64 0, .int .i64 0, .string ⟨#[]⟩, .string ⟨#[]⟩, .string ⟨#[]⟩, .string ⟨#[]⟩] 40)) = w1 := ⟨_, rfl⟩
  rw [hw1] at hx t1 t2 t3
  have HW1 := hid hw1
  have EX := hid hx
  have RM := hid t1
  have RN := hid t2
  have RF := hid t3
  replace HV := hid (HV.out.ext hx)
  have VN := hid (HN.out.ext hx)
  clear hw1 hx e3 t1 t2 t3 HN
  go_enter Tryz.func24, Tryz.ntmps24
  go_upto_region 1 with fail
  rw [HW1.out]
  clear HW1
  obtain ⟨H, hH⟩ : ∃ H, w.heap.size = H := ⟨_, rfl⟩
  rw [hH] at RM RN RF
  rw [hH]
  have HH := hid hH
  clear hH
  have HS : Hid (∀ W', Ext w1 W' → W'.cell? ⟨H, 0, none⟩ = some (.int .i64 m) ∧ W'.cell? ⟨H, 1, none⟩ = some (.slice A n cc) ∧ W'.cell? ⟨H, 2, none⟩ = some (.slice B n2 d2) ∧ W'.cell? ⟨H + 1, 0, none⟩ = some (.bool b0) ∧ W'.cell? ⟨H + 1, 1, none⟩ = some (.slice A0 k0 c0)) := hid (by
    intro W' e
    obtain ⟨x0, y0, z0, -, -, -⟩ := row_facts3 (RM.out.ext e)
    obtain ⟨x1, y1, -, -⟩ := row_facts (RN.out.ext e)
    exact ⟨x0, y0, z0, x1, y1⟩)
  have hcur : Ext w1 w1 := Ext.rfl' _
  go_cut [9] (fun sx wx => sx = .int .i64 R ∧ Ext w1 wx)
  case first =>
    go_region_held3 (fun W' => W'.cell? ⟨H, 0, none⟩ = some (.int .i64 m) ∧ W'.cell? ⟨H, 1, none⟩ = some (.slice A n cc) ∧ W'.cell? ⟨H, 2, none⟩ = some (.slice B n2 d2) ∧ W'.cell? ⟨H + 1, 0, none⟩ = some (.bool b0) ∧ W'.cell? ⟨H + 1, 1, none⟩ = some (.slice A0 k0 c0))
      (first | (with_reducible exact HS.out _ hcur) | (with_reducible exact HS.out _ hcur.drew') | (with_reducible exact HS.out _ (hcur.alloc' _)) | (with_reducible exact HS.out _ (hcur.drew'.alloc' _)) | (with_reducible exact HS.out _ (hcur.alloc' _).drew') | exact HS.out _ ((hcur.set' HB2.out.1 _).set' HB2.out.1 _) | go_keep)
      (first
        | (go_at_call 27; refine (rrests_w _ m us ad q W _ (HV.out.ext ?_) hM hS hqq HWE).mono ?_; (first | exact hcur | exact hcur.drew' | exact hcur.alloc' _ | exact hcur.drew'.alloc' _ | exact (hcur.alloc' _).drew'); rintro e w20 ⟨rfl, hx⟩; (first | have HB2 := hid (HB2.out.ext hx) | have HB2 := hid ((NB.new hcur.size).ext hx) | have HB2 := hid ((NB.newD hcur.size).ext hx) | skip); have hcur := Ext.step hcur (by first | exact hx | exact Ext.undrew hx | exact Ext.step ((Ext.rfl' _).alloc' _) hx | exact Ext.step ((Ext.rfl' _).drew'.alloc' _) hx))
        | (go_at_call 26; refine (rpart_w _ X W R _ (VN.out.ext ?_) hX HW HRW).mono ?_; (first | exact hcur | exact hcur.drew' | exact hcur.alloc' _ | exact hcur.drew'.alloc' _ | exact (hcur.alloc' _).drew'); rintro e w21 ⟨v21, rfl, hv21, hx⟩; (first | have HB2 := hid (HB2.out.ext hx) | have HB2 := hid ((NB.new hcur.size).ext hx) | have HB2 := hid ((NB.newD hcur.size).ext hx) | skip); have hcur := Ext.step hcur (by first | exact hx | exact Ext.undrew hx | exact Ext.step ((Ext.rfl' _).alloc' _) hx | exact Ext.step ((Ext.rfl' _).drew'.alloc' _) hx); have HV21 := hid hv21; obtain ⟨A21, k21, c21, xs21, b21, rfl, -⟩ := hv21; (first | (have hyy := row_facts HB2.out.2; obtain ⟨y0, y1, y2, y3⟩ := hyy) | skip)))
    all_goals
      go_wp2_with fail
      go_meet
      first
        | exact ⟨rfl, (hcur.set' HB2.out.1 _).set' HB2.out.1 _⟩
        | exact ⟨rfl, hcur.alloc' _⟩
  case rest =>
    obtain ⟨rfl, hx⟩ := hcut
    replace HV := hid (HV.out.ext hx)
    replace RM := hid (RM.out.ext hx)
    replace RN := hid (RN.out.ext hx)
    replace RF := hid (RF.out.ext hx)
    replace VN := hid (VN.out.ext hx)
    replace EX := hid (EX.out.step hx)
    clear hx hcur HS
    obtain ⟨f0, f1, f2, -, -, -⟩ := row_facts3 RM.out
    go_wp2_with fail
    refine (rfirst_any _ m us ad R q wc HV.out hM HR.out.1 HR.out.2 (by have := HQ.out; omega)).mono ?_
    rintro e w30 ⟨at_, s, lv, rfl, hlr, hfc, hx⟩
    replace HV := hid (HV.out.ext hx)
    replace RM := hid (RM.out.ext hx)
    replace RN := hid (RN.out.ext hx)
    replace RF := hid (RF.out.ext hx)
    replace VN := hid (VN.out.ext hx)
    replace EX := hid (EX.out.step hx)
    clear hx f0 f1 f2
    have HLR := hid hlr
    obtain ⟨e1, E1, t1, g1, e2, E2, t2, g2, e3, E3, t3, g3, rfl, -⟩ := hlr
    have ha := (Ext.rfl' w30).alloc' (.cells #[.bool e1, .slice E1 t1 g1, .bool e2, .slice E2 t2 g2, .bool e3, .slice E3 t3 g3] 92)
    have hq : Row (w30.alloc (.cells #[.bool e1, .slice E1 t1 g1, .bool e2, .slice E2 t2 g2, .bool e3, .slice E3 t3 g3] 92)) w30.heap.size 92 [.bool e1, .slice E1 t1 g1, .bool e2, .slice E2 t2 g2, .bool e3, .slice E3 t3 g3] := Row.new w30 _ _
    obtain ⟨w31, hw31⟩ : ∃ w31, w30.alloc (.cells #[.bool e1, .slice E1 t1 g1, .bool e2, .slice E2 t2 g2, .bool e3, .slice E3 t3 g3] 92) = w31 := ⟨_, rfl⟩
    rw [hw31] at ha hq
    have Ew31 := hid hw31
    have RL := hid hq
    replace HLR := hid (HLR.out.ext ha)
    replace HV := hid (HV.out.ext ha)
    replace RM := hid (RM.out.ext ha)
    replace RN := hid (RN.out.ext ha)
    replace RF := hid (RF.out.ext ha)
    replace VN := hid (VN.out.ext ha)
    replace EX := hid (EX.out.step ha)
    clear ha hq hw31
    go_upto_region 3 with fail
    rw [Ew31.out]
    clear Ew31
    obtain ⟨HL, hHL⟩ : ∃ HL, w30.heap.size = HL := ⟨_, rfl⟩
    rw [hHL] at RL
    rw [hHL]
    clear hHL
    have HLC : Hid (∀ j, j ≤ q → lnX m us ad R j = lnX m us ad X j) := hid (fun j hj => lnX_cg (by omega) (by rw [← HRE.out]; exact rest_of_pow (by omega) X hj))
    have HFC : Hid (∀ j, j ≤ q → (FallsAt m us ad R j ↔ FallsAt m us ad X j)) := hid (fun j hj => falls_congr (by omega) (by rw [← HRE.out]; exact rest_of_pow (by omega) X hj))
    obtain ⟨h1, h2, rfl, h3, h4⟩ | ⟨rfl, rfl, h4⟩ := hfc
    case inr =>
      have rf := RF.out
      have HFIN : Hid (∃ (fv : Value) (b : Bool), Ending.returned (.tuple #[.agg #[.int .i64 0, .int .i64 0, .string ⟨#[]⟩, .string ⟨#[]⟩, .string ⟨#[]⟩, .string ⟨#[]⟩], .bool false]) = .returned (.tuple #[fv, .bool b]) ∧ FindC m us ad X s fv b) := hid ⟨_, _, rfl, .inr ⟨rfl, rfl, fun j h5 h6 hf => h4 j h5 h6 ((HFC.out j h6).2 hf)⟩⟩
      clear h4
      obtain ⟨⟨u0, u1, u2, u3, u4, u5⟩, v0, v1, v2, v3, v4, v5⟩ := row_facts6 rf
      have r2 : Row ((((((w31.setCell ⟨H + 1 + 1, 0, none⟩ (.int .i64 0)).setCell ⟨H + 1 + 1, 1, none⟩ (.int .i64 0)).setCell ⟨H + 1 + 1, 2, none⟩ (.string ⟨#[]⟩)).setCell ⟨H + 1 + 1, 3, none⟩ (.string ⟨#[]⟩)).setCell ⟨H + 1 + 1, 4, none⟩ (.string ⟨#[]⟩)).setCell ⟨H + 1 + 1, 5, none⟩ (.string ⟨#[]⟩)) (H + 1 + 1) 40 [.int .i64 0, .int .i64 0, .string ⟨#[]⟩, .string ⟨#[]⟩, .string ⟨#[]⟩, .string ⟨#[]⟩] := rf.put6
      have ex := EX.out.set6 (H := H + 1 + 1) (a := .int .i64 0) (b := .int .i64 0) (c := .string ⟨#[]⟩) (d := .string ⟨#[]⟩) (e := .string ⟨#[]⟩) (f := .string ⟨#[]⟩) (by rw [HH.out]; omega)
      have HZ := hid (row_facts6 r2)
      have HE := hid ex
      clear rf r2 ex
      go_wp2
      obtain ⟨⟨y0, y1, y2, y3, y4, y5⟩, -⟩ := HZ.out
      refine bodyPost_ret (v := .tuple #[.agg #[.int .i64 0, .int .i64 0, .string ⟨#[]⟩, .string ⟨#[]⟩, .string ⟨#[]⟩, .string ⟨#[]⟩], .bool false]) (by simp [results, Tryz.results24, go_sem, y0, y1, y2, y3, y4, y5]) rfl ?_
      obtain ⟨fv, b, h5, h6⟩ := HFIN.out
      first
        | exact ⟨fv, b, h5, h6, HE.out⟩
        | (refine ⟨fv, ?_⟩
           cases b
           · exact .inl ⟨h5, h6, HE.out⟩
           · exact .inr ⟨h5, h6, HE.out⟩)
    case inl =>
      have hs0 : ¬ ((at_ : Int) = 0) := by omega
      have hs1 : ((at_ : Int) == 0) = false := beq_eq_false_iff_ne.2 hs0
      have HAT : Hid (1 ≤ at_ ∧ at_ ≤ q ∧ FallsAt m us ad X at_ ∧ ∀ j, 1 ≤ j → j < at_ → ¬ FallsAt m us ad X j) := hid ⟨h1, h2, (HFC.out _ h2).1 h3, fun j h5 h6 hf => h4 j h5 h6 ((HFC.out j (by omega)).2 hf)⟩
      have HLN : Hid (lnX m us ad R at_ = lnX m us ad X at_) := hid (HLC.out _ h2)
      rw [HLN.out] at HLR
      have HB := hid (fall_nums hM.out hS.out.2.2 HAT.out.2.1 HAT.out.2.2.1)
      obtain ⟨M1, hM1⟩ : ∃ t, (lnX m us ad X at_).1 = t := ⟨_, rfl⟩
      obtain ⟨A1, hA1⟩ : ∃ t, (lnX m us ad X at_).2.1 = t := ⟨_, rfl⟩
      obtain ⟨D1, hD1⟩ : ∃ t, m ^ at_ = t := ⟨_, rfl⟩
      have hL3 : lnX m us ad X at_ = (M1, A1, D1) := by rw [← hM1, ← hA1, ← hD1, ← lnX_div m us ad X at_]
      have HL3 := hid hL3
      rw [hL3] at HLR
      rw [hM1, hA1, hD1] at HB
      have hd1 : 1 ≤ D1 ∧ D1 ≤ 65536 := by
        rw [← hD1]
        have h5 : m ^ at_ ≤ m ^ q := pow_grow hM.out.1 h2
        have h6 : m ^ q = W := HWE.out
        exact ⟨Int.pow_pos (by omega), by have := HW.out; omega⟩
      have HD1 := hid hd1
      obtain ⟨R1, hR1⟩ : ∃ t, X % m ^ at_ = t := ⟨_, rfl⟩
      have HR1 : Hid (R.tmod D1 = R1) := hid (by
        rw [Int.tmod_eq_emod_of_nonneg HR.out.1, ← hR1, ← hD1, ← HRE.out]
        exact rest_of_pow (by omega) X h2)
      obtain ⟨bd, hbd⟩ : ∃ t, A1 / (D1 - M1) = t := ⟨_, rfl⟩
      rw [hbd] at HB
      have Hq := hid hbd
      obtain ⟨su, hsu⟩ : ∃ t, Str (K.txt M1) = t := ⟨_, rfl⟩
      obtain ⟨sa, hsa⟩ : ∃ t, Str (K.txt A1) = t := ⟨_, rfl⟩
      obtain ⟨sd, hsd⟩ : ∃ t, Str (K.txt D1) = t := ⟨_, rfl⟩
      obtain ⟨sb, hsb⟩ : ∃ t, Str (K.txt bd) = t := ⟨_, rfl⟩
      have HS1 := hid hsu
      have HS2 := hid hsa
      have HS3 := hid hsd
      have HS4 := hid hsb
      have HFIN : Hid (∃ (fv : Value) (b : Bool), Ending.returned (.tuple #[FaV (at_ : Int) R1 su sa sd sb, .bool true]) = .returned (.tuple #[fv, .bool b]) ∧ FindC m us ad X q fv b) := hid ⟨_, _, rfl, .inl ⟨rfl, at_, HAT.out.1, h2, HAT.out.2.2.1, HAT.out.2.2.2, by rw [hM1, hA1, hR1, hD1, hbd, hsu, hsa, hsd, hsb]⟩⟩
      have HWK : Hid (∀ j, j < at_ → IntKind.i64.wrap (m ^ j * m) = m ^ (j + 1)) := hid (fun j hj => by
        have h5 : m ^ (j + 1) ≤ m ^ at_ := pow_grow hM.out.1 hj
        have h6 : 0 < m ^ (j + 1) := Int.pow_pos (by omega)
        rw [hD1] at h5
        have e : m ^ j * m = m ^ (j + 1) := (Int.pow_succ m j).symm
        rw [e]
        exact IntWalk.i64_in _ (by omega))
      have HDE := hid hD1
      clear h1 h2 h3 h4 hM1 hA1 hD1 hL3 hd1 hR1 hbd hsu hsa hsd hsb HLC HFC hs0 HLN
      obtain ⟨f0, f1, f2, -, -, -⟩ := row_facts3 RM.out
      go_wp2_with fail
      go_loop [12, 13] (fun md iz => ∃ j : Nat, j ≤ at_ ∧ md = .int .i64 (m ^ j) ∧ iz = .int .i64 (j : Int)) (fun _ iz => at_ - (intOf iz).toNat)
      case atStart => exact ⟨0, by omega, by rw [Int.pow_zero], rfl⟩
      case round =>
        obtain ⟨j, hj, rfl, rfl⟩ := hrel
        by_cases hlt : j < at_
        · have hlt2 : (j : Int) < (at_ : Int) := by omega
          have hwk := HWK.out j hlt
          have hwi : IntKind.i64.wrap ((j : Int) + 1) = (j : Int) + 1 := IntWalk.i64_in _ (by have := HQ.out; have := HAT.out.2.1; omega)
          go_wp2
          go_round
          case rel => exact ⟨j + 1, by omega, by first | rfl | rw [hwk] | simp [hwk], by simp⟩
          case measure => first | (simp [intOf]; done) | (simp [intOf]; omega)
        · obtain rfl : j = at_ := by omega
          rw [HDE.out]
          have hd0 : ¬ D1 = 0 := by have := HD1.out; omega
          have hd2 : (D1 == 0) = false := beq_eq_false_iff_ne.2 hd0
          have hrt := HR1.out
          clear f0 f1 f2 HWK HDE
          have HS : Hid (∀ W', Ext w31 W' → W'.cell? ⟨HL, 0, none⟩ = some (.bool e1) ∧ W'.cell? ⟨HL, 1, none⟩ = some (.slice E1 t1 g1) ∧ W'.cell? ⟨HL, 2, none⟩ = some (.bool e2) ∧ W'.cell? ⟨HL, 3, none⟩ = some (.slice E2 t2 g2) ∧ W'.cell? ⟨HL, 4, none⟩ = some (.bool e3) ∧ W'.cell? ⟨HL, 5, none⟩ = some (.slice E3 t3 g3)) := hid (by
            intro W' e
            obtain ⟨⟨x0, y0, z0, u0, v0, t0⟩, -⟩ := row_facts6 (RL.out.ext e)
            exact ⟨x0, y0, z0, u0, v0, t0⟩)
          have hcur : Ext w31 w31 := Ext.rfl' _
          go_upto_region 10 with fail
          refine wp_region_split 6 (fun W' => W'.cell? ⟨HL, 0, none⟩ = some (.bool e1) ∧ W'.cell? ⟨HL, 1, none⟩ = some (.slice E1 t1 g1) ∧ W'.cell? ⟨HL, 2, none⟩ = some (.bool e2) ∧ W'.cell? ⟨HL, 3, none⟩ = some (.slice E2 t2 g2) ∧ W'.cell? ⟨HL, 4, none⟩ = some (.bool e3) ∧ W'.cell? ⟨HL, 5, none⟩ = some (.slice E3 t3 g3)) (by kernel_rfl) (by kernel_rfl) ?shh (fun hh0 => ?_)
          case shh => (try dsimp only); (first | (with_reducible exact HS.out _ hcur) | (with_reducible exact HS.out _ hcur.drew') | (with_reducible exact HS.out _ (hcur.alloc' _)) | go_keep)
          simp only [List.take_succ_cons, List.take_zero, List.drop_succ_cons, List.drop_zero]
          refine takeH (i := 0) (v := ?vhh0) rfl (by kernel_rfl) (fun _ _ _ h => h) ⟨by rfl, ?yhh0⟩ (by assumption) ?_
          case yhh0 => intro w hSw; (try dsimp only at hSw); go_simp; (try with_reducible rfl)
          try simp only [Act.put, List.setIfInBounds_toArray, List.set_cons_zero, List.set_cons_succ]
          refine takeH (i := 1) (v := ?vhh1) rfl (by kernel_rfl) (fun _ _ _ h => h) ⟨by rfl, ?yhh1⟩ (by assumption) ?_
          case yhh1 => intro w hSw; (try dsimp only at hSw); go_simp; (try with_reducible rfl)
          try simp only [Act.put, List.setIfInBounds_toArray, List.set_cons_zero, List.set_cons_succ]
          refine takeH (i := 2) (v := ?vhh2) rfl (by kernel_rfl) (fun _ _ _ h => h) ⟨by rfl, ?yhh2⟩ (by assumption) ?_
          case yhh2 => intro w hSw; (try dsimp only at hSw); go_simp; (try with_reducible rfl)
          try simp only [Act.put, List.setIfInBounds_toArray, List.set_cons_zero, List.set_cons_succ]
          refine takeH (i := 3) (v := ?vhh3) rfl (by kernel_rfl) (fun _ _ _ h => h) ⟨by rfl, ?yhh3⟩ (by assumption) ?_
          case yhh3 => intro w hSw; (try dsimp only at hSw); go_simp; (try with_reducible rfl)
          try simp only [Act.put, List.setIfInBounds_toArray, List.set_cons_zero, List.set_cons_succ]
          refine takeH (i := 4) (v := ?vhh4) rfl (by kernel_rfl) (fun _ _ _ h => h) ⟨by rfl, ?yhh4⟩ (by assumption) ?_
          case yhh4 => intro w hSw; (try dsimp only at hSw); go_simp; (try with_reducible rfl)
          try simp only [Act.put, List.setIfInBounds_toArray, List.set_cons_zero, List.set_cons_succ]
          refine stepH (i := 5) rfl (by kernel_rfl) (fun K hK => ?_)
          go_simp
          go_at_call 77
          refine (rfall_any _ _ _ M1 A1 D1 bd su sa sd sb _ (HLR.out.ext ?_) HB Hq HS1 HS2 HS3 HS4).mono ?_
          · (first | exact hcur | exact hcur.drew' | exact hcur.alloc' _ | exact hcur.drew'.alloc' _ | exact (hcur.alloc' _).drew')
          unfold FaV
          rintro e w40 ⟨rfl, hx⟩
          have hcur := Ext.step hcur (by first | exact hx | exact Ext.undrew hx | exact Ext.step ((Ext.rfl' _).alloc' _) hx | exact Ext.step ((Ext.rfl' _).drew'.alloc' _) hx)
          refine hK.out _ _ ?_ (fun hh1 => ?_)
          · (try dsimp only); (first | (with_reducible exact HS.out _ hcur) | (with_reducible exact HS.out _ hcur.drew') | (with_reducible exact HS.out _ (hcur.alloc' _)) | go_keep)
          clear hK K hh0
          try simp only [Act.put, List.setIfInBounds_toArray, List.set_cons_zero, List.set_cons_succ]
          refine wpAnyH_done (by kernel_rfl) ?_ _
          change wpList _ _ _ _ _ _
          clear hh1
          have rf := RF.out.ext hcur
          have r2 : Row ((((((w40.setCell ⟨H + 1 + 1, 0, none⟩ (.int .i64 (j : Int))).setCell ⟨H + 1 + 1, 1, none⟩ (.int .i64 R1)).setCell ⟨H + 1 + 1, 2, none⟩ (.string su)).setCell ⟨H + 1 + 1, 3, none⟩ (.string sa)).setCell ⟨H + 1 + 1, 4, none⟩ (.string sd)).setCell ⟨H + 1 + 1, 5, none⟩ (.string sb)) (H + 1 + 1) 40 [.int .i64 (j : Int), .int .i64 R1, .string su, .string sa, .string sd, .string sb] := rf.put6
          have ex := (EX.out.step hcur).set6 (H := H + 1 + 1) (a := .int .i64 (j : Int)) (b := .int .i64 R1) (c := .string su) (d := .string sa) (e := .string sd) (f := .string sb) (by rw [HH.out]; omega)
          have HE := hid ex
          obtain ⟨⟨u0, u1, u2, u3, u4, u5⟩, v0, v1, v2, v3, v4, v5⟩ := row_facts6 rf
          have HZ := hid (row_facts6 r2)
          clear hcur HS rf r2 ex
          go_wp2
          obtain ⟨⟨y0, y1, y2, y3, y4, y5⟩, -⟩ := HZ.out
          refine bodyPost_ret (v := .tuple #[FaV (j : Int) R1 su sa sd sb, .bool true]) (by simp [FaV, results, Tryz.results24, go_sem, y0, y1, y2, y3, y4, y5]) rfl ?_
          obtain ⟨fv, b, h5, h6⟩ := HFIN.out
          first
            | exact ⟨fv, b, h5, h6, HE.out⟩
            | (refine ⟨fv, ?_⟩
               cases b
               · exact .inl ⟨h5, h6, HE.out⟩
               · exact .inr ⟨h5, h6, HE.out⟩)
end Go.Proofs.YtleccblkafcidaaGreatDoor
/- package sieve: Find in its error ways -/
namespace Go.Proofs.YtleccblkafcidaaGreatDoor
open Go.RowKit
set_option maxRecDepth 100000 in
set_option maxHeartbeats 3200000 in
theorem find_bad (v : Value) (m : Int) (us ad : List Int) (l : List UInt8) (k : Int) (w : World) (hv : MapV w v m us ad) (hlen : l.length ≤ 140737488351232) {b1 b2 : Bool} (hb1 : Hid (mapB m us ad = b1)) (hb2 : Hid (K.validL l = b2)) (hk : -9223372036854775808 ≤ k) (hk2 : k ≤ 9223372036854775807) (HN : Hid (¬ (b1 = true ∧ b2 = true ∧ SuitP m us k))) {c : Int} (hc : Hid (c = if b1 = true ∧ b2 = true then 2 else 1)) :
    Calls Tryz.prog 22 #[v, .string (Str l), .int .i64 k] w (fun e w' => e = .returned (.tuple #[.agg #[.int .i64 0, .int .i64 0, .string ⟨#[]⟩, .string ⟨#[]⟩, .string ⟨#[]⟩, .string ⟨#[]⟩], .bool false, .int .i64 c]) ∧ Ext w w') := by
  have HV := hid hv
  obtain ⟨A, n, cc, B, n2, d, rfl, -⟩ := hv
  have hx : Ext w ((w.alloc (.cells #[.int .i64 m, .slice A n cc, .slice B n2 d] 24)).alloc (.cells #[.int .i64 0, .int .i64 0, .string ⟨#[]⟩, .string ⟨#[]⟩, .string ⟨#[]⟩, .string ⟨#[]⟩] 40)) := ((Ext.rfl' w).alloc' _).alloc' _
  have hr1 : Row ((w.alloc (.cells #[.int .i64 m, .slice A n cc, .slice B n2 d] 24)).alloc (.cells #[.int .i64 0, .int .i64 0, .string ⟨#[]⟩, .string ⟨#[]⟩, .string ⟨#[]⟩, .string ⟨#[]⟩] 40)) w.heap.size 24 [.int .i64 m, .slice A n cc, .slice B n2 d] := (Row.new w _ _).alloc _
  have hr2 : Row ((w.alloc (.cells #[.int .i64 m, .slice A n cc, .slice B n2 d] 24)).alloc (.cells #[.int .i64 0, .int .i64 0, .string ⟨#[]⟩, .string ⟨#[]⟩, .string ⟨#[]⟩, .string ⟨#[]⟩] 40)) (w.heap.size + 1) 40 [.int .i64 0, .int .i64 0, .string ⟨#[]⟩, .string ⟨#[]⟩, .string ⟨#[]⟩, .string ⟨#[]⟩] := by
    have := Row.new (w.alloc (.cells #[.int .i64 m, .slice A n cc, .slice B n2 d] 24)) 40 [.int .i64 0, .int .i64 0, .string ⟨#[]⟩, .string ⟨#[]⟩, .string ⟨#[]⟩, .string ⟨#[]⟩]
    rwa [World.size_alloc] at this
  obtain ⟨W, hW⟩ : ∃ W, ((w.alloc (.cells #[.int .i64 m, .slice A n cc, .slice B n2 d] 24)).alloc (.cells #[.int .i64 0, .int .i64 0, .string ⟨#[]⟩, .string ⟨#[]⟩, .string ⟨#[]⟩, .string ⟨#[]⟩] 40)) = W := ⟨_, rfl⟩
  rw [hW] at hx hr1 hr2
  have HW := hid hW
  have HX := hid hx
  have R1 := hid hr1
  have R2 := hid hr2
  obtain ⟨f0, f1, f2, -, -, -⟩ := row_facts3 hr1
  clear hW hx hr1 hr2
  go_enter Tryz.func22, Tryz.ntmps22
  go_upto_region 1 with fail
  rw [HW.out]
  go_wp2_with fail
  refine (stepvalid_any _ m us ad W (HV.out.ext HX.out) hb1).mono ?_
  rintro e w2 ⟨rfl, hx⟩
  have E2 := hid hx
  clear f0 f1 f2 hx
  cases b1 with
  | false =>
    obtain rfl : c = 1 := hc.out
    have r2 := R2.out.ext E2.out
    obtain ⟨⟨y0, y1, y2, y3, y4, y5⟩, z0, z1, z2, z3, z4, z5⟩ := row_facts6 r2
    have HF := hid ((HX.out.step E2.out).set6 (H := w.heap.size + 1) (a := .int .i64 0) (b := .int .i64 0) (c := .string ⟨#[]⟩) (d := .string ⟨#[]⟩) (e := .string ⟨#[]⟩) (f := .string ⟨#[]⟩) (by omega))
    clear r2
    go_wp2
    refine bodyPost_ret (v := .tuple #[.agg #[.int .i64 0, .int .i64 0, .string ⟨#[]⟩, .string ⟨#[]⟩, .string ⟨#[]⟩, .string ⟨#[]⟩], .bool false, .int .i64 1]) (by simp [results, Tryz.results22, go_sem, y0, y1, y2, y3, y4, y5]) rfl ⟨rfl, HF.out⟩
  | true =>
    go_wp2_with fail
    refine (valid_b l w2 hlen hb2).mono ?_
    rintro e w3 ⟨rfl, hx⟩
    have E3 := hid (E2.out.step hx)
    clear hx
    cases b2 with
    | false =>
      obtain rfl : c = 1 := hc.out
      have r2 := R2.out.ext E3.out
      obtain ⟨⟨y0, y1, y2, y3, y4, y5⟩, z0, z1, z2, z3, z4, z5⟩ := row_facts6 r2
      have HF := hid ((HX.out.step E3.out).set6 (H := w.heap.size + 1) (a := .int .i64 0) (b := .int .i64 0) (c := .string ⟨#[]⟩) (d := .string ⟨#[]⟩) (e := .string ⟨#[]⟩) (f := .string ⟨#[]⟩) (by omega))
      clear r2
      go_wp2
      refine bodyPost_ret (v := .tuple #[.agg #[.int .i64 0, .int .i64 0, .string ⟨#[]⟩, .string ⟨#[]⟩, .string ⟨#[]⟩, .string ⟨#[]⟩], .bool false, .int .i64 1]) (by simp [results, Tryz.results22, go_sem, y0, y1, y2, y3, y4, y5]) rfl ⟨rfl, HF.out⟩
    | true =>
      obtain rfl : c = 2 := hc.out
      have hM : Hid (mapP m us ad) := hid ((mapB_iff m us ad).1 hb1.out)
      obtain ⟨f0, f1, f2, -, -, -⟩ := row_facts3 (R1.out.ext E3.out)
      go_wp2_with fail
      refine (restsOf_any _ m us ad k w3 (HV.out.ext (HX.out.step E3.out)) hM hk hk2).mono ?_
      rintro e w4 ⟨wh2, c2, rfl, hrc, hx⟩
      obtain ⟨hn, -, -⟩ | ⟨-, rfl, rfl⟩ := hrc
      case inl => exact (HN.out (by first | exact ⟨rfl, rfl, hn⟩ | exact ⟨trivial, trivial, hn⟩)).elim
      have E4 := hid (E3.out.step hx)
      clear f0 f1 f2 hx
      have r2 := R2.out.ext E4.out
      obtain ⟨⟨y0, y1, y2, y3, y4, y5⟩, z0, z1, z2, z3, z4, z5⟩ := row_facts6 r2
      have HF := hid ((HX.out.step E4.out).set6 (H := w.heap.size + 1) (a := .int .i64 0) (b := .int .i64 0) (c := .string ⟨#[]⟩) (d := .string ⟨#[]⟩) (e := .string ⟨#[]⟩) (f := .string ⟨#[]⟩) (by omega))
      clear r2
      go_wp2
      refine bodyPost_ret (v := .tuple #[.agg #[.int .i64 0, .int .i64 0, .string ⟨#[]⟩, .string ⟨#[]⟩, .string ⟨#[]⟩, .string ⟨#[]⟩], .bool false, .int .i64 2]) (by simp [results, Tryz.results22, go_sem, y0, y1, y2, y3, y4, y5]) rfl ⟨rfl, HF.out⟩
end Go.Proofs.YtleccblkafcidaaGreatDoor
