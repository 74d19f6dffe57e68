/- the law SieveExact -/
import Derived.Test.YtimokpcopeldfaaGreatDoorJG25
import Derived.Test.YtimokpcopeldfaaGreatDoorJG19
set_option linter.unusedSimpArgs false
set_option linter.unusedVariables false
namespace Go.Proofs.YtimokpcopeldfaaGreatDoor
open Go.RowKit
theorem exact_iff {M A D X Y : Int} (h : M < D) (hD : 0 < D) (e : M * X + A = D * Y) : Y < X ↔ A / (D - M) < X := by
  rw [Int.ediv_lt_iff_lt_mul (by omega)]
  have h1 : Y < X ↔ D * Y < D * X := ⟨fun k => Int.mul_lt_mul_of_pos_left k hD, fun k => Int.lt_of_mul_lt_mul_left k (by omega)⟩
  rw [h1, ← e, Int.mul_sub, Int.mul_comm X D, Int.mul_comm X M]
  omega
theorem Sm.big2 {e : Nat} {x : Int} (h : Sm e x) (he : e ≤ 1000) : x.natAbs ≤ BIG := le_big (a := e) (by unfold Sm at h; omega) he
theorem exact_big {m : Int} {us ad : List Int} (hM : mapP m us ad) {x : Int} (h : Sm 238 x) : x.natAbs ≤ BIG ∧ (mulAt m us x * x).natAbs ≤ BIG ∧ (mulAt m us x * x + ad.getD (rOf m x) 0).natAbs ≤ BIG := by
  have hu := rule_at hM x
  have hT : TOP 1 = 1000000000 := by decide
  have h1 : Sm 240 (x * mulAt m us x) := h.mul (d := 1) (by unfold mulAt; have h1 := hu.1; have h2 := hu.2.1; omega) (by omega)
  rw [Int.mul_comm] at h1
  have h2 : Sm 240 (ad.getD (rOf m x) 0) := by
    have h3 : Sm 1 (ad.getD (rOf m x) 0) := by
      have : TOP 1 = 1000000000 := by decide
      have h1 := hu.2.2.1
      have h2 := hu.2.2.2.1
      unfold Sm
      omega
    exact h3.mono (by omega)
  exact ⟨h.big2 (by omega), h1.big2 (by omega), (h1.add h2 (show 240 < 241 by omega)).big2 (by omega)⟩
theorem exact_orb {m : Int} {us ad : List Int} (hM : mapP m us ad) {X : Int} (hX : K.fits X) {i : Nat} (hi : i ≤ 16) : (orbN m us ad i X).natAbs ≤ BIG := by
  have h : Sm 224 X := by
    have := fits_top hX; have := top_step 223 224 (by omega); have := TOP_pos 223; unfold Sm; omega
  exact (h.orb hM (k := i) (by omega) (f := 238) (by omega)).big2 (by omega)
/-- the two comparisons, by their signs -/
theorem exact_cmp {X Y bd : Int} (h : Y < X ↔ bd < X) : ∃ (d1 d2 : Int), sgnI Y X = d1 ∧ sgnI X bd = d2 ∧ ((d1 = -1 ∧ d2 = 1) ∨ ((d1 = 0 ∨ d1 = 1) ∧ (d2 = 0 ∨ d2 = -1))) := by
  refine ⟨_, _, rfl, rfl, ?_⟩
  by_cases h1 : Y < X
  · have h2 := h.1 h1
    exact .inl ⟨by unfold sgnI; rw [if_pos h1], by unfold sgnI; rw [if_neg (by omega), if_pos h2]⟩
  · have h2 : ¬ bd < X := fun k => h1 (h.2 k)
    refine .inr ⟨?_, ?_⟩
    · unfold sgnI; rw [if_neg h1]; split <;> omega
    · unfold sgnI; split
      · right; rfl
      · first | (left; rfl) | (rw [if_neg (by omega)]; left; rfl)
theorem run_e (v : Value) (m : Int) (us ad : List Int) (l : List UInt8) (X Y : Int) (sy : ByteArray) (i : Nat) (w : World) (hv : MapV w v m us ad) (hM : Hid (mapP m us ad)) (hl : Hid (K.validL l = true)) (hX : Hid (K.numL l = X)) (hi : i ≤ 20000) (ht : Tab w) (hY : Hid (orbN m us ad i X = Y)) (hs : Hid (Str (K.txt Y) = sy)) :
    Calls Tryz.prog 24 #[v, .string (Str l), .int .i64 (i : Int)] w (fun e w' => ∃ s c, e = .returned (.tuple #[.string s, .int .i64 c]) ∧ (c = 3 ∨ (c = 0 ∧ s = sy)) ∧ Ext w w') := by
  have h := run_ok v m us ad l i w hv hM hl hi ht
  rw [hX.out] at h
  refine h.mono ?_
  rintro e w' ⟨rfl, h2⟩
  by_cases hn : none ∈ seqO m us ad i X
  · rw [((seq_run m us ad i X).2 hn)]
    exact ⟨_, _, rfl, .inl rfl, h2⟩
  · rw [run_orb i X hn, hY.out]
    exact ⟨_, _, rfl, .inr ⟨rfl, by rw [← hs.out]; rfl⟩, h2⟩
theorem apply_e (M A D X Y : Int) (su sa sd sy : ByteArray) (l : List UInt8) (w : World) (ht : Tab w) (HF : Hid (K.fits M ∧ K.fits A ∧ K.fits D ∧ 0 < D)) (hl : Hid (K.validL l = true)) (hX : Hid (K.numL l = X)) (he : Hid (M * X + A = D * Y))
    (h1 : Hid (Str (K.txt M) = su)) (h2 : Hid (Str (K.txt A) = sa)) (h3 : Hid (Str (K.txt D) = sd)) (h4 : Hid (Str (K.txt Y) = sy)) :
    Calls Tryz.prog 25 #[.agg #[.string su, .string sa, .string sd], .string (Str l)] w (fun e w' => ∃ s b c, e = .returned (.tuple #[.string s, .bool b, .int .i64 c]) ∧ (c = 3 ∨ (c = 0 ∧ b = true ∧ s = sy)) ∧ Ext w w') := by
  obtain ⟨f1, f2, f3, f4⟩ := HF.out
  by_cases hf : K.fits (D * Y)
  · exact (applyl_yes M A D X Y su sa sd l sy w f1 f2 f3 hl.out hX.out ht f4 he.out hf h1 h2 h3 h4).mono fun e w' h => ⟨_, _, _, h.1, .inr ⟨rfl, rfl, rfl⟩, h.2⟩
  · exact (applyl_no M A D X Y su sa sd l w f1 f2 f3 hl.out hX.out ht f4 he.out hf h1 h2 h3).mono fun e w' h => ⟨_, _, _, h.1, .inl rfl, h.2⟩
set_option maxRecDepth 100000 in
set_option maxHeartbeats 3200000 in
theorem exact_no (v : Value) (m : Int) (us ad : List Int) (l : List UInt8) (k : Int) (w : World) (hv : MapV w v m us ad) (hlen : l.length ≤ 140737488351232) (hk : -9223372036854775808 ≤ k) (hk2 : k ≤ 9223372036854775807) (ht : Tab w) (x1 x2 : Bool) (hb1 : Hid (x1 = true ↔ (mapP m us ad ∧ SuitP m us k))) (hb2 : Hid (K.validL l = x2)) (HN : Hid (¬ (x1 = true ∧ x2 = true))) :
    Calls Tryz.prog 5 #[v, .string (Str l), .int .i64 k] w (TruePost w) := by
  have HV := hid hv
  have HT := hid ht
  obtain ⟨A, n, cc, B, n2, d2, rfl, -⟩ := hv
  have hx : Ext w (w.alloc (.cells #[.int .i64 m, .slice A n cc, .slice B n2 d2] 24)) := (Ext.rfl' w).alloc' _
  have hr1 : Row (w.alloc (.cells #[.int .i64 m, .slice A n cc, .slice B n2 d2] 24)) w.heap.size 24 [.int .i64 m, .slice A n cc, .slice B n2 d2] := Row.new w _ _
  obtain ⟨w1, hw1⟩ : ∃ w1, w.alloc (.cells #[.int .i64 m, .slice A n cc, .slice B n2 d2] 24) = w1 := ⟨_, rfl⟩
  rw [hw1] at hx hr1
  have HW1 := hid hw1
  have EX := hid hx
  have RM := hid hr1
  replace HV := hid (HV.out.ext hx)
  replace HT := hid (HT.out.ext hx)
  clear hw1 hx hr1
  go_enter Tryz.func5, Tryz.ntmps5
  go_upto_region 1 with fail
  rw [HW1.out]
  obtain ⟨f0, f1, f2, -, -, -⟩ := row_facts3 RM.out
  go_wp2_with fail
  refine (may_any _ m us ad k w1 HV.out hk hk2 hb1).mono ?_
  rintro e w2 ⟨rfl, hx⟩
  replace HV := hid (HV.out.ext hx)
  replace RM := hid (RM.out.ext hx)
  replace HT := hid (HT.out.ext hx)
  replace EX := hid (EX.out.step hx)
  clear hx f0 f1 f2
  cases x1 with
  | false =>
    go_wp2_with fail
    refine (awake4_any w2 HT.out).mono ?_
    rintro e wL ⟨rfl, hx⟩
    have EL := hid (EX.out.step hx)
    go_wp2
    go_ret
    exact ⟨rfl, EL.out⟩
  | true =>
    go_wp2_with fail
    refine (rvalid_at l w2 hb2 hlen).mono ?_
    rintro e wz ⟨rfl, rfl⟩
    cases x2 with
    | false =>
      go_wp2_with fail
      refine (awake4_any w2 HT.out).mono ?_
      rintro e wL ⟨rfl, hx⟩
      have EL := hid (EX.out.step hx)
      go_wp2
      go_ret
      exact ⟨rfl, EL.out⟩
    | true => exact (HN.out (by simp)).elim
set_option maxRecDepth 100000 in
set_option maxHeartbeats 12800000 in
theorem exact_yes (v : Value) (m : Int) (us ad : List Int) (l : List UInt8) (q : Nat) (w : World) (hv : MapV w v m us ad) (hlen : l.length ≤ 140737488351232) (hqq : (q : Int) ≤ 9223372036854775807) (ht : Tab w) (hM : Hid (mapP m us ad)) (hS : Hid (SuitP m us (q : Int))) (hb2 : Hid (K.validL l = true)) :
    Calls Tryz.prog 5 #[v, .string (Str l), .int .i64 (q : Int)] w (TruePost w) := by
  have HV := hid hv
  have HT := hid ht
  obtain ⟨A, n, cc, B, n2, d2, rfl, -⟩ := hv
  have hx : Ext w (w.alloc (.cells #[.int .i64 m, .slice A n cc, .slice B n2 d2] 24)) := (Ext.rfl' w).alloc' _
  have hr1 : Row (w.alloc (.cells #[.int .i64 m, .slice A n cc, .slice B n2 d2] 24)) w.heap.size 24 [.int .i64 m, .slice A n cc, .slice B n2 d2] := Row.new w _ _
  obtain ⟨w1, hw1⟩ : ∃ w1, w.alloc (.cells #[.int .i64 m, .slice A n cc, .slice B n2 d2] 24) = w1 := ⟨_, rfl⟩
  rw [hw1] at hx hr1
  have HW1 := hid hw1
  have EX := hid hx
  have RM := hid hr1
  replace HV := hid (HV.out.ext hx)
  replace HT := hid (HT.out.ext hx)
  clear hw1 hx hr1
  go_enter Tryz.func5, Tryz.ntmps5
  go_upto_region 1 with fail
  rw [HW1.out]
  obtain ⟨f0, f1, f2, -, -, -⟩ := row_facts3 RM.out
  go_wp2_with fail
  refine (may_any _ m us ad (q : Int) w1 HV.out (by omega) hqq (b := true) (hid ⟨fun _ => ⟨hM.out, hS.out⟩, fun _ => rfl⟩)).mono ?_
  rintro e w2 ⟨rfl, hx⟩
  replace HV := hid (HV.out.ext hx)
  replace RM := hid (RM.out.ext hx)
  replace HT := hid (HT.out.ext hx)
  replace EX := hid (EX.out.step hx)
  clear hx f0 f1 f2
  go_wp2_with fail
  refine (rvalid_at l w2 hb2 hlen).mono ?_
  rintro e wz ⟨rfl, rfl⟩
  obtain ⟨X, hX⟩ : ∃ X, K.numL l = X := ⟨_, rfl⟩
  have HX := hid hX
  have HFX : Hid (K.fits X) := hid (by rw [← hX]; exact (K.txt_numL l hb2.out).2)
  clear hX
  obtain ⟨f0, f1, f2, -, -, -⟩ := row_facts3 RM.out
  go_wp2_with fail
  refine (find_ok _ m us ad l X q w2 HV.out hM hlen hb2 HX hS hqq HT.out).mono ?_
  rintro e w3 ⟨fv, b, rfl, hfc, hx⟩
  replace HV := hid (HV.out.ext hx)
  replace RM := hid (RM.out.ext hx)
  replace HT := hid (HT.out.ext hx)
  replace EX := hid (EX.out.step hx)
  clear hx f0 f1 f2
  obtain ⟨rfl, i, hi1, hi2, hi3, -, rfl⟩ | ⟨rfl, rfl, -⟩ := hfc
  case inr =>
    have ha := (Ext.rfl' w3).alloc' (.cells #[.int .i64 0, .int .i64 0, .string ⟨#[]⟩, .string ⟨#[]⟩, .string ⟨#[]⟩, .string ⟨#[]⟩] 40)
    have hq : Row (w3.alloc (.cells #[.int .i64 0, .int .i64 0, .string ⟨#[]⟩, .string ⟨#[]⟩, .string ⟨#[]⟩, .string ⟨#[]⟩] 40)) w3.heap.size 40 [.int .i64 0, .int .i64 0, .string ⟨#[]⟩, .string ⟨#[]⟩, .string ⟨#[]⟩, .string ⟨#[]⟩] := Row.new w3 _ _
    obtain ⟨w4, hw4⟩ : ∃ w4, w3.alloc (.cells #[.int .i64 0, .int .i64 0, .string ⟨#[]⟩, .string ⟨#[]⟩, .string ⟨#[]⟩, .string ⟨#[]⟩] 40) = w4 := ⟨_, rfl⟩
    rw [hw4] at ha hq
    have Ew4 := hid hw4
    have B7 := hid hq
    replace HV := hid (HV.out.ext ha)
    replace RM := hid (RM.out.ext ha)
    replace HT := hid (HT.out.ext ha)
    replace EX := hid (EX.out.step ha)
    clear ha hq hw4
    go_upto_region 4 with fail
    rw [Ew4.out]
    clear Ew4
    obtain ⟨H7, hH7⟩ : ∃ H7, w3.heap.size = H7 := ⟨_, rfl⟩
    rw [hH7] at B7
    rw [hH7]
    clear hH7
    go_wp2_with fail
    refine (awake4_any w4 HT.out).mono ?_
    rintro e wL ⟨rfl, hx⟩
    have EL := hid (EX.out.step hx)
    go_wp2
    go_ret
    exact ⟨rfl, EL.out⟩
  case inl =>
    unfold FaV
    have HLN : Hid (lnX m us ad X i = ((lnX m us ad X i).1, (lnX m us ad X i).2.1, m ^ i)) := hid (by rw [← lnX_div m us ad X i])
    obtain ⟨LM, hLM⟩ : ∃ LM, (lnX m us ad X i).1 = LM := ⟨_, rfl⟩
    obtain ⟨LA, hLA⟩ : ∃ LA, (lnX m us ad X i).2.1 = LA := ⟨_, rfl⟩
    obtain ⟨LD, hLD⟩ : ∃ LD, m ^ i = LD := ⟨_, rfl⟩
    obtain ⟨Y, hY⟩ : ∃ Y, orbN m us ad i X = Y := ⟨_, rfl⟩
    have hkq : m ^ q ≤ 65536 := by have := hS.out.2.2; rwa [Int.toNat_natCast] at this
    have hbd := place_bds hM.out hi2 hkq X
    have hfa : (lnX m us ad X i).1 < m ^ i := hi3
    have hlo := lin_orb hM.out X i
    have hlo2 : (lnX m us ad X i).1 * X + (lnX m us ad X i).2.1 = m ^ i * orbN m us ad i X := by
      rw [← lnX_div m us ad X i]; exact hlo
    have hmi := steps_few hM.out.1 hbd.2.1
    rw [hLM, hLD] at hfa
    rw [hLM, hLA, hLD, hY] at hlo2
    rw [hLM, hLA, hLD] at hbd
    have hab := hbd.2.2.2 (by omega)
    obtain ⟨bd, hbde⟩ : ∃ bd, LA / (LD - LM) = bd := ⟨_, rfl⟩
    have HBD : Hid (Y < X ↔ bd < X) := hid (by rw [← hbde]; exact exact_iff hfa (by omega) hlo2)
    have hbB : bd.natAbs ≤ 4294967296000000 := by rw [← hbde]; exact Nat.le_trans (Int.natAbs_ediv_le_natAbs _ _) hab
    have FB : Hid (K.fits bd) := hid (fits_small (by omega))
    have FL : Hid (K.fits LM ∧ K.fits LA ∧ K.fits LD ∧ 0 < LD) := hid ⟨fits_small (by omega), fits_small (by omega), fits_small (by omega), by omega⟩
    have HLO := hid hlo2
    have hi16 : i ≤ 16 := by
      rcases Nat.lt_or_ge 16 i with h | h
      · exfalso
        have h2 : m ^ 17 ≤ m ^ i := pow_grow hM.out.1 h
        have h3 : (2 : Int) ^ 17 ≤ m ^ 17 := two_pow hM.out.1 17
        have h4 : (2 : Int) ^ 17 = 131072 := by decide
        omega
      · exact h
    obtain ⟨R, hR⟩ : ∃ R, X % m ^ i = R := ⟨_, rfl⟩
    rw [hLD] at hR
    rw [hLM, hLA, hLD, hR, hbde]
    obtain ⟨su, hsu⟩ : ∃ su, Str (K.txt LM) = su := ⟨_, rfl⟩
    obtain ⟨sa, hsa⟩ : ∃ sa, Str (K.txt LA) = sa := ⟨_, rfl⟩
    obtain ⟨sd, hsd⟩ : ∃ sd, Str (K.txt LD) = sd := ⟨_, rfl⟩
    obtain ⟨sb, hsb⟩ : ∃ sb, Str (K.txt bd) = sb := ⟨_, rfl⟩
    rw [hsu, hsa, hsd, hsb]
    have HSU := hid hsu
    have HSA := hid hsa
    have HSD := hid hsd
    have HSB := hid hsb
    have HY := hid hY
    have HI16 := hid hi16
    clear HLN hLM hLA hLD hY hbd hfa hlo hlo2 hmi hab hbde hbB hR hsu hsa hsd hsb hi3 hkq
    have g1 : ¬ (i : Int) < 1 := by omega
    have g2 : ¬ (q : Int) < (i : Int) := by omega
    have ha := (Ext.rfl' w3).alloc' (.cells #[.int .i64 (i : Int), .int .i64 R, .string su, .string sa, .string sd, .string sb] 40)
    have hq : Row (w3.alloc (.cells #[.int .i64 (i : Int), .int .i64 R, .string su, .string sa, .string sd, .string sb] 40)) w3.heap.size 40 [.int .i64 (i : Int), .int .i64 R, .string su, .string sa, .string sd, .string sb] := Row.new w3 _ _
    obtain ⟨w4, hw4⟩ : ∃ w4, w3.alloc (.cells #[.int .i64 (i : Int), .int .i64 R, .string su, .string sa, .string sd, .string sb] 40) = w4 := ⟨_, rfl⟩
    rw [hw4] at ha hq
    have Ew4 := hid hw4
    have B7 := hid hq
    replace HV := hid (HV.out.ext ha)
    replace RM := hid (RM.out.ext ha)
    replace HT := hid (HT.out.ext ha)
    replace EX := hid (EX.out.step ha)
    clear ha hq hw4
    go_upto_region 4 with fail
    rw [Ew4.out]
    clear Ew4
    obtain ⟨H7, hH7⟩ : ∃ H7, w3.heap.size = H7 := ⟨_, rfl⟩
    rw [hH7] at B7
    rw [hH7]
    clear hH7
    obtain ⟨⟨y0, y1, y2, y3, y4, y5⟩, -⟩ := row_facts6 B7.out
    go_wp2_with fail
    refine (rvalid_s bd sb w4 FB.out HSB).mono ?_
    rintro e wz ⟨rfl, rfl⟩
    clear y0 y1 y2 y3 y4 y5
    go_wp2_with fail
    refine (parse_any l w4 hb2.out).mono ?_
    rintro e w5 ⟨v10, rfl, hv10, hx⟩
    replace HV := hid (HV.out.ext hx)
    replace RM := hid (RM.out.ext hx)
    replace HT := hid (HT.out.ext hx)
    replace B7 := hid (B7.out.ext hx)
    replace EX := hid (EX.out.step hx)
    rw [HX.out] at hv10
    have HV10 := hid hv10
    obtain ⟨A10, k10, c10, xs10, b10, rfl, -⟩ := hv10
    clear hx
    have ha := (Ext.rfl' w5).alloc' (.cells #[.bool b10, .slice A10 k10 c10] 47)
    have hq : Row (w5.alloc (.cells #[.bool b10, .slice A10 k10 c10] 47)) w5.heap.size 47 [.bool b10, .slice A10 k10 c10] := Row.new w5 _ _
    obtain ⟨w6, hw6⟩ : ∃ w6, w5.alloc (.cells #[.bool b10, .slice A10 k10 c10] 47) = w6 := ⟨_, rfl⟩
    rw [hw6] at ha hq
    have EW6 := hid hw6
    have B10 := hid hq
    replace HV := hid (HV.out.ext ha)
    replace RM := hid (RM.out.ext ha)
    replace HT := hid (HT.out.ext ha)
    replace B7 := hid (B7.out.ext ha)
    replace HV10 := hid (HV10.out.ext ha)
    replace EX := hid (EX.out.step ha)
    clear ha hq hw6
    go_upto_region 9 with fail
    rw [EW6.out]
    clear EW6
    obtain ⟨H10, hH10⟩ : ∃ H10, w5.heap.size = H10 := ⟨_, rfl⟩
    rw [hH10] at B10
    rw [hH10]
    clear hH10
    obtain ⟨p0, p1, -, -⟩ := row_facts B10.out
    have ha := (Ext.rfl' w6).alloc' (.cells #[.bool b10, .slice A10 k10 c10] 47)
    have hq : Row (w6.alloc (.cells #[.bool b10, .slice A10 k10 c10] 47)) w6.heap.size 47 [.bool b10, .slice A10 k10 c10] := Row.new w6 _ _
    obtain ⟨w7, hw7⟩ : ∃ w7, w6.alloc (.cells #[.bool b10, .slice A10 k10 c10] 47) = w7 := ⟨_, rfl⟩
    rw [hw7] at ha hq
    have EW7 := hid hw7
    have B11 := hid hq
    have E67 := hid ha
    clear ha hq hw7
    go_upto_region 10 with fail
    rw [EW7.out]
    clear EW7 p0 p1
    obtain ⟨H11, hH11⟩ : ∃ H11, w6.heap.size = H11 := ⟨_, rfl⟩
    rw [hH11] at B11
    rw [hH11]
    have HH11 := hid hH11
    have SX : Hid (Sm 224 X) := hid (by have := fits_top HFX.out; have := top_step 223 224 (by omega); have := TOP_pos 223; unfold Sm; omega)
    have HVY := hid (HV10.out.ext E67.out)
    clear hH11
    go_wp2_with fail
    go_loopw [12] (fun iz wr => ∃ (j : Nat) (b : Bool) (P : Option Addr) (k c : Nat), j ≤ i ∧ iz = .int .i64 (j : Int) ∧ Row wr H11 47 [.bool b, .slice P k c] ∧ RefV wr (.agg #[.bool b, .slice P k c]) (orbN m us ad j X) ∧ Ext w6 wr) (fun iz _ => i - (intOf iz).toNat)
    case atStart => exact ⟨0, b10, A10, k10, c10, by omega, rfl, B11.out, HVY.out, E67.out⟩
    case round =>
      clear B11 HVY E67
      obtain ⟨j, b11, A11, k11, c11, hj, rfl, hr11, hvy, hx⟩ := hrel
      have B11 := hid hr11
      have VY := hid hvy
      have EF := hid hx
      replace HV := hid (HV.out.ext hx)
      replace RM := hid (RM.out.ext hx)
      replace HT := hid (HT.out.ext hx)
      replace B7 := hid (B7.out.ext hx)
      replace HV10 := hid (HV10.out.ext hx)
      replace B10 := hid (B10.out.ext hx)
      replace EX := hid (EX.out.step hx)
      clear hr11 hvy hx
      obtain ⟨⟨y0, y1, y2, y3, y4, y5⟩, -⟩ := row_facts6 B7.out
      by_cases hlt : j < i
      · have SJ := hid (SX.out.orb hM.out (k := j) (by have := HI16.out; omega) (f := 238) (by omega))
        have hlt2 : (j : Int) < (i : Int) := by omega
        obtain ⟨p0, p1, -, -⟩ := row_facts B11.out
        obtain ⟨f0, f1, f2, -, -, -⟩ := row_facts3 RM.out
        go_wp2_with fail
        refine (step2_any _ _ m (orbN m us ad j X) us ad wr HV.out hM VY.out (hid (exact_big hM.out SJ.out))).mono ?_
        rintro e w9 ⟨v9, rfl, hv9, hx9⟩
        have HX9 := hid hx9
        have HV9 := hid hv9
        obtain ⟨A9, k9, c9, xs9, b9, rfl, -⟩ := hv9
        have rn9 := B11.out.ext hx9
        have HFIN : Hid (∀ WF, WF = ((w9.setCell ⟨H11, 0, none⟩ (.bool b9)).setCell ⟨H11, 1, none⟩ (.slice A9 k9 c9)) → ∃ (j' : Nat) (b : Bool) (P : Option Addr) (k c : Nat), j' ≤ i ∧ Value.int .i64 ((j : Int) + 1) = .int .i64 (j' : Int) ∧ Row WF H11 47 [.bool b, .slice P k c] ∧ RefV WF (.agg #[.bool b, .slice P k c]) (orbN m us ad j' X) ∧ Ext w6 WF) := hid (by
          rintro WF rfl
          exact ⟨j + 1, b9, A9, k9, c9, by omega, by simp, (rn9.set 0 _).set 1 _, HV9.out.box rn9, ((EF.out.step HX9.out).set' (by show _ ≤ H11; rw [← HH11.out]; exact Nat.le_refl _) _).set' (by show _ ≤ H11; rw [← HH11.out]; exact Nat.le_refl _) _⟩)
        clear p0 p1 f0 f1 f2 hx9 y0 y1 y2 y3 y4 y5
        obtain ⟨p0, p1, -, -⟩ := row_facts rn9
        have p2 := rn9.free 0
        have p3 := rn9.free 1
        clear rn9
        go_wp2
        go_roundw
        case rel => exact HFIN.out _ rfl
        case measure => first | (simp [intOf]; done) | (simp [intOf]; omega)
      · obtain rfl : j = i := by omega
        rw [HY.out] at VY
        clear EF hj hlt HH11 SX
        have HBB : Hid (Y.natAbs ≤ BIG ∧ X.natAbs ≤ BIG ∧ bd.natAbs ≤ BIG) := hid ⟨by rw [← HY.out]; exact exact_orb hM.out HFX.out HI16.out, fits_big HFX.out, fits_big FB.out⟩
        have HS : Hid (∀ W', Ext wr W' → W'.cell? ⟨H11, 0, none⟩ = some (.bool b11) ∧ W'.cell? ⟨H11, 1, none⟩ = some (.slice A11 k11 c11) ∧ W'.cell? ⟨H10, 0, none⟩ = some (.bool b10) ∧ W'.cell? ⟨H10, 1, none⟩ = some (.slice A10 k10 c10) ∧ W'.cell? ⟨H7, 5, none⟩ = some (.string sb)) := hid (by
          intro W' e
          obtain ⟨x0, x1, -, -⟩ := row_facts (B11.out.ext e)
          obtain ⟨x2, x3, -, -⟩ := row_facts (B10.out.ext e)
          obtain ⟨⟨z0, z1, z2, z3, z4, z5⟩, -⟩ := row_facts6 (B7.out.ext e)
          exact ⟨x0, x1, x2, x3, z5⟩)
        have hcur : Ext wr wr := Ext.rfl' _
        obtain ⟨d1, d2', hc1, hc2, hd⟩ := exact_cmp HBD.out
        have HC1 := hid hc1
        have HC2 := hid hc2
        clear hc1 hc2
        rcases hd with ⟨rfl, rfl⟩ | ⟨rfl | rfl, rfl | rfl⟩
        all_goals
          go_wp2_with fail
          clear y0 y1 y2 y3 y4 y5
          go_region_held3 (fun W' => W'.cell? ⟨H11, 0, none⟩ = some (.bool b11) ∧ W'.cell? ⟨H11, 1, none⟩ = some (.slice A11 k11 c11) ∧ W'.cell? ⟨H10, 0, none⟩ = some (.bool b10) ∧ W'.cell? ⟨H10, 1, none⟩ = some (.slice A10 k10 c10) ∧ W'.cell? ⟨H7, 5, none⟩ = some (.string sb))
            (first | (with_reducible exact HS.out _ hcur) | (with_reducible exact HS.out _ hcur.drew') | (with_reducible exact HS.out _ (hcur.alloc' _)) | go_keep)
            (first
              | (go_at_call_of 23 (Value.agg #[Value.bool b11, Value.slice A11 k11 c11]); refine (rcmp_s _ _ Y X _ (VY.out.ext ?_) (HV10.out.ext ?_) HBB.out.1 HBB.out.2.1 HC1).mono ?_; (first | exact hcur | exact hcur.drew' | exact hcur.alloc' _ | exact hcur.drew'.alloc' _ | exact (hcur.alloc' _).drew'); (first | exact hcur | exact hcur.drew' | exact hcur.alloc' _ | exact hcur.drew'.alloc' _ | exact (hcur.alloc' _).drew'); rintro e w30 ⟨rfl, hx⟩; have hcur := Ext.step hcur (by first | exact hx | exact Ext.undrew hx | exact Ext.step ((Ext.rfl' _).alloc' _) hx | exact Ext.step ((Ext.rfl' _).drew'.alloc' _) hx))
              | (go_at_call 21; refine (parse_s bd sb _ FB.out HSB).mono ?_; rintro e w31 ⟨v31, rfl, hv31, hx⟩; have hcur := Ext.step hcur (by first | exact hx | exact Ext.undrew hx | exact Ext.step ((Ext.rfl' _).alloc' _) hx | exact Ext.step ((Ext.rfl' _).drew'.alloc' _) hx); have HV31 := hid hv31; obtain ⟨A31, k31, c31, xs31, b31, rfl, -⟩ := hv31)
              | (go_at_call_of 23 (Value.agg #[Value.bool b31, Value.slice A31 k31 c31]); refine (rcmp_s _ _ X bd _ (HV10.out.ext ?_) (HV31.out.ext ?_) HBB.out.2.1 HBB.out.2.2 HC2).mono ?_; (first | exact hcur | exact hcur.drew' | exact hcur.alloc' _ | exact hcur.drew'.alloc' _ | exact (hcur.alloc' _).drew'); (first | exact Ext.rfl' _ | exact (Ext.rfl' _).drew' | exact (Ext.rfl' _).alloc' _ | exact (Ext.rfl' _).drew'.alloc' _); rintro e w32 ⟨rfl, hx⟩; have hcur := Ext.step hcur (by first | exact hx | exact Ext.undrew hx | exact Ext.step ((Ext.rfl' _).alloc' _) hx | exact Ext.step ((Ext.rfl' _).drew'.alloc' _) hx)))
          have hx := hcur
          replace HV := hid (HV.out.ext hx)
          replace RM := hid (RM.out.ext hx)
          replace HT := hid (HT.out.ext hx)
          replace B7 := hid (B7.out.ext hx)
          replace HV10 := hid (HV10.out.ext hx)
          replace B10 := hid (B10.out.ext hx)
          replace B11 := hid (B11.out.ext hx)
          replace VY := hid (VY.out.ext hx)
          replace EX := hid (EX.out.step hx)
          clear hcur HS hx
          obtain ⟨sy, hsy⟩ : ∃ sy, Str (K.txt Y) = sy := ⟨_, rfl⟩
          have HSY := hid hsy
          clear hsy
          obtain ⟨f0, f1, f2, -, -, -⟩ := row_facts3 RM.out
          obtain ⟨⟨y0, y1, y2, y3, y4, y5⟩, -⟩ := row_facts6 B7.out
          go_wp2_with fail
          refine (run_e _ m us ad l X Y sy j w32 HV.out hM hb2 HX (by have := HI16.out; omega) HT.out HY HSY).mono ?_
          rintro e w11 ⟨sr, cr, rfl, hcr, hx⟩
          replace HV := hid (HV.out.ext hx)
          replace RM := hid (RM.out.ext hx)
          replace HT := hid (HT.out.ext hx)
          replace B7 := hid (B7.out.ext hx)
          replace HV10 := hid (HV10.out.ext hx)
          replace B10 := hid (B10.out.ext hx)
          replace B11 := hid (B11.out.ext hx)
          replace VY := hid (VY.out.ext hx)
          replace EX := hid (EX.out.step hx)
          clear hx f0 f1 f2 y0 y1 y2 y3 y4 y5
          obtain ⟨⟨y0, y1, y2, y3, y4, y5⟩, -⟩ := row_facts6 B7.out
          go_wp2_with fail
          refine (apply_e LM LA LD X Y su sa sd sy l w11 HT.out FL hb2 HX HLO HSU HSA HSD HSY).mono ?_
          rintro e w12 ⟨st, bt, ct, rfl, hct, hx⟩
          replace HV := hid (HV.out.ext hx)
          replace RM := hid (RM.out.ext hx)
          replace HT := hid (HT.out.ext hx)
          replace B7 := hid (B7.out.ext hx)
          replace HV10 := hid (HV10.out.ext hx)
          replace B10 := hid (B10.out.ext hx)
          replace B11 := hid (B11.out.ext hx)
          replace VY := hid (VY.out.ext hx)
          replace EX := hid (EX.out.step hx)
          clear hx y0 y1 y2 y3 y4 y5
          have HBY := hid HBB.out.1
          obtain ⟨p0, p1, -, -⟩ := row_facts B11.out
          rcases hcr with rfl | ⟨rfl, rfl⟩
          · rcases hct with rfl | ⟨rfl, rfl, rfl⟩
            · go_wp2_with fail
              refine (awake4_any w12 HT.out).mono ?_
              rintro e wL ⟨rfl, hx⟩
              have EL := hid (EX.out.step hx)
              go_wp2
              go_ret
              exact ⟨rfl, EL.out⟩
            · go_wp2_with fail
              refine (rtext_s _ VY.out HBY.out HSY).mono ?_
              rintro e w13 ⟨rfl, hx⟩
              replace HV := hid (HV.out.ext hx)
              replace RM := hid (RM.out.ext hx)
              replace HT := hid (HT.out.ext hx)
              replace B7 := hid (B7.out.ext hx)
              replace HV10 := hid (HV10.out.ext hx)
              replace B10 := hid (B10.out.ext hx)
              replace B11 := hid (B11.out.ext hx)
              replace VY := hid (VY.out.ext hx)
              replace EX := hid (EX.out.step hx)
              clear hx
              go_wp2_with fail
              refine (awake4_any w13 HT.out).mono ?_
              rintro e wL ⟨rfl, hx⟩
              have EL := hid (EX.out.step hx)
              go_wp2
              go_ret
              exact ⟨rfl, EL.out⟩
          · go_wp2_with fail
            refine (rtext_s _ VY.out HBY.out HSY).mono ?_
            rintro e w13 ⟨rfl, hx⟩
            replace HV := hid (HV.out.ext hx)
            replace RM := hid (RM.out.ext hx)
            replace HT := hid (HT.out.ext hx)
            replace B7 := hid (B7.out.ext hx)
            replace HV10 := hid (HV10.out.ext hx)
            replace B10 := hid (B10.out.ext hx)
            replace B11 := hid (B11.out.ext hx)
            replace VY := hid (VY.out.ext hx)
            replace EX := hid (EX.out.step hx)
            clear hx p0 p1
            obtain ⟨p0, p1, -, -⟩ := row_facts B11.out
            rcases hct with rfl | ⟨rfl, rfl, rfl⟩
            · go_wp2_with fail
              refine (awake4_any w13 HT.out).mono ?_
              rintro e wL ⟨rfl, hx⟩
              have EL := hid (EX.out.step hx)
              go_wp2
              go_ret
              exact ⟨rfl, EL.out⟩
            · go_wp2_with fail
              refine (rtext_s _ VY.out HBY.out HSY).mono ?_
              rintro e w14 ⟨rfl, hx⟩
              replace HV := hid (HV.out.ext hx)
              replace RM := hid (RM.out.ext hx)
              replace HT := hid (HT.out.ext hx)
              replace B7 := hid (B7.out.ext hx)
              replace HV10 := hid (HV10.out.ext hx)
              replace B10 := hid (B10.out.ext hx)
              replace B11 := hid (B11.out.ext hx)
              replace VY := hid (VY.out.ext hx)
              replace EX := hid (EX.out.step hx)
              clear hx
              go_wp2_with fail
              refine (awake4_any w14 HT.out).mono ?_
              rintro e wL ⟨rfl, hx⟩
              have EL := hid (EX.out.step hx)
              go_wp2
              go_ret
              exact ⟨rfl, EL.out⟩
theorem law_SieveExact (v : Value) (m : Int) (us ad : List Int) (l : List UInt8) (k : Int) (w : World) (hv : MapV w v m us ad) (hlen : l.length ≤ 140737488351232) (hk : -9223372036854775808 ≤ k) (hk2 : k ≤ 9223372036854775807) (ht : Tab w) : Calls Tryz.prog 5 #[v, .string (Str l), .int .i64 k] w (TruePost w) := by
  by_cases h : (mapP m us ad ∧ SuitP m us k) ∧ K.validL l = true
  · obtain ⟨q, rfl⟩ := Int.eq_ofNat_of_zero_le (show 0 ≤ k by have := h.1.2.2.1; omega)
    exact exact_yes v m us ad l q w hv hlen hk2 ht (hid h.1.1) (hid h.1.2) (hid h.2)
  · by_cases h1 : mapP m us ad ∧ SuitP m us k
    · exact exact_no v m us ad l k w hv hlen hk hk2 ht true _ (hid ⟨fun _ => h1, fun _ => rfl⟩) (hid rfl) (hid (fun h2 => h ⟨h1, h2.2⟩))
    · exact exact_no v m us ad l k w hv hlen hk hk2 ht false _ (hid ⟨fun h2 => Bool.noConfusion h2, fun h2 => absurd h2 h1⟩) (hid rfl) (hid (fun h2 => Bool.noConfusion h2.1))
end Go.Proofs.YtimokpcopeldfaaGreatDoor
