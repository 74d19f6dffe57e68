/- the law WordPowers -/
import Derived.StillTailTactics
import Derived.Test.YtflgkijmbpcnfaaGreatDoorJG33
import Derived.Test.YtflgkijmbpcnfaaGreatDoorJG14
import Derived.Test.YtflgkijmbpcnfaaGreatDoorJG29
set_option linter.unusedSimpArgs false
set_option linter.unusedVariables false
namespace Go.Proofs.YtflgkijmbpcnfaaGreatDoor
open Go.RowKit
theorem rtext_s {v : Value} {n : Int} {su : ByteArray} (w : World) (h : RefV w v n) (hb : n.natAbs ≤ BIG) (hs : Hid (Str (K.txt n) = su)) : Calls Tryz.prog 24 #[v] w (fun e w' => e = .returned (.string su) ∧ Ext w w') :=
  (rtext_any v n w h hb).mono fun e w' k => ⟨by rw [k.1, hs.out], k.2⟩
theorem line_s (v : Value) (m : Int) (us ad : List Int) (Wd : Option Addr) (wn wc : Nat) (ws : List Int) (su sa sd : ByteArray) (w : World) (hv : MapV w v m us ad) (hw : Rd w Wd (Is ws)) (hl : ws.length = wn) (hwb : wn ≤ 140737488351232) (hM : Hid (mapP m us ad)) (hW : Hid (wordB m ws = true)) (ht : Tab w)
    (h1 : Hid (Str (K.txt (lineI m us ad ws).1) = su)) (h2 : Hid (Str (K.txt (lineI m us ad ws).2.1) = sa)) (h3 : Hid (Str (K.txt (lineI m us ad ws).2.2) = sd)) :
    Calls Tryz.prog 42 #[v, .slice Wd wn wc] w (fun e w' => e = .returned (.tuple #[.agg #[.string su, .string sa, .string sd], .int .i64 0]) ∧ Ext w w') :=
  (line_ok v m us ad Wd wn wc ws w hv hw hl hwb hM hW ht).mono fun e w' k => ⟨by rw [k.1, lineV, h1.out, h2.out, h3.out], k.2⟩
theorem powers_next {m : Int} {us ad ws : List Int} {j : Nat} (hM : mapP m us ad) (hW : wordB m ws = true) (hj : j < ws.length) :
    (lineI m us ad (ws.take j)).1 * us.getD (ws.getD j 0).toNat 0 = (lineI m us ad (ws.take (j + 1))).1 ∧ (lineI m us ad (ws.take j)).2.2 * m = (lineI m us ad (ws.take (j + 1))).2.2 ∧
      (lineI m us ad (ws.take j)).1.natAbs ≤ BIG ∧ (lineI m us ad (ws.take j)).2.2.natAbs ≤ BIG ∧ 0 ≤ ws.getD j 0 ∧ ws.getD j 0 < m ∧ 1 ≤ us.getD (ws.getD j 0).toNat 0 ∧ us.getD (ws.getD j 0).toNat 0 ≤ 999 ∧ (ws.getD j 0).toNat < us.length := by
  have hw := wordB_iff.1 hW
  have hr := hw.2 (ws.getD j 0) (by rw [List.getD_eq_getElem?_getD, List.getElem?_eq_getElem hj]; exact List.getElem_mem hj)
  obtain ⟨u1, u2, -, -, l1, -⟩ := rule_of hM hr.1 hr.2
  have hB := lineI_B hM (ws.take j) (fun x hx => hw.2 x (List.mem_of_mem_take hx))
  have hf := hB.fits hM (by rw [List.length_take]; have := hw.1; omega) hr.1 hr.2
  refine ⟨?_, ?_, fits_big hf.1, fits_big hf.2.2.1, hr.1, hr.2, u1, u2, l1⟩
  · rw [take_succ_I hj, lineI_snoc]; exact Int.mul_comm _ _
  · rw [take_succ_I hj, lineI_snoc]; rfl
theorem powers_big {m : Int} {us ad ws : List Int} (hM : mapP m us ad) (hW : wordB m ws = true) : (lineI m us ad ws).1.natAbs ≤ BIG ∧ (lineI m us ad ws).2.2.natAbs ≤ BIG := by
  have hw := wordB_iff.1 hW
  have hB := lineI_B hM ws hw.2
  have hm := hM.1
  have hf := hB.fits hM hw.1 (r := 0) (by omega) (by omega)
  exact ⟨fits_big hf.1, fits_big hf.2.2.1⟩
set_option maxRecDepth 100000 in
set_option maxHeartbeats 1600000 in
theorem powers_no (v : Value) (m : Int) (us ad : List Int) (Wd : Option Addr) (wn wc : Nat) (ws : List Int) (x1 x2 : Bool) (w : World) (hv : MapV w v m us ad) (hw : Rd w Wd (Is ws)) (hl : ws.length = wn) (hwb : wn ≤ 140737488351232) (ht : Tab w)
    (hb1 : Hid (mapB m us ad = x1)) (hb2 : Hid (wordB m ws = x2)) (HN : Hid (¬ (x1 = true ∧ x2 = true))) :
    Calls Tryz.prog 13 #[v, .slice Wd wn wc] w (TruePost w) := by
  have HT := hid ht
  have HV := hid hv
  have HWD := hid hw
  obtain ⟨A, n, cc, B, n2, d, rfl, -⟩ := hv
  have hx : Ext w (w.alloc (.cells #[.int .i64 m, .slice A n cc, .slice B n2 d] 24)) := (Ext.rfl' w).alloc' _
  have hr1 : Row (w.alloc (.cells #[.int .i64 m, .slice A n cc, .slice B n2 d] 24)) w.heap.size 24 [.int .i64 m, .slice A n cc, .slice B n2 d] := Row.new w _ _
  obtain ⟨W1, hW1⟩ : ∃ W1, (w.alloc (.cells #[.int .i64 m, .slice A n cc, .slice B n2 d] 24)) = W1 := ⟨_, rfl⟩
  rw [hW1] at hx hr1
  have HX := hid hx
  have HW1 := hid hW1
  have R1 := hid hr1
  obtain ⟨f0, f1, f2, -, -, -⟩ := row_facts3 hr1
  clear hW1 hx hr1 hw
  go_enter Tryz.func13, Tryz.ntmps13
  go_upto_region 1 with fail
  rw [HW1.out]
  go_wp2_with fail
  refine (refvalid_any _ m us ad W1 (HV.out.ext HX.out) hb1).mono ?_
  rintro e w2 ⟨rfl, hx2⟩
  have HE2 := hid hx2
  clear f0 f1 f2 hx2
  obtain ⟨f0, f1, f2, -, -, -⟩ := row_facts3 (R1.out.ext HE2.out)
  cases x1 with
  | false =>
    go_wp2_with fail
    refine (awake3_any w2 (HT.out.ext (HX.out.step HE2.out))).mono ?_
    rintro e wL ⟨rfl, hxL⟩
    have HL9 := hid (Ext.step (HX.out.step HE2.out) hxL)
    go_wp2
    go_ret
    exact ⟨rfl, HL9.out⟩
  | true =>
    obtain rfl : x2 = false := by
      cases x2 with
      | false => rfl
      | true => exact (HN.out (by simp)).elim
    go_wp2_with fail
    refine (is_any _ m us ad Wd wn wc ws w2 (HV.out.ext (HX.out.step HE2.out)) (HWD.out.ext (HX.out.step HE2.out)) hl hwb hb2).mono ?_
    rintro e w3 ⟨rfl, hx3⟩
    have HE3 := hid (HE2.out.step hx3)
    clear f0 f1 f2 hx3
    go_wp2_with fail
    refine (awake3_any w3 (HT.out.ext (HX.out.step HE3.out))).mono ?_
    rintro e wL ⟨rfl, hxL⟩
    have HL9 := hid (Ext.step (HX.out.step HE3.out) hxL)
    go_wp2
    go_ret
    exact ⟨rfl, HL9.out⟩
set_option maxRecDepth 100000 in
set_option maxHeartbeats 12800000 in
theorem powers_yes (ba oa n cc : Nat) (B : Option Addr) (n2 d : Nat) (m : Int) (us ad : List Int) (Wd : Option Addr) (wn wc : Nat) (ws : List Int) (su sa sd : ByteArray) (w : World) (hv : MapV w (.agg #[.int .i64 m, .slice (some ⟨ba, oa, none⟩) n cc, .slice B n2 d]) m us ad) (hra : Rd w (some ⟨ba, oa, none⟩) (Is us)) (hn1 : us.length = n) (hn63 : n ≤ 140737488351232) (hw : Rd w Wd (Is ws)) (hl : ws.length = wn) (hwb : wn ≤ 140737488351232) (ht : Tab w)
    (hM : Hid (mapP m us ad)) (hW : Hid (wordB m ws = true)) (hs1 : Hid (Str (K.txt (lineI m us ad ws).1) = su)) (hs2 : Hid (Str (K.txt (lineI m us ad ws).2.1) = sa)) (hs3 : Hid (Str (K.txt (lineI m us ad ws).2.2) = sd)) :
    Calls Tryz.prog 13 #[.agg #[.int .i64 m, .slice (some ⟨ba, oa, none⟩) n cc, .slice B n2 d], .slice Wd wn wc] w (TruePost w) := by
  have HT := hid ht
  have HV := hid hv
  have HWD := hid hw
  have HRA := hid hra
  have HL := hid hl
  have HN1 := hid hn1
  have hb1 : Hid (mapB m us ad = true) := hid ((mapB_iff _ _ _).2 hM.out)
  have hx : Ext w (w.alloc (.cells #[.int .i64 m, .slice (some ⟨ba, oa, none⟩) n cc, .slice B n2 d] 24)) := (Ext.rfl' w).alloc' _
  have hr1 : Row (w.alloc (.cells #[.int .i64 m, .slice (some ⟨ba, oa, none⟩) n cc, .slice B n2 d] 24)) w.heap.size 24 [.int .i64 m, .slice (some ⟨ba, oa, none⟩) n cc, .slice B n2 d] := Row.new w _ _
  obtain ⟨W1, hW1⟩ : ∃ W1, (w.alloc (.cells #[.int .i64 m, .slice (some ⟨ba, oa, none⟩) n cc, .slice B n2 d] 24)) = W1 := ⟨_, rfl⟩
  have hz1 : w.heap.size < W1.heap.size := by rw [← hW1]; simp
  rw [hW1] at hx hr1
  have HX := hid hx
  have HW1 := hid hW1
  have R1 := hid hr1
  obtain ⟨f0, f1, f2, -, -, -⟩ := row_facts3 hr1
  clear hW1 hx hr1 hw hra hv hl
  go_enter Tryz.func13, Tryz.ntmps13
  go_upto_region 1 with fail
  rw [HW1.out]
  go_wp2_with fail
  refine (refvalid_any _ m us ad W1 (HV.out.ext HX.out) hb1).mono ?_
  rintro e w2 ⟨rfl, hx2⟩
  have HE2 := hid hx2
  clear f0 f1 f2 hx2
  obtain ⟨f0, f1, f2, -, -, -⟩ := row_facts3 (R1.out.ext HE2.out)
  go_wp2_with fail
  refine (is_any _ m us ad Wd wn wc ws w2 (HV.out.ext (HX.out.step HE2.out)) (HWD.out.ext (HX.out.step HE2.out)) HL.out hwb hW).mono ?_
  rintro e w3 ⟨rfl, hx3⟩
  have HE3 := hid (HE2.out.step hx3)
  clear f0 f1 f2 hx3
  obtain ⟨f0, f1, f2, -, -, -⟩ := row_facts3 (R1.out.ext HE3.out)
  go_wp2_with fail
  refine (line_s _ m us ad Wd wn wc ws su sa sd w3 (HV.out.ext (HX.out.step HE3.out)) (HWD.out.ext (HX.out.step HE3.out)) HL.out hwb hM hW (HT.out.ext (HX.out.step HE3.out)) hs1 hs2 hs3).mono ?_
  rintro e w4 ⟨rfl, hx4⟩
  have hz4 : w.heap.size < w4.heap.size := Nat.lt_of_lt_of_le hz1 (HE3.out.step hx4).size
  have hy4 := (HE3.out.step hx4).alloc' (.cells #[.string su, .string sa, .string sd] 66)
  have r4 := Row.new w4 66 [.string su, .string sa, .string sd]
  obtain ⟨W4, hW4⟩ : ∃ W4, w4.alloc (.cells #[.string su, .string sa, .string sd] 66) = W4 := ⟨_, rfl⟩
  have hz5 : w4.heap.size < W4.heap.size := by rw [← hW4]; simp
  rw [hW4] at hy4
  have R4 : Hid (Row W4 w4.heap.size 66 [.string su, .string sa, .string sd]) := hid (by rw [← hW4]; exact r4)
  have HE4 := hid hy4
  have HW4 := hid hW4
  clear f0 f1 f2 hx4 hy4 r4 hW4
  obtain ⟨f0, f1, f2, -, -, -⟩ := row_facts3 (R1.out.ext HE4.out)
  go_upto_region 4 with fail
  rw [HW4.out]
  clear f0 f1 f2
  go_wp2_with fail
  refine (of_one W4).mono ?_
  rintro e w5 ⟨v5, rfl, hv5, hx5⟩
  have HV5 := hid hv5
  obtain ⟨A5, k5, c5, xs5, b5, rfl, -⟩ := hv5
  go_wp2_with fail
  refine (of_one w5).mono ?_
  rintro e w7 ⟨v6, rfl, hv6, hx7⟩
  have HV6 := hid hv6
  obtain ⟨A6, k6, c6, xs6, b6, rfl, -⟩ := hv6
  have hz7 : w4.heap.size < w7.heap.size := Nat.lt_of_lt_of_le hz5 (hx5.step hx7).size
  have hW8 : Ext W4 ((w7.alloc (.cells #[.bool b5, .slice A5 k5 c5] 34)).alloc (.cells #[.bool b6, .slice A6 k6 c6] 34)) := ((hx5.step hx7).alloc' _).alloc' _
  have hX8 : Ext w7 ((w7.alloc (.cells #[.bool b5, .slice A5 k5 c5] 34)).alloc (.cells #[.bool b6, .slice A6 k6 c6] 34)) := ((Ext.rfl' w7).alloc' _).alloc' _
  have r7 : Row ((w7.alloc (.cells #[.bool b5, .slice A5 k5 c5] 34)).alloc (.cells #[.bool b6, .slice A6 k6 c6] 34)) w7.heap.size 34 [.bool b5, .slice A5 k5 c5] := (Row.new w7 _ _).alloc _
  have r8 : Row ((w7.alloc (.cells #[.bool b5, .slice A5 k5 c5] 34)).alloc (.cells #[.bool b6, .slice A6 k6 c6] 34)) (w7.heap.size + 1) 34 [.bool b6, .slice A6 k6 c6] := by
    have := Row.new (w7.alloc (.cells #[.bool b5, .slice A5 k5 c5] 34)) 34 [.bool b6, .slice A6 k6 c6]
    rwa [World.size_alloc] at this
  obtain ⟨W8, hW8e⟩ : ∃ W8, ((w7.alloc (.cells #[.bool b5, .slice A5 k5 c5] 34)).alloc (.cells #[.bool b6, .slice A6 k6 c6] 34)) = W8 := ⟨_, rfl⟩
  rw [hW8e] at hW8 hX8 r7 r8
  have HW8 := hid hW8e
  have HE8 := hid (HX.out.step (HE4.out.step hW8))
  have HV58 := hid ((HV5.out.ext hx7).ext hX8)
  have HV68 := hid (HV6.out.ext hX8)
  have R48 := hid (R4.out.ext hW8)
  have R18 := hid (R1.out.ext (HE4.out.step hW8))
  have R7 := hid r7
  have R8 := hid r8
  clear hW8e hW8 hX8 r7 r8 hx5 hx7 HV5 HV6 HE2 HE3 HE4 R1 R4 HX
  go_upto_region 5 with fail
  rw [HW8.out]
  go_wp2_with fail
  go_loopw [9] (fun iz wr => ∃ (j : Nat) (p1 p2 : Bool) (P1 P2 : Option Addr) (q1 c1 q2 c2 : Nat), j ≤ wn ∧ iz = .int .i64 (j : Int) ∧ Row wr w.heap.size 24 [.int .i64 m, .slice (some ⟨ba, oa, none⟩) n cc, .slice B n2 d] ∧ Row wr w4.heap.size 66 [.string su, .string sa, .string sd] ∧ Row wr w7.heap.size 34 [.bool p1, .slice P1 q1 c1] ∧ Row wr (w7.heap.size + 1) 34 [.bool p2, .slice P2 q2 c2] ∧ RefV wr (.agg #[.bool p1, .slice P1 q1 c1]) (lineI m us ad (ws.take j)).1 ∧ RefV wr (.agg #[.bool p2, .slice P2 q2 c2]) (lineI m us ad (ws.take j)).2.2 ∧ Ext w wr) (fun iz _ => wn - (intOf iz).toNat)
  case atStart => exact ⟨0, b5, b6, A5, A6, k5, c5, k6, c6, by omega, rfl, R18.out, R48.out, R7.out, R8.out, by rw [List.take_zero]; exact HV58.out, by rw [List.take_zero]; exact HV68.out, HE8.out⟩
  case round =>
    obtain ⟨j, p1, p2, P1, P2, q1, c1, q2, c2, hj, rfl, rm, rl, rp, rd, hv1, hv2, hex⟩ := hrel
    have RM := hid rm
    have RL := hid rl
    have RP := hid rp
    have RD := hid rd
    have HV1 := hid hv1
    have HV2 := hid hv2
    have EX := hid hex
    clear rm rl rp rd hv1 hv2 hex R18 R48 R7 R8 HV58 HV68
    by_cases hlt : j < wn
    · have hjn : (j : Int) < (wn : Int) := by omega
      have hnx := powers_next hM.out hW.out (j := j) (by rw [HL.out]; exact hlt)
      obtain ⟨b3, o3, e3, -, hc3⟩ := (HWD.out.ext EX.out).atI (k := j) (by rw [HL.out]; exact hlt)
      subst e3
      obtain ⟨r, hr⟩ : ∃ r : Nat, ws.getD j 0 = (r : Int) := ⟨(ws.getD j 0).toNat, by have := hnx.2.2.2.2.1; omega⟩
      rw [hr, Int.toNat_natCast] at hnx
      have HRR := hid hr
      obtain ⟨u, hu⟩ : ∃ u, us.getD r 0 = u := ⟨_, rfl⟩
      rw [hu] at hnx
      have HUU := hid hu
      have HNX := hid hnx
      have i0 : (0 : Int) ≤ (r : Int) := by omega
      have i1 : (r : Int) < (n : Int) := by have := hnx.2.2.2.2.2.2.2.2; omega
      have hrn : r < us.length := hnx.2.2.2.2.2.2.2.2
      have HUB := hid (small_big (show u.natAbs < 1000000000 by have h1 := hnx.2.2.2.2.2.2.1; have h2 := hnx.2.2.2.2.2.2.2.1; omega))
      have HUS := hid (show u.natAbs < 1000000000000000000 by have h1 := hnx.2.2.2.2.2.2.1; have h2 := hnx.2.2.2.2.2.2.2.1; omega)
      have HMB := hid (small_big (show m.natAbs < 1000000000 by have h1 := hM.out.1; have h2 := hM.out.2.1; omega))
      have HMS := hid (show m.natAbs < 1000000000000000000 by have h1 := hM.out.1; have h2 := hM.out.2.1; omega)
      clear hr hu hnx hc3
      have HSF : Hid (∀ W', Ext w W' → Row W' w.heap.size 24 [.int .i64 m, .slice (some ⟨ba, oa, none⟩) n cc, .slice B n2 d] → W'.cell? ⟨w.heap.size, 0, none⟩ = some (.int .i64 m) ∧ W'.cell? ⟨w.heap.size, 1, none⟩ = some (.slice (some ⟨ba, oa, none⟩) n cc) ∧ W'.cell? ⟨w.heap.size, 2, none⟩ = some (.slice B n2 d) ∧ W'.cell? ⟨b3, o3 + j, none⟩ = some (.int .i64 (r : Int)) ∧ W'.cell? ⟨ba, oa + r, none⟩ = some (.int .i64 u)) := hid (by
        intro W' e er
        obtain ⟨p0, p1, p2, -, -, -⟩ := row_facts3 er
        obtain ⟨b4, o4, e4, -, hc4⟩ := (HWD.out.ext e).atI (k := j) (by rw [HL.out]; exact hlt)
        obtain ⟨b5, o5, e5, -, hc5⟩ := (HRA.out.ext e).atI (k := r) hrn
        cases e4
        cases e5
        rw [HRR.out] at hc4
        rw [HUU.out] at hc5
        exact ⟨p0, p1, p2, hc4, hc5⟩)
      have hcur : Ext wr wr := Ext.rfl' _
      obtain ⟨y0, y1, y2, y3⟩ := row_facts RP.out
      obtain ⟨f0, f1, f2, f3, f4⟩ := HSF.out _ EX.out RM.out
      go_upto_region 8 with fail
      go_cut [9] (fun s9 wx => ∃ (b : Bool) (P : Option Addr) (q c : Nat), s9 = .int .i64 (j : Int) ∧ Row wx w.heap.size 24 [.int .i64 m, .slice (some ⟨ba, oa, none⟩) n cc, .slice B n2 d] ∧ Row wx w4.heap.size 66 [.string su, .string sa, .string sd] ∧ Row wx w7.heap.size 34 [.bool b, .slice P q c] ∧ Row wx (w7.heap.size + 1) 34 [.bool p2, .slice P2 q2 c2] ∧ RefV wx (.agg #[.bool b, .slice P q c]) (lineI m us ad (ws.take (j + 1))).1 ∧ RefV wx (.agg #[.bool p2, .slice P2 q2 c2]) (lineI m us ad (ws.take j)).2.2 ∧ Ext w wx)
      case first =>
        go_region_with (first
          | (go_at_call 32; refine (of_any u _ HUS.out).mono ?_; rintro e w10 ⟨v10, rfl, hv10, hx⟩; have hcur := Ext.step hcur (by first | exact hx | exact Ext.undrew hx | exact Ext.step ((Ext.rfl' _).alloc' _) hx | exact Ext.step ((Ext.rfl' _).drew'.alloc' _) hx); have HV10 := hid hv10; obtain ⟨A10, k10, c10, xs10, b10, rfl, -⟩ := hv10; obtain ⟨y0, y1, y2, y3⟩ := row_facts (RP.out.ext hcur); obtain ⟨f0, f1, f2, f3, f4⟩ := HSF.out _ (EX.out.step hcur) (RM.out.ext hcur))
          | (go_at_call 31; refine (rmul_any _ _ (lineI m us ad (ws.take j)).1 u _ (HV1.out.ext ?_) (HV10.out.ext ?_) HNX.out.2.2.1 HUB.out).mono ?_; (first | exact hcur | exact hcur.drew' | exact hcur.alloc' _ | exact hcur.drew'.alloc' _ | exact (hcur.alloc' _).drew'); (first | exact Ext.rfl' _ | exact (Ext.rfl' _).drew' | exact (Ext.rfl' _).alloc' _ | exact (Ext.rfl' _).drew'.alloc' _); rintro e w11 ⟨v11, rfl, hv11, hx⟩; have hcur := Ext.step hcur (by first | exact hx | exact Ext.undrew hx | exact Ext.step ((Ext.rfl' _).alloc' _) hx | exact Ext.step ((Ext.rfl' _).drew'.alloc' _) hx); have HV11 := hid hv11; obtain ⟨A11, k11, c11, xs11, b11, rfl, -⟩ := hv11; obtain ⟨y0, y1, y2, y3⟩ := row_facts (RP.out.ext hcur); obtain ⟨f0, f1, f2, f3, f4⟩ := HSF.out _ (EX.out.step hcur) (RM.out.ext hcur)))
        all_goals
          have rp8 := RP.out.ext hcur
          have rm8 := RM.out.ext hcur
          have rl8 := RL.out.ext hcur
          have rd8 := RD.out.ext hcur
          have ex8 := EX.out.step hcur
          have HV11S := HV11.out.box rp8 (a := .bool b11) (b := .slice A11 k11 c11)
          rw [HNX.out.1] at HV11S
          have HV2S := (HV2.out.ext hcur).box rp8 (a := .bool b11) (b := .slice A11 k11 c11)
          have RP8 : Row ((w11.setCell ⟨w7.heap.size, 0, none⟩ (.bool b11)).setCell ⟨w7.heap.size, 1, none⟩ (.slice A11 k11 c11)) w7.heap.size 34 [.bool b11, .slice A11 k11 c11] := (rp8.set 0 (.bool b11)).set 1 (.slice A11 k11 c11)
          have RM8 := ((rm8).far (p := ⟨w7.heap.size, 0, none⟩) (by show w.heap.size ≠ w7.heap.size; omega) (.bool b11)).far (p := ⟨w7.heap.size, 1, none⟩) (by show w.heap.size ≠ w7.heap.size; omega) (.slice A11 k11 c11)
          have RL8 := ((rl8).far (p := ⟨w7.heap.size, 0, none⟩) (by show w4.heap.size ≠ w7.heap.size; omega) (.bool b11)).far (p := ⟨w7.heap.size, 1, none⟩) (by show w4.heap.size ≠ w7.heap.size; omega) (.slice A11 k11 c11)
          have RD8 := ((rd8).far (p := ⟨w7.heap.size, 0, none⟩) (by show w7.heap.size + 1 ≠ w7.heap.size; omega) (.bool b11)).far (p := ⟨w7.heap.size, 1, none⟩) (by show w7.heap.size + 1 ≠ w7.heap.size; omega) (.slice A11 k11 c11)
          have EX8 : Ext w ((w11.setCell ⟨w7.heap.size, 0, none⟩ (.bool b11)).setCell ⟨w7.heap.size, 1, none⟩ (.slice A11 k11 c11)) := (ex8.set' (by show w.heap.size ≤ w7.heap.size; omega) _).set' (by show w.heap.size ≤ w7.heap.size; omega) _
          have HFC := hid (And.intro RM8 (And.intro RL8 (And.intro RP8 (And.intro RD8 (And.intro HV11S (And.intro HV2S EX8))))))
          clear rp8 rm8 rl8 rd8 ex8 HV11S HV2S RP8 RM8 RL8 RD8 EX8 hcur
          go_wp2_with fail
          go_meet
          exact ⟨b11, A11, k11, c11, rfl, HFC.out⟩
      case rest =>
        obtain ⟨b9, P9, q9, c9, rfl, rm9, rl9, rp9, rd9, ha, hb, ex9⟩ := hcut
        have RM9 := hid rm9
        have RL9 := hid rl9
        have RP9 := hid rp9
        have RD9 := hid rd9
        have HA := hid ha
        have HB := hid hb
        have EX9 := hid ex9
        clear rm9 rl9 rp9 rd9 ha hb ex9 y0 y1 y2 y3 f0 f1 f2 f3 f4 hcur HV1 HV2 RP RM RL RD EX
        have hcur : Ext wc wc := Ext.rfl' _
        obtain ⟨f0, f1, f2, -, -, -⟩ := row_facts3 RM9.out
        obtain ⟨y0, y1, y2, y3⟩ := row_facts RD9.out
        go_wp2_with fail
        go_region_with (first
          | (go_at_call 32; refine (of_any m _ HMS.out).mono ?_; rintro e w12 ⟨v12, rfl, hv12, hx⟩; have hcur := Ext.step hcur (by first | exact hx | exact Ext.undrew hx | exact Ext.step ((Ext.rfl' _).alloc' _) hx | exact Ext.step ((Ext.rfl' _).drew'.alloc' _) hx); have HV12 := hid hv12; obtain ⟨A12, k12, c12, xs12, b12, rfl, -⟩ := hv12; obtain ⟨y0, y1, y2, y3⟩ := row_facts (RD9.out.ext hcur); obtain ⟨f0, f1, f2, -, -, -⟩ := row_facts3 (RM9.out.ext hcur))
          | (go_at_call 31; refine (rmul_any _ _ (lineI m us ad (ws.take j)).2.2 m _ (HB.out.ext ?_) (HV12.out.ext ?_) HNX.out.2.2.2.1 HMB.out).mono ?_; (first | exact hcur | exact hcur.drew' | exact hcur.alloc' _ | exact hcur.drew'.alloc' _ | exact (hcur.alloc' _).drew'); (first | exact Ext.rfl' _ | exact (Ext.rfl' _).drew' | exact (Ext.rfl' _).alloc' _ | exact (Ext.rfl' _).drew'.alloc' _); rintro e w13 ⟨v13, rfl, hv13, hx⟩; have hcur := Ext.step hcur (by first | exact hx | exact Ext.undrew hx | exact Ext.step ((Ext.rfl' _).alloc' _) hx | exact Ext.step ((Ext.rfl' _).drew'.alloc' _) hx); have HV13 := hid hv13; obtain ⟨A13, k13, c13, xs13, b13, rfl, -⟩ := hv13; obtain ⟨y0, y1, y2, y3⟩ := row_facts (RD9.out.ext hcur); obtain ⟨f0, f1, f2, -, -, -⟩ := row_facts3 (RM9.out.ext hcur)))
        all_goals
          have rp8 := RP9.out.ext hcur
          have rm8 := RM9.out.ext hcur
          have rl8 := RL9.out.ext hcur
          have rd8 := RD9.out.ext hcur
          have ex8 := EX9.out.step hcur
          have HV13S := HV13.out.box rd8 (a := .bool b13) (b := .slice A13 k13 c13)
          rw [HNX.out.2.1] at HV13S
          have HAS := (HA.out.ext hcur).box rd8 (a := .bool b13) (b := .slice A13 k13 c13)
          have RD8 : Row ((w13.setCell ⟨w7.heap.size + 1, 0, none⟩ (.bool b13)).setCell ⟨w7.heap.size + 1, 1, none⟩ (.slice A13 k13 c13)) (w7.heap.size + 1) 34 [.bool b13, .slice A13 k13 c13] := (rd8.set 0 (.bool b13)).set 1 (.slice A13 k13 c13)
          have RM8 := ((rm8).far (p := ⟨w7.heap.size + 1, 0, none⟩) (by show w.heap.size ≠ w7.heap.size + 1; omega) (.bool b13)).far (p := ⟨w7.heap.size + 1, 1, none⟩) (by show w.heap.size ≠ w7.heap.size + 1; omega) (.slice A13 k13 c13)
          have RL8 := ((rl8).far (p := ⟨w7.heap.size + 1, 0, none⟩) (by show w4.heap.size ≠ w7.heap.size + 1; omega) (.bool b13)).far (p := ⟨w7.heap.size + 1, 1, none⟩) (by show w4.heap.size ≠ w7.heap.size + 1; omega) (.slice A13 k13 c13)
          have RP8 := ((rp8).far (p := ⟨w7.heap.size + 1, 0, none⟩) (by show w7.heap.size ≠ w7.heap.size + 1; omega) (.bool b13)).far (p := ⟨w7.heap.size + 1, 1, none⟩) (by show w7.heap.size ≠ w7.heap.size + 1; omega) (.slice A13 k13 c13)
          have EX8 : Ext w ((w13.setCell ⟨w7.heap.size + 1, 0, none⟩ (.bool b13)).setCell ⟨w7.heap.size + 1, 1, none⟩ (.slice A13 k13 c13)) := (ex8.set' (by show w.heap.size ≤ w7.heap.size + 1; omega) _).set' (by show w.heap.size ≤ w7.heap.size + 1; omega) _
          have HFIN : Hid (∃ (j' : Nat) (p1 p2 : Bool) (P1 P2 : Option Addr) (q1 c1 q2 c2 : Nat), j' ≤ wn ∧ Value.int .i64 ((j : Int) + 1) = .int .i64 (j' : Int) ∧ Row ((w13.setCell ⟨w7.heap.size + 1, 0, none⟩ (.bool b13)).setCell ⟨w7.heap.size + 1, 1, none⟩ (.slice A13 k13 c13)) w.heap.size 24 [.int .i64 m, .slice (some ⟨ba, oa, none⟩) n cc, .slice B n2 d] ∧ Row ((w13.setCell ⟨w7.heap.size + 1, 0, none⟩ (.bool b13)).setCell ⟨w7.heap.size + 1, 1, none⟩ (.slice A13 k13 c13)) w4.heap.size 66 [.string su, .string sa, .string sd] ∧ Row ((w13.setCell ⟨w7.heap.size + 1, 0, none⟩ (.bool b13)).setCell ⟨w7.heap.size + 1, 1, none⟩ (.slice A13 k13 c13)) w7.heap.size 34 [.bool p1, .slice P1 q1 c1] ∧ Row ((w13.setCell ⟨w7.heap.size + 1, 0, none⟩ (.bool b13)).setCell ⟨w7.heap.size + 1, 1, none⟩ (.slice A13 k13 c13)) (w7.heap.size + 1) 34 [.bool p2, .slice P2 q2 c2] ∧ RefV ((w13.setCell ⟨w7.heap.size + 1, 0, none⟩ (.bool b13)).setCell ⟨w7.heap.size + 1, 1, none⟩ (.slice A13 k13 c13)) (.agg #[.bool p1, .slice P1 q1 c1]) (lineI m us ad (ws.take j')).1 ∧ RefV ((w13.setCell ⟨w7.heap.size + 1, 0, none⟩ (.bool b13)).setCell ⟨w7.heap.size + 1, 1, none⟩ (.slice A13 k13 c13)) (.agg #[.bool p2, .slice P2 q2 c2]) (lineI m us ad (ws.take j')).2.2 ∧ Ext w ((w13.setCell ⟨w7.heap.size + 1, 0, none⟩ (.bool b13)).setCell ⟨w7.heap.size + 1, 1, none⟩ (.slice A13 k13 c13))) := hid ⟨j + 1, b9, b13, P9, A13, q9, c9, k13, c13, by omega, by simp, RM8, RL8, RP8, RD8, HAS, HV13S, EX8⟩
          clear HV13S HAS RD8 RM8 RL8 RP8 EX8 rp8 rm8 rl8 rd8 ex8 hcur
          go_wp2
          go_roundw
          case rel => exact HFIN.out
          case measure => first | (simp [intOf]; done) | (simp [intOf]; omega)
    · obtain rfl : j = wn := by omega
      have HTK := hid (show ws.take j = ws from by rw [← HL.out, List.take_length])
      rw [HTK.out] at HV1 HV2
      have HPB := hid (powers_big hM.out hW.out)
      have hcur : Ext wr wr := Ext.rfl' _
      have HS : Hid (∀ W', Ext wr W' → W'.cell? ⟨w4.heap.size, 0, none⟩ = some (.string su) ∧ W'.cell? ⟨w4.heap.size, 1, none⟩ = some (.string sa) ∧ W'.cell? ⟨w4.heap.size, 2, none⟩ = some (.string sd) ∧ W'.cell? ⟨w7.heap.size, 0, none⟩ = some (.bool p1) ∧ W'.cell? ⟨w7.heap.size, 1, none⟩ = some (.slice P1 q1 c1) ∧ W'.cell? ⟨w7.heap.size + 1, 0, none⟩ = some (.bool p2) ∧ W'.cell? ⟨w7.heap.size + 1, 1, none⟩ = some (.slice P2 q2 c2)) := hid (by
        intro W' e
        obtain ⟨p0, p1, p2, -, -, -⟩ := row_facts3 (RL.out.ext e)
        obtain ⟨q0, q1, -, -⟩ := row_facts (RP.out.ext e)
        obtain ⟨r0, r1, -, -⟩ := row_facts (RD.out.ext e)
        exact ⟨p0, p1, p2, q0, q1, r0, r1⟩)
      go_wp2_with fail
      go_region_held3 (fun W' => W'.cell? ⟨w4.heap.size, 0, none⟩ = some (.string su) ∧ W'.cell? ⟨w4.heap.size, 1, none⟩ = some (.string sa) ∧ W'.cell? ⟨w4.heap.size, 2, none⟩ = some (.string sd) ∧ W'.cell? ⟨w7.heap.size, 0, none⟩ = some (.bool p1) ∧ W'.cell? ⟨w7.heap.size, 1, none⟩ = some (.slice P1 q1 c1) ∧ W'.cell? ⟨w7.heap.size + 1, 0, none⟩ = some (.bool p2) ∧ W'.cell? ⟨w7.heap.size + 1, 1, none⟩ = some (.slice P2 q2 c2))
        (first | exact HS.out _ hcur | exact HS.out _ hcur.drew' | exact HS.out _ (hcur.alloc' _) | exact HS.out _ (hcur.drew'.alloc' _) | exact HS.out _ ((hcur.set' HB2.out.1 _).set' HB2.out.1 _) | go_keep)
        (first
          | (go_at_call_of 24 (Value.agg #[Value.bool p1, Value.slice P1 q1 c1]); refine (rtext_s _ (HV1.out.ext ?_) HPB.out.1 hs1).mono ?_; (first | exact hcur | exact hcur.drew' | exact hcur.alloc' _ | exact hcur.drew'.alloc' _ | exact (hcur.alloc' _).drew'); rintro e w20 ⟨rfl, hx⟩; have hcur := Ext.step hcur (by first | exact hx | exact Ext.undrew hx | exact Ext.step ((Ext.rfl' _).alloc' _) hx | exact Ext.step ((Ext.rfl' _).drew'.alloc' _) hx))
          | (go_at_call_of 24 (Value.agg #[Value.bool p2, Value.slice P2 q2 c2]); refine (rtext_s _ (HV2.out.ext ?_) HPB.out.2 hs3).mono ?_; (first | exact hcur | exact hcur.drew' | exact hcur.alloc' _ | exact hcur.drew'.alloc' _ | exact (hcur.alloc' _).drew'); rintro e w21 ⟨rfl, hx⟩; have hcur := Ext.step hcur (by first | exact hx | exact Ext.undrew hx | exact Ext.step ((Ext.rfl' _).alloc' _) hx | exact Ext.step ((Ext.rfl' _).drew'.alloc' _) hx))
          | (go_at_call 39; refine (awake3_any _ (HT.out.ext (EX.out.step ?_))).mono ?_; (first | exact hcur | exact hcur.drew' | exact hcur.alloc' _ | exact hcur.drew'.alloc' _ | exact (hcur.alloc' _).drew'); rintro e w22 ⟨rfl, hx⟩; have hcur := Ext.step hcur (by first | exact hx | exact Ext.undrew hx | exact Ext.step ((Ext.rfl' _).alloc' _) hx | exact Ext.step ((Ext.rfl' _).drew'.alloc' _) hx)))
      all_goals
        have HZ := hid (EX.out.step hcur)
        go_wp2
        go_ret
        exact ⟨rfl, by first | exact HZ.out | exact HZ.out.drew' | exact HZ.out.drewN _⟩
theorem law_WordPowers (v : Value) (m : Int) (us ad : List Int) (Wd : Option Addr) (wn wc : Nat) (ws : List Int) (w : World) (hv : MapV w v m us ad) (hw : Rd w Wd (Is ws)) (hl : ws.length = wn) (hwb : wn ≤ 140737488351232) (ht : Tab w) :
    Calls Tryz.prog 13 #[v, .slice Wd wn wc] w (TruePost w) := by
  by_cases h : mapB m us ad = true ∧ wordB m ws = true
  · have hM := (mapB_iff m us ad).1 h.1
    have hv2 := hv
    obtain ⟨A, n, cc, B, n2, d, rfl, h1, h2, h3, h4, h5, h6, h7, h9⟩ := hv
    obtain ⟨ba, oa, eA, -, -⟩ := h5.atI (k := 0) (by have := hM.1; have := hM.2.2.1; omega)
    subst eA
    exact powers_yes ba oa n cc B n2 d m us ad Wd wn wc ws _ _ _ w hv2 h5 h1 (by omega) hw hl hwb ht (hid hM) (hid h.2) (hid rfl) (hid rfl) (hid rfl)
  · exact powers_no v m us ad Wd wn wc ws _ _ w hv hw hl hwb ht (hid rfl) (hid rfl) (hid h)
end Go.Proofs.YtflgkijmbpcnfaaGreatDoor
