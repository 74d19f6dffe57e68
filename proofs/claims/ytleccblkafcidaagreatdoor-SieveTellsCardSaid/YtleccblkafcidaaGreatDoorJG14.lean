/- Joined texts: word.Line; numbers whose difference is a multiple of a power of the modulus: plain mathematics; words and rests: plain mathematics; the step law package's helpers: same, awake; the reference's Valid, of a map; the law StepParts; the law StepFirst; step.Orbit in the forms that the laws use; (number).power: the walk; Power and Rest, by contract; step.Orbit and step.Falls where the arguments are not valid; word.rests, word.Word. -/
import Derived.Test.YtleccblkafcidaaGreatDoorJG13
import Derived.Test.YtleccblkafcidaaGreatDoorJG10
import Derived.Test.YtleccblkafcidaaGreatDoorJG05
import Derived.Test.YtleccblkafcidaaGreatDoorJG11
import Derived.Test.YtleccblkafcidaaGreatDoorJG07
import Derived.Test.YtleccblkafcidaaGreatDoorJG06
import Derived.Deep.RegionHeldLaw
set_option linter.unusedSimpArgs false
set_option linter.unusedVariables false
/- word.Line -/
namespace Go.Proofs.YtleccblkafcidaaGreatDoor
open Go.RowKit
theorem lineI_div (m : Int) (us ad : List Int) (ws : List Int) : (lineI m us ad ws).2.2 = m ^ ws.length := by
  obtain ⟨k, hk⟩ : ∃ k, ws.length = k := ⟨_, rfl⟩
  rw [hk]
  induction k generalizing ws with
  | zero => rw [List.eq_nil_of_length_eq_zero hk, Int.pow_zero]; rfl
  | succ k ih =>
    rcases List.eq_nil_or_concat ws with rfl | ⟨p, r, rfl⟩
    · simp at hk
    · rw [List.concat_eq_append] at *
      rw [lineI_snoc, Int.pow_succ, ← ih p (by simpa using hk)]
      rfl
theorem pow_ne_one {m : Int} (hm : 2 ≤ m) (j : Nat) (hj : 0 < j) : m ^ j ≠ 1 := by
  obtain ⟨i, rfl⟩ : ∃ i, j = i + 1 := ⟨j - 1, by omega⟩
  have h : 0 < m ^ i := Int.pow_pos (by omega)
  rw [Int.pow_succ]
  have : 1 * 2 ≤ m ^ i * m := Int.mul_le_mul (by omega) hm (by omega) (by omega)
  omega
theorem take_succ_I {ws : List Int} {j : Nat} (hj : j < ws.length) : ws.take (j + 1) = ws.take j ++ [ws.getD j 0] := by
  rw [List.take_succ_eq_append_getElem hj, List.getD_eq_getElem?_getD, List.getElem?_eq_getElem hj]; rfl
theorem lineOfStep_s (v : Value) (m : Int) (us ad : List Int) (r : Int) (su sa sm : ByteArray) (w : World) (hv : MapV w v m us ad) (hM : Hid (mapP m us ad)) (h0 : 0 ≤ r) (h1 : r < m) (ht : Tab w) (Hu : Hid (Str (K.txt (us.getD r.toNat 0)) = su)) (Ha : Hid (Str (K.txt (ad.getD r.toNat 0)) = sa)) (Hm : Hid (Str (K.txt m) = sm)) :
    Calls Tryz.prog 150 #[v, .int .i64 r] w (fun e w' => e = .returned (.agg #[.string su, .string sa, .string sm]) ∧ Ext w w') :=
  (lineOfStep_any v m us ad r w hv hM h0 h1 ht).mono fun e w' h => ⟨by rw [h.1, lineV, Hu.out, Ha.out, Hm.out], h.2⟩
set_option maxRecDepth 100000 in
set_option maxHeartbeats 1600000 in
theorem line_bad (v : Value) (m : Int) (us ad : List Int) (Wd : Option Addr) (wn wc : Nat) (ws : List Int) (w : World) (hv : MapV w v m us ad) (hw : Rd w Wd (Is ws)) (hl : ws.length = wn) (hwb : wn ≤ 140737488351232) {b1 b2 : Bool} (hb1 : Hid (mapB m us ad = b1)) (hb2 : Hid (wordB m ws = b2)) {c : Int} (hc : Hid (c = if b1 = true then (if b2 = true then 0 else 2) else 1)) (hc0 : (c == 0) = false) (hcn : (c != 0) = true) :
    Calls Tryz.prog 118 #[v, .slice Wd wn wc] w (fun e w' => e = .returned (.tuple #[.agg #[.string ⟨#[]⟩, .string ⟨#[]⟩, .string ⟨#[]⟩], .int .i64 c]) ∧ Ext w w') := by
  have HV := hid hv
  obtain ⟨A, n, cc, B, n2, d, rfl, -⟩ := hv
  have hx : Ext w ((w.alloc (.cells #[.int .i64 m, .slice A n cc, .slice B n2 d] 24)).alloc (.cells #[.string ⟨#[]⟩, .string ⟨#[]⟩, .string ⟨#[]⟩] 38)) := ((Ext.rfl' w).alloc' _).alloc' _
  have r1 : Row ((w.alloc (.cells #[.int .i64 m, .slice A n cc, .slice B n2 d] 24)).alloc (.cells #[.string ⟨#[]⟩, .string ⟨#[]⟩, .string ⟨#[]⟩] 38)) w.heap.size 24 [.int .i64 m, .slice A n cc, .slice B n2 d] := (Row.new w _ _).alloc _
  have r2 : Row ((w.alloc (.cells #[.int .i64 m, .slice A n cc, .slice B n2 d] 24)).alloc (.cells #[.string ⟨#[]⟩, .string ⟨#[]⟩, .string ⟨#[]⟩] 38)) (w.heap.size + 1) 38 [.string ⟨#[]⟩, .string ⟨#[]⟩, .string ⟨#[]⟩] := by
    have := Row.new (w.alloc (.cells #[.int .i64 m, .slice A n cc, .slice B n2 d] 24)) 38 [.string ⟨#[]⟩, .string ⟨#[]⟩, .string ⟨#[]⟩]
    rwa [World.size_alloc] at this
  obtain ⟨W2, hW2⟩ : ∃ W2, ((w.alloc (.cells #[.int .i64 m, .slice A n cc, .slice B n2 d] 24)).alloc (.cells #[.string ⟨#[]⟩, .string ⟨#[]⟩, .string ⟨#[]⟩] 38)) = W2 := ⟨_, rfl⟩
  rw [hW2] at hx r1 r2
  have HW2 := hid hW2
  have HX := hid hx
  have R1 := hid r1
  have R2 := hid r2
  have HWD := hid hw
  have HL := hid hl
  obtain ⟨f0, f1, f2, -, -, -⟩ := row_facts3 r1
  clear hW2 hx r1 r2 hw hl
  go_enter Tryz.func118, Tryz.ntmps118
  go_upto_region 1 with fail
  rw [HW2.out]
  go_wp2_with fail
  refine (wcheck_any _ m us ad Wd wn wc ws W2 (HV.out.ext HX.out) (HWD.out.ext HX.out) HL.out hwb hb1 hb2 hc).mono ?_
  rintro e w3 ⟨rfl, hx3⟩
  obtain ⟨z0, z1, z2, z3, z4, z5⟩ := row_facts3 (R2.out.ext hx3)
  have HF := hid ((HX.out.step hx3).set3 (H := w.heap.size + 1) (a := .string ⟨#[]⟩) (b := .string ⟨#[]⟩) (c := .string ⟨#[]⟩) (by omega))
  clear f0 f1 f2 hx3
  go_wp2
  refine bodyPost_ret (v := .tuple #[.agg #[.string ⟨#[]⟩, .string ⟨#[]⟩, .string ⟨#[]⟩], .int .i64 c]) (by simp [results, Tryz.results118, go_sem, z0, z1, z2]) rfl ⟨rfl, HF.out⟩
set_option maxRecDepth 100000 in
set_option maxHeartbeats 6400000 in
theorem line_ok (v : Value) (m : Int) (us ad : List Int) (Wd : Option Addr) (wn wc : Nat) (ws : List Int) (w : World) (hv : MapV w v m us ad) (hw : Rd w Wd (Is ws)) (hl : ws.length = wn) (hwb : wn ≤ 140737488351232) (hM : Hid (mapP m us ad)) (hW : Hid (wordB m ws = true)) (ht : Tab w) :
    Calls Tryz.prog 118 #[v, .slice Wd wn wc] w (fun e w' => e = .returned (.tuple #[lineV (lineI m us ad ws), .int .i64 0]) ∧ Ext w w') := by
  have HT := hid ht
  have HWB := hid (wordB_iff.1 hW.out)
  have hw200 : wn ≤ 200 := by rw [← hl]; exact HWB.out.1
  have HV := hid hv
  obtain ⟨A, n, cc, B, n2, d, rfl, -⟩ := hv
  have hx : Ext w ((w.alloc (.cells #[.int .i64 m, .slice A n cc, .slice B n2 d] 24)).alloc (.cells #[.string ⟨#[]⟩, .string ⟨#[]⟩, .string ⟨#[]⟩] 38)) := ((Ext.rfl' w).alloc' _).alloc' _
  have r1 : Row ((w.alloc (.cells #[.int .i64 m, .slice A n cc, .slice B n2 d] 24)).alloc (.cells #[.string ⟨#[]⟩, .string ⟨#[]⟩, .string ⟨#[]⟩] 38)) w.heap.size 24 [.int .i64 m, .slice A n cc, .slice B n2 d] := (Row.new w _ _).alloc _
  have r2 : Row ((w.alloc (.cells #[.int .i64 m, .slice A n cc, .slice B n2 d] 24)).alloc (.cells #[.string ⟨#[]⟩, .string ⟨#[]⟩, .string ⟨#[]⟩] 38)) (w.heap.size + 1) 38 [.string ⟨#[]⟩, .string ⟨#[]⟩, .string ⟨#[]⟩] := by
    have := Row.new (w.alloc (.cells #[.int .i64 m, .slice A n cc, .slice B n2 d] 24)) 38 [.string ⟨#[]⟩, .string ⟨#[]⟩, .string ⟨#[]⟩]
    rwa [World.size_alloc] at this
  obtain ⟨W2, hW2⟩ : ∃ W2, ((w.alloc (.cells #[.int .i64 m, .slice A n cc, .slice B n2 d] 24)).alloc (.cells #[.string ⟨#[]⟩, .string ⟨#[]⟩, .string ⟨#[]⟩] 38)) = W2 := ⟨_, rfl⟩
  rw [hW2] at hx r1 r2
  have HW2 := hid hW2
  have HX := hid hx
  have R1 := hid r1
  have R2 := hid r2
  have HWD := hid hw
  have HL := hid hl
  obtain ⟨f0, f1, f2, -, -, -⟩ := row_facts3 r1
  clear hW2 hx r1 r2 hw hl
  go_enter Tryz.func118, Tryz.ntmps118
  go_upto_region 1 with fail
  rw [HW2.out]
  go_wp2_with fail
  refine (wcheck_any _ m us ad Wd wn wc ws W2 (HV.out.ext HX.out) (HWD.out.ext HX.out) HL.out hwb (hid ((mapB_iff m us ad).2 hM.out)) hW (c := 0) (hid rfl)).mono ?_
  rintro e w3 ⟨rfl, hx3⟩
  have HX3 := hid hx3
  clear f0 f1 f2 hx3
  have hg : Row (w3.alloc (.cells #[.int .i64 0] 193)) w3.heap.size 193 [.int .i64 0] := Row.new w3 _ [.int .i64 0]
  have hg3 : Ext w3 (w3.alloc (.cells #[.int .i64 0] 193)) := (Ext.rfl' w3).alloc' _
  obtain ⟨WG, hWG⟩ : ∃ WG, (w3.alloc (.cells #[.int .i64 0] 193)) = WG := ⟨_, rfl⟩
  rw [hWG] at hg hg3
  have HWG := hid hWG
  have HG := hid hg
  have HG3 := hid hg3
  clear hWG hg hg3
  go_upto_region 5 with fail
  rw [HWG.out]
  go_wp2_with fail
  refine (noStep_any WG).mono ?_
  rintro e w4 ⟨rfl, hx4⟩
  have e5 : Ext w4 (w4.alloc (.cells #[.string ⟨#[49]⟩, .string ⟨#[48]⟩, .string ⟨#[49]⟩] 38)) := (Ext.rfl' w4).alloc' _
  have r9 : Row (w4.alloc (.cells #[.string ⟨#[49]⟩, .string ⟨#[48]⟩, .string ⟨#[49]⟩] 38)) w4.heap.size 38 [.string ⟨#[49]⟩, .string ⟨#[48]⟩, .string ⟨#[49]⟩] := Row.new w4 _ _
  obtain ⟨W5, hW5⟩ : ∃ W5, (w4.alloc (.cells #[.string ⟨#[49]⟩, .string ⟨#[48]⟩, .string ⟨#[49]⟩] 38)) = W5 := ⟨_, rfl⟩
  rw [hW5] at e5 r9
  have HW5 := hid hW5
  have HE5 := hid (hx4.step e5)
  have H9 := hid r9
  have HSZ : Hid (w.heap.size + 1 < w3.heap.size ∧ w3.heap.size < w4.heap.size) := hid ⟨(R2.out.ext HX3.out).lt, by have h1 := (HG.out.ext hx4).lt; exact h1⟩
  have hsz := HSZ.out
  clear hW5 e5 r9 hx4
  go_upto_region 7 with fail
  rw [HW5.out]
  go_wp2_with fail
  go_loopw [23] (fun iz wr => ∃ j : Nat, j ≤ wn ∧ iz = .int .i64 (j : Int) ∧ Row wr w.heap.size 24 [.int .i64 m, .slice A n cc, .slice B n2 d] ∧ Row wr (w.heap.size + 1) 38 [.string ⟨#[]⟩, .string ⟨#[]⟩, .string ⟨#[]⟩] ∧ Row wr w3.heap.size 193 [.int .i64 0] ∧ Row wr w4.heap.size 38 [.string (Str (K.txt (lineI m us ad (ws.take j)).1)), .string (Str (K.txt (lineI m us ad (ws.take j)).2.1)), .string (Str (K.txt (lineI m us ad (ws.take j)).2.2))] ∧ Ext w wr) (fun iz _ => wn - (intOf iz).toNat)
  case atStart =>
    refine ⟨0, by omega, rfl, R1.out.ext (HX3.out.step (HG3.out.step HE5.out)), R2.out.ext (HX3.out.step (HG3.out.step HE5.out)), HG.out.ext HE5.out, ?_, HX.out.step (HX3.out.step (HG3.out.step HE5.out))⟩
    rw [List.take_zero]
    show Row _ _ _ [.string (Str (K.txt 1)), .string (Str (K.txt 0)), .string (Str (K.txt 1))]
    rw [txt_one, txt_zero2]
    exact H9.out
  case round =>
    obtain ⟨j, hj, rfl, hrm, hrz, hrg, hr9, hex⟩ := hrel
    have RM := hid hrm
    have RZ := hid hrz
    have RG := hid hrg
    have EX := hid hex
    by_cases hlt : j < wn
    · obtain ⟨b3, o3, e3, -, hc3⟩ := (HWD.out.ext hex).atI (k := j) (by rw [HL.out]; exact hlt)
      subst e3
      have hjn : (j : Int) < (wn : Int) := by omega
      obtain ⟨r, hr⟩ : ∃ r, ws.getD j 0 = r := ⟨_, rfl⟩
      rw [hr] at hc3
      have HRR : Hid (0 ≤ r ∧ r < m) := hid (HWB.out.2 r (by rw [← hr, List.getD_eq_getElem?_getD, List.getElem?_eq_getElem (by rw [HL.out]; exact hlt)]; exact List.getElem_mem _))
      have HTK : Hid (lineI m us ad (ws.take (j + 1)) = thenL m us ad (lineI m us ad (ws.take j)) r) := hid (by rw [take_succ_I (by rw [HL.out]; exact hlt), hr, lineI_snoc])
      have hLB := lineI_B hM.out (ws.take j) (fun x hx => HWB.out.2 x (List.mem_of_mem_take hx))
      have hlen : (ws.take j).length = j := by rw [List.length_take, HL.out]; omega
      have hdv := lineI_div m us ad (ws.take j)
      rw [hlen] at hLB hdv
      have hfit := hLB.fits hM.out (by omega) HRR.out.1 HRR.out.2
      have hrule := rule_of hM.out HRR.out.1 HRR.out.2
      obtain ⟨u, hu⟩ : ∃ u, us.getD r.toNat 0 = u := ⟨_, rfl⟩
      obtain ⟨a, ha⟩ : ∃ a, ad.getD r.toNat 0 = a := ⟨_, rfl⟩
      rw [hu, ha] at hfit hrule
      obtain ⟨su, hsu⟩ : ∃ su, Str (K.txt u) = su := ⟨_, rfl⟩
      obtain ⟨sa, hsa⟩ : ∃ sa, Str (K.txt a) = sa := ⟨_, rfl⟩
      obtain ⟨sm, hsm⟩ : ∃ sm, Str (K.txt m) = sm := ⟨_, rfl⟩
      have Hm := hid hsm
      have hcur : Ext wr wr := Ext.rfl' _
      obtain ⟨f0, f1, f2, -, -, -⟩ := row_facts3 hrm
      by_cases hj0 : j = 0
      · subst hj0
        rw [Nat.add_zero] at hc3
        have hl0 : lineI m us ad (ws.take 0) = (1, 0, 1) := by rw [List.take_zero]; rfl
        rw [hl0] at hr9
        rw [show (((1 : Int), (0 : Int), (1 : Int)) : Int × Int × Int).1 = 1 from rfl, show (((1 : Int), (0 : Int), (1 : Int)) : Int × Int × Int).2.1 = 0 from rfl, show (((1 : Int), (0 : Int), (1 : Int)) : Int × Int × Int).2.2 = 1 from rfl, txt_one, txt_zero2] at hr9
        have R9 : Hid (Row wr w4.heap.size 38 [.string ⟨#[49]⟩, .string ⟨#[48]⟩, .string ⟨#[49]⟩]) := hid hr9
        have HLN : Hid ([Value.string (Str (K.txt (lineI m us ad (ws.take (0 + 1))).1)), .string (Str (K.txt (lineI m us ad (ws.take (0 + 1))).2.1)), .string (Str (K.txt (lineI m us ad (ws.take (0 + 1))).2.2))] = [.string su, .string sa, .string sm]) := hid (by
          rw [HTK.out, hl0]
          unfold thenL
          rw [hu, ha]
          simp only [Int.mul_one, Int.mul_zero, Int.zero_add, Int.one_mul]
          rw [hsu, hsa, hsm])
        obtain ⟨g0, g1, g2, g3, g4, g5⟩ := row_facts3 R9.out
        have Hu : Hid (Str (K.txt (us.getD r.toNat 0)) = su) := hid (by rw [hu]; exact hsu)
        have Ha : Hid (Str (K.txt (ad.getD r.toNat 0)) = sa) := hid (by rw [ha]; exact hsa)
        clear hu ha hsu hsa hsm hr hLB hlen hdv hfit hrule hl0 hrm hrz hrg hr9 hex
        go_wp2_with fail
        go_region_with (first
          | (go_at_call 150; refine (lineOfStep_s _ m us ad r su sa sm _ (HV.out.ext ?_) hM HRR.out.1 HRR.out.2 (HT.out.ext ?_) Hu Ha Hm).mono ?_; (exact EX.out.step (by first | exact hcur | exact hcur.drew')); (exact EX.out.step (by first | exact hcur | exact hcur.drew')); rintro e w11 ⟨rfl, hx⟩; have hcur := Ext.step hcur (by first | exact hx | exact Ext.undrew hx | exact Ext.step ((Ext.rfl' _).alloc' _) hx | exact Ext.step ((Ext.rfl' _).drew'.alloc' _) hx); obtain ⟨f0, f1, f2, -, -, -⟩ := row_facts3 (RM.out.ext hcur); obtain ⟨g0, g1, g2, g3, g4, g5⟩ := row_facts3 (R9.out.ext hcur))
          | (go_at_call 146; refine (Calls.at_args ?_ (line1_first su sa sm (.pointer (some ⟨w3.heap.size, 0, none⟩)) _)).mono ?_; (with_reducible rfl); rintro e w12 ⟨rfl, hx⟩; have hcur := Ext.step hcur (by first | exact hx | exact Ext.undrew hx | exact Ext.step ((Ext.rfl' _).alloc' _) hx | exact Ext.step ((Ext.rfl' _).drew'.alloc' _) hx); obtain ⟨f0, f1, f2, -, -, -⟩ := row_facts3 (RM.out.ext hcur); obtain ⟨g0, g1, g2, g3, g4, g5⟩ := row_facts3 (R9.out.ext hcur)))
        all_goals
          have hr9 := R9.out.ext hcur
          have HFIN : Hid (∃ j' : Nat, j' ≤ wn ∧ Value.int .i64 ((0 : Int) + 1) = .int .i64 (j' : Int) ∧ Row (((w12.setCell ⟨w4.heap.size, 0, none⟩ (.string su)).setCell ⟨w4.heap.size, 1, none⟩ (.string sa)).setCell ⟨w4.heap.size, 2, none⟩ (.string sm)) w.heap.size 24 [.int .i64 m, .slice A n cc, .slice B n2 d] ∧ Row (((w12.setCell ⟨w4.heap.size, 0, none⟩ (.string su)).setCell ⟨w4.heap.size, 1, none⟩ (.string sa)).setCell ⟨w4.heap.size, 2, none⟩ (.string sm)) (w.heap.size + 1) 38 [.string ⟨#[]⟩, .string ⟨#[]⟩, .string ⟨#[]⟩] ∧ Row (((w12.setCell ⟨w4.heap.size, 0, none⟩ (.string su)).setCell ⟨w4.heap.size, 1, none⟩ (.string sa)).setCell ⟨w4.heap.size, 2, none⟩ (.string sm)) w3.heap.size 193 [.int .i64 0] ∧ Row (((w12.setCell ⟨w4.heap.size, 0, none⟩ (.string su)).setCell ⟨w4.heap.size, 1, none⟩ (.string sa)).setCell ⟨w4.heap.size, 2, none⟩ (.string sm)) w4.heap.size 38 [.string (Str (K.txt (lineI m us ad (ws.take j')).1)), .string (Str (K.txt (lineI m us ad (ws.take j')).2.1)), .string (Str (K.txt (lineI m us ad (ws.take j')).2.2))] ∧ Ext w (((w12.setCell ⟨w4.heap.size, 0, none⟩ (.string su)).setCell ⟨w4.heap.size, 1, none⟩ (.string sa)).setCell ⟨w4.heap.size, 2, none⟩ (.string sm))) := hid (by
            refine ⟨0 + 1, by omega, by simp, (RM.out.ext hcur).set3 (by omega), (RZ.out.ext hcur).set3 (by omega), (RG.out.ext hcur).set3 (by omega), ?_, (EX.out.step hcur).set3 (by omega)⟩
            rw [HLN.out]
            exact hr9.put3)
          clear hr9 hcur
          go_wp2
          go_roundw
          case rel => exact HFIN.out
          case measure => first | (simp [intOf]; done) | (simp [intOf]; omega)
      · obtain ⟨lx, hlx⟩ : ∃ lx, lineI m us ad (ws.take j) = lx := ⟨_, rfl⟩
        rw [hlx] at hr9 hfit hdv
        obtain ⟨x, y, z⟩ := lx
        simp only at hr9 hfit hdv
        have HZ1 : Hid (z ≠ 1) := hid (by rw [hdv]; exact pow_ne_one hM.out.1 j (by omega))
        have hsmall : K.fits u ∧ K.fits a ∧ K.fits m := by
          have h1 := hM.out.1
          have h2 := hM.out.2.1
          have hp : (1000000 : Nat) < K.LIM := by
            have : K.pw 7 ≤ K.pw 2000 := K.pw_mono (by omega)
            have h7 : K.pw 7 = 10000000 := by decide
            unfold K.LIM
            omega
          exact ⟨by show u.natAbs < K.LIM; omega, by show a.natAbs < K.LIM; omega, by show m.natAbs < K.LIM; omega⟩
        have HFIT : Hid (K.fits x ∧ K.fits y ∧ K.fits z ∧ K.fits u ∧ K.fits a ∧ K.fits m ∧ K.fits (x * u) ∧ K.fits (y * u) ∧ K.fits (a * z) ∧ K.fits (y * u + a * z) ∧ K.fits (z * m)) := hid ⟨hfit.1, hfit.2.1, hfit.2.2.1, hsmall.1, hsmall.2.1, hsmall.2.2, hfit.2.2.2⟩
        obtain ⟨sx, hsx⟩ : ∃ sx, Str (K.txt x) = sx := ⟨_, rfl⟩
        obtain ⟨sy, hsy⟩ : ∃ sy, Str (K.txt y) = sy := ⟨_, rfl⟩
        obtain ⟨sz, hszz⟩ : ∃ sz, Str (K.txt z) = sz := ⟨_, rfl⟩
        obtain ⟨sxu, hsxu⟩ : ∃ sxu, Str (K.txt (x * u)) = sxu := ⟨_, rfl⟩
        obtain ⟨syu, hsyu⟩ : ∃ syu, Str (K.txt (y * u)) = syu := ⟨_, rfl⟩
        obtain ⟨saz, hsaz⟩ : ∃ saz, Str (K.txt (a * z)) = saz := ⟨_, rfl⟩
        obtain ⟨ss, hss⟩ : ∃ ss, Str (K.txt (y * u + a * z)) = ss := ⟨_, rfl⟩
        obtain ⟨szm, hszm⟩ : ∃ szm, Str (K.txt (z * m)) = szm := ⟨_, rfl⟩
        rw [hsx, hsy, hszz] at hr9
        have R9 := hid hr9
        have HLN : Hid ([Value.string (Str (K.txt (lineI m us ad (ws.take (j + 1))).1)), .string (Str (K.txt (lineI m us ad (ws.take (j + 1))).2.1)), .string (Str (K.txt (lineI m us ad (ws.take (j + 1))).2.2))] = [.string sxu, .string ss, .string szm]) := hid (by
          rw [HTK.out, hlx]
          unfold thenL
          rw [hu, ha]
          simp only [Int.mul_comm u]
          rw [hsxu, hss, hszm])
        obtain ⟨g0, g1, g2, g3, g4, g5⟩ := row_facts3 hr9
        have Hx := hid hsx
        have Hy := hid hsy
        have Hz := hid hszz
        have Hxu := hid hsxu
        have Hyu := hid hsyu
        have Haz := hid hsaz
        have Hs := hid hss
        have Hzm := hid hszm
        have Hu0 : Hid (Str (K.txt u) = su) := hid hsu
        have Ha0 : Hid (Str (K.txt a) = sa) := hid hsa
        subst hu ha
        have Hu := Hu0
        have Ha := Ha0
        clear hsu hsa hsm hr hLB hlen hdv hfit hrule hlx hrm hrz hrg hr9 hex hsmall hsx hsy hszz hsxu hsyu hsaz hss hszm Hu0 Ha0
        go_wp2_with fail
        go_region_with (first
          | (go_at_call 150; refine (lineOfStep_s _ m us ad r su sa sm _ (HV.out.ext ?_) hM HRR.out.1 HRR.out.2 (HT.out.ext ?_) Hu Ha Hm).mono ?_; (exact EX.out.step (by first | exact hcur | exact hcur.drew')); (exact EX.out.step (by first | exact hcur | exact hcur.drew')); rintro e w11 ⟨rfl, hx⟩; have hcur := Ext.step hcur (by first | exact hx | exact Ext.undrew hx | exact Ext.step ((Ext.rfl' _).alloc' _) hx | exact Ext.step ((Ext.rfl' _).drew'.alloc' _) hx); obtain ⟨f0, f1, f2, -, -, -⟩ := row_facts3 (RM.out.ext hcur); obtain ⟨g0, g1, g2, g3, g4, g5⟩ := row_facts3 (R9.out.ext hcur))
          | (go_at_call 146; refine (Calls.at_args ?_ (line1_next w3.heap.size x y z _ _ m sx sy sz su sa sm sxu syu saz ss szm _ (RG.out.ext ?_) (HT.out.ext ?_) HZ1.out Hx Hy Hz Hu Ha Hm Hxu Hyu Haz Hs Hzm HFIT)).mono ?_; (with_reducible rfl); (first | exact hcur | exact hcur.drew' | exact hcur.alloc' _ | exact hcur.drew'.alloc' _ | exact (hcur.alloc' _).drew'); (exact EX.out.step (by first | exact hcur | exact hcur.drew')); rintro e w12 ⟨rfl, hx⟩; have hcur := Ext.step hcur (by first | exact hx | exact Ext.undrew hx | exact Ext.step ((Ext.rfl' _).alloc' _) hx | exact Ext.step ((Ext.rfl' _).drew'.alloc' _) hx); obtain ⟨f0, f1, f2, -, -, -⟩ := row_facts3 (RM.out.ext hcur); obtain ⟨g0, g1, g2, g3, g4, g5⟩ := row_facts3 (R9.out.ext hcur)))
        all_goals
          have hr9 := R9.out.ext hcur
          have HFIN : Hid (∃ j' : Nat, j' ≤ wn ∧ Value.int .i64 ((j : Int) + 1) = .int .i64 (j' : Int) ∧ Row (((w12.setCell ⟨w4.heap.size, 0, none⟩ (.string sxu)).setCell ⟨w4.heap.size, 1, none⟩ (.string ss)).setCell ⟨w4.heap.size, 2, none⟩ (.string szm)) w.heap.size 24 [.int .i64 m, .slice A n cc, .slice B n2 d] ∧ Row (((w12.setCell ⟨w4.heap.size, 0, none⟩ (.string sxu)).setCell ⟨w4.heap.size, 1, none⟩ (.string ss)).setCell ⟨w4.heap.size, 2, none⟩ (.string szm)) (w.heap.size + 1) 38 [.string ⟨#[]⟩, .string ⟨#[]⟩, .string ⟨#[]⟩] ∧ Row (((w12.setCell ⟨w4.heap.size, 0, none⟩ (.string sxu)).setCell ⟨w4.heap.size, 1, none⟩ (.string ss)).setCell ⟨w4.heap.size, 2, none⟩ (.string szm)) w3.heap.size 193 [.int .i64 0] ∧ Row (((w12.setCell ⟨w4.heap.size, 0, none⟩ (.string sxu)).setCell ⟨w4.heap.size, 1, none⟩ (.string ss)).setCell ⟨w4.heap.size, 2, none⟩ (.string szm)) w4.heap.size 38 [.string (Str (K.txt (lineI m us ad (ws.take j')).1)), .string (Str (K.txt (lineI m us ad (ws.take j')).2.1)), .string (Str (K.txt (lineI m us ad (ws.take j')).2.2))] ∧ Ext w (((w12.setCell ⟨w4.heap.size, 0, none⟩ (.string sxu)).setCell ⟨w4.heap.size, 1, none⟩ (.string ss)).setCell ⟨w4.heap.size, 2, none⟩ (.string szm))) := hid (by
            refine ⟨j + 1, by omega, by simp, (RM.out.ext hcur).set3 (by omega), (RZ.out.ext hcur).set3 (by omega), (RG.out.ext hcur).set3 (by omega), ?_, (EX.out.step hcur).set3 (by omega)⟩
            rw [HLN.out]
            exact hr9.put3)
          clear hr9 hcur
          go_wp2
          go_roundw
          case rel => exact HFIN.out
          case measure => first | (simp [intOf]; done) | (simp [intOf]; omega)
    · obtain rfl : j = wn := by omega
      obtain ⟨c0, c0f⟩ : wr.cell? ⟨w3.heap.size, 0, none⟩ = some (.int .i64 0) ∧ True := ⟨hrg.cell 0, trivial⟩
      have htk : ws.take j = ws := List.take_of_length_le (by rw [HL.out]; exact Nat.le_refl _)
      rw [htk] at hr9
      obtain ⟨g0, g1, g2, g3, g4, g5⟩ := row_facts3 hr9
      obtain ⟨z0, z1, z2, z3, z4, z5⟩ := row_facts3 hrz
      have HF := hid (hex.set3 (H := w.heap.size + 1) (a := .string (Str (K.txt (lineI m us ad ws).1))) (b := .string (Str (K.txt (lineI m us ad ws).2.1))) (c := .string (Str (K.txt (lineI m us ad ws).2.2))) (by omega))
      clear hrm hrz hrg hr9 hex htk
      go_wp2
      refine bodyPost_ret (v := .tuple #[lineV (lineI m us ad ws), .int .i64 0]) (by simp [results, Tryz.results118, go_sem, lineV, z0, z1, z2]) rfl ⟨rfl, HF.out⟩
end Go.Proofs.YtleccblkafcidaaGreatDoor
/- numbers whose difference is a multiple of a power of the modulus: plain mathematics -/
namespace Go.Proofs.YtleccblkafcidaaGreatDoor
/-- the number after some steps, whatever its size -/
def orbN (m : Int) (us ad : List Int) : Nat → Int → Int
  | 0, x => x
  | k + 1, x => stepI m us ad (orbN m us ad k x)
theorem orbN_cons (m : Int) (us ad : List Int) : ∀ (k : Nat) (x : Int), orbN m us ad (k + 1) x = orbN m us ad k (stepI m us ad x)
  | 0, x => rfl
  | k + 1, x => by
    rw [orbN, orbN_cons m us ad k x]
    rfl
/-- the factor of the rest of a number -/
def mulAt (m : Int) (us : List Int) (x : Int) : Int := us.getD (rOf m x) 0
/-- the product of the factors of the first rests -/
def growN (m : Int) (us ad : List Int) : Nat → Int → Int
  | 0, _ => 1
  | k + 1, x => growN m us ad k x * mulAt m us (orbN m us ad k x)
theorem seq_orb (m : Int) (us ad : List Int) (k : Nat) : ∀ (x : Int), none ∉ seqO m us ad k x → ∀ j, j < k → (seqO m us ad k x)[j]? = some (some (orbN m us ad (j + 1) x)) := by
  induction k with
  | zero => intro x _ j hj; omega
  | succ k ih =>
    intro x hn j hj
    rw [seqO] at hn ⊢
    by_cases hf : fitsB (stepI m us ad x) = true
    · rw [if_pos hf] at hn ⊢
      cases j with
      | zero => rfl
      | succ j =>
        rw [List.getElem?_cons_succ, ih _ (fun h => hn (List.mem_cons_of_mem _ h)) j (by omega), orbN_cons m us ad (j + 1) x]
    · rw [if_neg hf] at hn
      exact absurd (List.mem_singleton.2 rfl) hn
theorem seq_orb0 {m : Int} {us ad : List Int} {k : Nat} {x : Int} (hn : none ∉ seqO m us ad k x) (j : Nat) (hj : j < k + 1) : (some x :: seqO m us ad k x)[j]? = some (some (orbN m us ad j x)) := by
  cases j with
  | zero => rfl
  | succ j => rw [List.getElem?_cons_succ]; exact seq_orb m us ad k x hn j (by omega)
theorem rOf_shift {m : Int} (x t : Int) : rOf m (x + m * t) = rOf m x := by
  unfold rOf; rw [Int.add_mul_emod_self_left]
theorem stepI_shift {m : Int} {us ad : List Int} (hm : 0 < m) (x t : Int) : stepI m us ad (x + m * t) = stepI m us ad x + mulAt m us x * t := by
  unfold stepI mulAt
  rw [rOf_shift]
  generalize us.getD (rOf m x) 0 = u
  generalize ad.getD (rOf m x) 0 = a
  rw [show u * (x + m * t) + a = (u * x + a) + m * (u * t) by rw [Int.mul_add, Int.mul_left_comm]; omega, Int.add_mul_ediv_left _ _ (by omega)]
theorem alike_orb {m : Int} {us ad : List Int} (hm : 0 < m) (k : Nat) (x D : Int) : ∀ j, j ≤ k → orbN m us ad j (x + D * m ^ k) = orbN m us ad j x + D * growN m us ad j x * m ^ (k - j)
  | 0, _ => by simp [orbN, growN]
  | j + 1, h => by
    have ih := @alike_orb m us ad hm k x D j (by omega)
    have e : k - j = (k - (j + 1)) + 1 := by omega
    rw [orbN, ih, e, Int.pow_succ, orbN, growN]
    generalize m ^ (k - (j + 1)) = q
    generalize growN m us ad j x = g
    generalize orbN m us ad j x = y
    rw [show D * g * (q * m) = m * (D * g * q) by rw [← Int.mul_assoc, Int.mul_comm], stepI_shift hm]
    rw [show D * (g * mulAt m us y) * q = mulAt m us y * (D * g * q) by
      rw [← Int.mul_assoc, Int.mul_comm (D * g) (mulAt m us y), Int.mul_assoc]]
theorem alike_rest {m : Int} {us ad : List Int} (hm : 0 < m) (k : Nat) (x D : Int) (j : Nat) (h : j < k) : orbN m us ad j (x + D * m ^ k) % m = orbN m us ad j x % m := by
  rw [alike_orb hm k x D j (by omega), show k - j = (k - (j + 1)) + 1 by omega, Int.pow_succ]
  generalize m ^ (k - (j + 1)) = q
  rw [show D * growN m us ad j x * (q * m) = m * (D * growN m us ad j x * q) by rw [← Int.mul_assoc, Int.mul_comm], Int.add_mul_emod_self_left]
theorem alike_end {m : Int} {us ad : List Int} (hm : 0 < m) (k : Nat) (x D : Int) : orbN m us ad k (x + D * m ^ k) - orbN m us ad k x = D * growN m us ad k x := by
  rw [alike_orb hm k x D k (Nat.le_refl _), Nat.sub_self, Int.pow_zero, Int.mul_one]
  omega
theorem thousand (k : Nat) : 1000 ^ (3 * k) = TOP k := by
  unfold TOP
  rw [Nat.pow_mul]
theorem thousand_le (k c : Nat) (h : k ≤ 3 * c) : 1000 ^ k ≤ TOP c := by
  rw [← thousand]; exact Nat.pow_le_pow_right (by omega) h
/-- bounds: a number times a thousand as often as there are steps -/
theorem pow_top {D c : Int} (hD : K.fits D) (hc : c.natAbs ≤ 1000) (k : Nat) (hk : k ≤ 1002) : (D * c ^ k).natAbs ≤ BIG := by
  have h1 := fits_top hD
  have h2 : (c ^ k).natAbs ≤ 1000 ^ k := by rw [Int.natAbs_pow]; exact Nat.pow_le_pow_left hc k
  have h3 : 1000 ^ k ≤ TOP 334 := thousand_le k 334 (by omega)
  have h5 : (c ^ k).natAbs ≤ TOP 334 := Nat.le_trans h2 h3
  have h6 : (D * c ^ k).natAbs < TOP (223 + 334) := by
    rw [Int.natAbs_mul, TOP_add]
    calc D.natAbs * (c ^ k).natAbs ≤ D.natAbs * TOP 334 := Nat.mul_le_mul_left _ h5
      _ < TOP 223 * TOP 334 := Nat.mul_lt_mul_of_pos_right h1 (TOP_pos _)
  exact le_big h6 (by omega)
theorem grow_le {m : Int} {us ad : List Int} (hM : mapP m us ad) (x : Int) : ∀ k, (growN m us ad k x).natAbs ≤ 1000 ^ k
  | 0 => by simp [growN]
  | k + 1 => by
    have ih := grow_le hM x k
    have h := rule_at hM (orbN m us ad k x)
    have h2 : (mulAt m us (orbN m us ad k x)).natAbs ≤ 1000 := by
      unfold mulAt
      have h1 := h.1
      have h2 := h.2.1
      omega
    rw [growN, Int.natAbs_mul, Nat.pow_succ]
    exact Nat.mul_le_mul ih h2
theorem grow_top {m : Int} {us ad : List Int} (hM : mapP m us ad) {D : Int} (hD : K.fits D) (x : Int) (k : Nat) (hk : k ≤ 1002) : (D * growN m us ad k x).natAbs ≤ BIG := by
  have h1 := fits_top hD
  have h2 := grow_le hM x k
  have h3 : 1000 ^ k ≤ TOP 334 := thousand_le k 334 (by omega)
  have h5 : (growN m us ad k x).natAbs ≤ TOP 334 := Nat.le_trans h2 h3
  have h6 : (D * growN m us ad k x).natAbs < TOP (223 + 334) := by
    rw [Int.natAbs_mul, TOP_add]
    calc D.natAbs * (growN m us ad k x).natAbs ≤ D.natAbs * TOP 334 := Nat.mul_le_mul_left _ h5
      _ < TOP 223 * TOP 334 := Nat.mul_lt_mul_of_pos_right h1 (TOP_pos _)
  exact le_big h6 (by omega)
end Go.Proofs.YtleccblkafcidaaGreatDoor
/- words and rests: plain mathematics -/
namespace Go.Proofs.YtleccblkafcidaaGreatDoor
/-- the word of a number begins so -/
def IsWord (m : Int) (us ad : List Int) (ws : List Int) (x : Int) : Prop := ∀ i, i < ws.length → orbN m us ad i x % m = ws.getD i 0
theorem IsWord.nil (m : Int) (us ad : List Int) (x : Int) : IsWord m us ad [] x := fun i hi => absurd hi (by simp)
theorem getD_take {ws : List Int} {j i : Nat} (h : i < j) : (ws.take j).getD i 0 = ws.getD i 0 := by
  rw [List.getD_eq_getElem?_getD, List.getElem?_take_of_lt h, List.getD_eq_getElem?_getD]
theorem growN_line {m : Int} {us ad : List Int} {x : Int} : ∀ (k : Nat) (ws : List Int), ws.length = k → IsWord m us ad ws x → growN m us ad k x = (lineI m us ad ws).1
  | 0, ws, h, _ => by rw [List.eq_nil_of_length_eq_zero h]; rfl
  | k + 1, ws, h, hw => by
    rcases List.eq_nil_or_concat ws with rfl | ⟨p, r, rfl⟩
    · simp at h
    · rw [List.concat_eq_append] at *
      have hp : p.length = k := by simpa using h
      have ih := growN_line k p hp (fun i hi => by
        have := hw i (by simp; omega)
        rwa [List.getD_eq_getElem?_getD, List.getElem?_append_left hi, ← List.getD_eq_getElem?_getD] at this)
      have hr := hw k (by simp; omega)
      rw [List.getD_eq_getElem?_getD, List.getElem?_append_right (by omega), hp, Nat.sub_self] at hr
      have hr2 : orbN m us ad k x % m = r := hr
      rw [growN, ih, lineI_snoc, mulAt, rOf, hr2]
      show _ = us.getD r.toNat 0 * (lineI m us ad p).1
      rw [Int.mul_comm]
/-- one rest more: a number of the class, t places on -/
theorem IsWord.next {m : Int} {us ad : List Int} {ws : List Int} {x t r : Int} (hm : 0 < m) (h : IsWord m us ad ws x) (hr : (orbN m us ad ws.length x + t * (lineI m us ad ws).1) % m = r) :
    IsWord m us ad (ws ++ [r]) (x + t * m ^ ws.length) ∧ orbN m us ad ws.length (x + t * m ^ ws.length) = orbN m us ad ws.length x + t * (lineI m us ad ws).1 := by
  have h2 : orbN m us ad ws.length (x + t * m ^ ws.length) = orbN m us ad ws.length x + t * (lineI m us ad ws).1 := by
    rw [alike_orb hm ws.length x t ws.length (Nat.le_refl _), Nat.sub_self, Int.pow_zero, Int.mul_one, growN_line ws.length ws rfl h]
  refine ⟨fun i hi => ?_, h2⟩
  by_cases hi2 : i < ws.length
  · rw [alike_rest hm ws.length x t i hi2, h i hi2, List.getD_eq_getElem?_getD, List.getD_eq_getElem?_getD, List.getElem?_append_left hi2]
  · obtain rfl : i = ws.length := by simp at hi; omega
    rw [h2, hr, List.getD_eq_getElem?_getD, List.getElem?_append_right (by omega), Nat.sub_self]; rfl
def solB : Bool := (List.range 13).all fun m => (List.range m).all fun a => (List.range m).all fun h => (List.range m).all fun r => decide (m < 2) || !(Nat.gcd a m == 1) || (List.range m).any fun t => (h + t * a) % m == r
theorem solB_ok : solB = true := by decide +kernel
theorem sol_nat {m a h r : Nat} (hm : 2 ≤ m) (hm2 : m ≤ 12) (ha : a < m) (hh : h < m) (hr : r < m) (hg : Nat.gcd a m = 1) : ∃ t, t < m ∧ (h + t * a) % m = r := by
  have h0 := solB_ok
  unfold solB at h0
  have h1 := List.all_eq_true.1 h0 m (List.mem_range.2 (by omega))
  have h2 := List.all_eq_true.1 h1 a (List.mem_range.2 ha)
  have h3 := List.all_eq_true.1 h2 h (List.mem_range.2 hh)
  have h4 := List.all_eq_true.1 h3 r (List.mem_range.2 hr)
  rw [Bool.or_eq_true, Bool.or_eq_true] at h4
  rcases h4 with (h4 | h4) | h4
  · have := of_decide_eq_true h4; omega
  · rw [hg] at h4; cases h4
  · obtain ⟨t, ht, he⟩ := List.any_eq_true.1 h4
    exact ⟨t, List.mem_range.1 ht, by simpa using he⟩
/-- a rest that is sought is found -/
theorem sol_int {m a x r : Int} (hm : 2 ≤ m) (hm2 : m ≤ 12) (ha : 0 ≤ a) (hg : Nat.gcd a.natAbs m.natAbs = 1) (hr : 0 ≤ r) (hr2 : r < m) : ∃ t : Nat, (t : Int) < m ∧ (x + (t : Int) * a) % m = r := by
  obtain ⟨d, rfl⟩ : ∃ d : Nat, m = (d : Int) := ⟨m.toNat, by omega⟩
  obtain ⟨q, rfl⟩ : ∃ q : Nat, a = (q : Int) := ⟨a.toNat, by omega⟩
  obtain ⟨s, rfl⟩ : ∃ s : Nat, r = (s : Int) := ⟨r.toNat, by omega⟩
  have hx := Int.emod_nonneg x (show (d : Int) ≠ 0 by omega)
  have hx2 := Int.emod_lt_of_pos x (show (0 : Int) < (d : Int) by omega)
  obtain ⟨h, hh⟩ : ∃ h : Nat, x % (d : Int) = (h : Int) := ⟨(x % (d : Int)).toNat, by omega⟩
  have hg2 : Nat.gcd (q % d) d = 1 := by
    rw [← Nat.gcd_rec d q, Nat.gcd_comm]; simpa using hg
  obtain ⟨t, ht, he⟩ := sol_nat (m := d) (a := q % d) (h := h) (r := s) (by omega) (by omega) (Nat.mod_lt _ (by omega)) (by omega) (by omega) hg2
  refine ⟨t, by omega, ?_⟩
  rw [Int.add_emod, hh, Int.mul_emod, ← Int.natCast_emod, ← Int.natCast_emod, ← Int.natCast_mul, ← Int.natCast_emod, ← Int.natCast_add, ← Int.natCast_emod]
  congr 1
  rw [← he, Nat.add_mod h (t * (q % d)), Nat.mul_mod t (q % d), Nat.mod_mod, Nat.add_mod h]
  simp [Nat.mul_mod]
/-- the factors of a word of a regular map -/
theorem line_cop {m : Int} {us ad : List Int} (hM : mapP m us ad) (hR : regB m us = true) (ws : List Int) (hw : ∀ r ∈ ws, 0 ≤ r ∧ r < m) : Nat.gcd (lineI m us ad ws).1.natAbs m.natAbs = 1 ∧ 1 ≤ (lineI m us ad ws).1 := by
  obtain ⟨k, hk⟩ : ∃ k, ws.length = k := ⟨_, rfl⟩
  induction k generalizing ws with
  | zero => rw [List.eq_nil_of_length_eq_zero hk]; exact ⟨Nat.gcd_one_left _, Int.le_refl _⟩
  | succ k ih =>
    rcases List.eq_nil_or_concat ws with rfl | ⟨p, r, rfl⟩
    · simp at hk
    · rw [List.concat_eq_append] at *
      have hr := hw r (by simp)
      have ihp := ih p (fun x hx => hw x (by simp [hx])) (by simpa using hk)
      obtain ⟨u1, u2, -, -, l1, -⟩ := rule_of hM hr.1 hr.2
      have hu : Nat.gcd (us.getD r.toNat 0).natAbs m.natAbs = 1 := by
        have h1 := List.all_eq_true.1 hR (us.getD r.toNat 0) (by rw [List.getD_eq_getElem?_getD, List.getElem?_eq_getElem l1]; exact List.getElem_mem l1)
        have h2 := of_decide_eq_true h1
        have h3 := Nat.gcd_pos_of_pos_left m.natAbs (show 0 < (us.getD r.toNat 0).natAbs by omega)
        omega
      rw [lineI_snoc]
      show Nat.gcd (us.getD r.toNat 0 * (lineI m us ad p).1).natAbs m.natAbs = 1 ∧ 1 ≤ us.getD r.toNat 0 * (lineI m us ad p).1
      refine ⟨?_, ?_⟩
      · rw [Int.natAbs_mul]
        exact Nat.Coprime.mul_left hu ihp.1
      · have : 1 * 1 ≤ us.getD r.toNat 0 * (lineI m us ad p).1 := Int.mul_le_mul u1 ihp.2 (by omega) (by omega)
        omega
/-- the numbers on the way are small -/
def ClassB (k : Nat) (x : Int) : Prop := x.natAbs ≤ k * 2000000 * 1000 ^ k
theorem stepI_le {m x : Int} {us ad : List Int} (hM : mapP m us ad) : (stepI m us ad x).natAbs ≤ 999 * x.natAbs + 999999 := by
  have hu := rule_at hM x
  have hm := hM.1
  unfold stepI
  generalize us.getD (rOf m x) 0 = u at *
  generalize ad.getD (rOf m x) 0 = a at *
  have h1 : (u * x).natAbs ≤ 999 * x.natAbs := by rw [Int.natAbs_mul]; exact Nat.mul_le_mul_right _ (by have h1 := hu.1; have h2 := hu.2.1; omega)
  have h2 : (u * x + a).natAbs ≤ (u * x).natAbs + a.natAbs := Int.natAbs_add_le _ _
  have h3 : a.natAbs ≤ 999999 := by have h1 := hu.2.2.1; have h2 := hu.2.2.2.1; omega
  have h4 : ((u * x + a) / m).natAbs ≤ (u * x + a).natAbs := by
    generalize u * x + a = t
    obtain ⟨d, rfl⟩ : ∃ d : Nat, m = (d : Int) := ⟨m.toNat, by omega⟩
    rcases Int.lt_or_le t 0 with h0 | h0
    · have h2 : t / (d : Int) < 0 := Int.ediv_lt_of_lt_mul (by omega) (by omega)
      have h4 := Int.lt_ediv_add_one_mul_self t (show (0 : Int) < (d : Int) by omega)
      have h5 : (t / (d : Int) + 1) * (d : Int) ≤ (t / (d : Int) + 1) * 1 := Int.mul_le_mul_of_nonpos_left (by omega) (by omega)
      omega
    · have h1 : 0 ≤ t / (d : Int) := Int.ediv_nonneg h0 (by omega)
      have h2 : t / (d : Int) ≤ t := Int.ediv_le_self _ h0
      omega
  omega
theorem ClassB.next {m : Int} {us ad : List Int} (hM : mapP m us ad) {k : Nat} {x t M : Int} (h : ClassB k x) (ht : 0 ≤ t) (ht2 : t ≤ 11) (hMu : M.natAbs ≤ 1000 ^ k) :
    (x + t * M).natAbs ≤ (k * 2000000 + 11) * 1000 ^ k ∧ ClassB (k + 1) (stepI m us ad (x + t * M)) := by
  unfold ClassB at *
  have h1 : (t * M).natAbs ≤ 11 * 1000 ^ k := by rw [Int.natAbs_mul]; exact Nat.mul_le_mul (by omega) hMu
  have h2 : (x + t * M).natAbs ≤ x.natAbs + (t * M).natAbs := Int.natAbs_add_le _ _
  have h3 := stepI_le (x := x + t * M) hM
  have hp : 0 < 1000 ^ k := Nat.pow_pos (by omega)
  rw [Nat.pow_succ]
  generalize 1000 ^ k = P at *
  have e1 : (k * 2000000 + 11) * P = k * 2000000 * P + 11 * P := Nat.add_mul _ _ _
  have e2 : (k + 1) * 2000000 * (P * 1000) = (k * 2000000 * P + 2000000 * P) * 1000 := by
    rw [← Nat.mul_assoc, Nat.add_mul k 1, Nat.one_mul, Nat.add_mul (k * 2000000)]
  rw [e1, e2]
  obtain ⟨R, hR⟩ : ∃ R, k * 2000000 * P = R := ⟨_, rfl⟩
  rw [hR] at h ⊢
  clear e1 e2 hR
  exact ⟨by omega, by omega⟩
end Go.Proofs.YtleccblkafcidaaGreatDoor
/- the step law package's helpers: same, awake -/
namespace Go.Proofs.YtleccblkafcidaaGreatDoor
open Go.RowKit
abbrev Ss (l : List ByteArray) : List Value := l.map fun s => Value.string s
theorem Rd.atS {w : World} {A : Option Addr} {l : List ByteArray} (h : Rd w A (Ss l)) {k : Nat} (hk : k < l.length) :
    ∃ b o s, A = some ⟨b, o, none⟩ ∧ l[k]? = some s ∧ w.cell? ⟨b, o + k, none⟩ = some (.string s) := by
  rcases h with h | ⟨b, o, ha, hb, hc⟩
  · rw [List.map_eq_nil_iff] at h; subst h; cases hk
  · exact ⟨b, o, l[k], ha, List.getElem?_eq_getElem hk, hc k _ (by rw [List.getElem?_map, List.getElem?_eq_getElem hk]; rfl)⟩
theorem coll_ok : mapP 2 [1, 3] [0, 1] := (mapB_iff _ _ _).1 (by decide +kernel)
theorem seven_ok : K.validL [55] = true := by decide +kernel
theorem seven_num : K.numL [55] = 7 := by decide +kernel
def Orb7 : List ByteArray := [⟨#[55]⟩, ⟨#[49, 49]⟩, ⟨#[49, 55]⟩, ⟨#[50, 54]⟩, ⟨#[49, 51]⟩, ⟨#[50, 48]⟩]
theorem seq7 : seqO 2 [1, 3] [0, 1] 5 7 = [some 11, some 17, some 26, some 13, some 20] := by decide +kernel
theorem strO_lit (l : List UInt8) (n : Int) (h : K.validL l = true) (e : K.numL l = n) : strO (some n) = Str l := by
  show Str (K.txt n) = _
  rw [K.txt_of_lit l n h e]
theorem orb7_eq : Txs (some 7 :: [some 11, some 17, some 26, some 13, some 20]) = Ss Orb7 := by
  simp only [Txs, List.map_cons, List.map_nil, strO_lit [55] 7 (by decide +kernel) (by decide +kernel), strO_lit [49, 49] 11 (by decide +kernel) (by decide +kernel), strO_lit [49, 55] 17 (by decide +kernel) (by decide +kernel), strO_lit [50, 54] 26 (by decide +kernel) (by decide +kernel), strO_lit [49, 51] 13 (by decide +kernel) (by decide +kernel), strO_lit [50, 48] 20 (by decide +kernel) (by decide +kernel)]
  rfl
theorem orbit7 (v : Value) (w : World) (hv : MapV w v 2 [1, 3] [0, 1]) (ht : Tab w) :
    Calls Tryz.prog 128 #[v, .string ⟨#[55]⟩, .int .i64 5] w (fun e w' => ∃ A c, e = .returned (.tuple #[.slice A 6 c, .int .i64 0]) ∧ Rd w' A (Ss Orb7) ∧ Ext w w') := by
  refine (orbit_ok v 2 [1, 3] [0, 1] [55] 5 w hv (hid coll_ok) (hid seven_ok) (by omega) ht).mono ?_
  rintro e w' ⟨h1, -, h3⟩
  rw [seven_num, seq7] at h1
  obtain ⟨A, k, c, rfl, hk, -, hr⟩ := h1 (by simp)
  rw [orb7_eq] at hr
  exact ⟨A, c, by rw [hk]; rfl, hr, h3⟩
theorem seq_step {m : Int} {us ad : List Int} {k : Nat} {x y : Int} (h : stepI m us ad x = y) (hf : fitsB y = true) : seqO m us ad (k + 1) x = some y :: seqO m us ad k y := by
  rw [seqO, h, if_pos hf]
theorem fall7 : fallL 7 0 (seqO 2 [1, 3] [0, 1] 100 7) = (7, Str [53], 0) := by
  rw [show (100 : Nat) = 93 + 1 + 1 + 1 + 1 + 1 + 1 + 1 from rfl, seq_step (y := 11) (by decide +kernel) (by decide +kernel), seq_step (y := 17) (by decide +kernel) (by decide +kernel), seq_step (y := 26) (by decide +kernel) (by decide +kernel),
    seq_step (y := 13) (by decide +kernel) (by decide +kernel), seq_step (y := 20) (by decide +kernel) (by decide +kernel), seq_step (y := 10) (by decide +kernel) (by decide +kernel), seq_step (y := 5) (by decide +kernel) (by decide +kernel)]
  rw [fallL, if_neg (by decide), fallL, if_neg (by decide), fallL, if_neg (by decide), fallL, if_neg (by decide), fallL, if_neg (by decide), fallL, if_neg (by decide), fallL, if_pos (by decide), K.txt_of_lit [53] 5 (by decide +kernel) (by decide +kernel)]
  rfl
end Go.Proofs.YtleccblkafcidaaGreatDoor
/- the reference's Valid, of a map -/
namespace Go.Proofs.YtleccblkafcidaaGreatDoor
open Go.RowKit
set_option maxRecDepth 100000 in
set_option maxHeartbeats 1600000 in
theorem refvalid_any (v : Value) (m : Int) (us ad : List Int) (w : World) (hv : MapV w v m us ad) {b : Bool} (hb : Hid (mapB m us ad = b)) :
    Calls Tryz.prog 17 #[v] w (fun e w' => e = .returned (.bool b) ∧ Ext w w') := by
  obtain ⟨A, k, c, B, l, d, rfl, hk, hkc, hl, hld, ra, rb, bk, bl⟩ := hv
  have hno : ∀ (_ : ¬ mapP m us ad), Hid (b = false) := fun h => hid (by
    rw [← hb.out]
    cases hB : mapB m us ad with
    | false => rfl
    | true => exact absurd ((mapB_iff m us ad).1 hB) h)
  have hbk : k ≤ 9223372036854775807 := by omega
  have hbl : l ≤ 9223372036854775807 := by omega
  have hx : Ext w (w.alloc (.cells #[.int .i64 m, .slice A k c, .slice B l d] 24)) := (Ext.rfl' w).alloc' _
  have hk3 : ∀ w', Ext (w.alloc (.cells #[.int .i64 m, .slice A k c, .slice B l d] 24)) w' → _ := fun w' e => three_facts e rfl
  by_cases c1 : m < 2
  · have HF := hno (fun h => by have := h.1; omega)
    have HX := hid hx
    clear hno hb hk hl ra rb hx hk3
    go_enter Tryz.func17, Tryz.ntmps17
    go_wp2
    go_ret
    exact ⟨by rw [HF.out]; rfl, HX.out⟩
  · by_cases c2 : 12 < m
    · have HF := hno (fun h => by have := h.2.1; omega)
      have HX := hid hx
      clear hno hb hk hl ra rb hx hk3
      go_enter Tryz.func17, Tryz.ntmps17
      go_wp2
      go_ret
      exact ⟨by rw [HF.out]; rfl, HX.out⟩
    · by_cases c3 : (k : Int) = m
      · by_cases c4 : (l : Int) = m
        · subst c3
          obtain rfl : l = k := by omega
          have HNO := hid hno
          have HK := hid hk
          have HL := hid hl
          have HX := hid hx
          have HK3 := hid hk3
          have HRA := hid ra
          have HRB := hid rb
          have k12 : l ≤ 12 := by omega
          have k2 : 2 ≤ l := by omega
          obtain ⟨f0, f1, f2, -⟩ := hk3 _ (Ext.rfl' _)
          obtain ⟨W1, hW1⟩ : ∃ W1, w.alloc (.cells #[.int .i64 (l : Int), .slice A l c, .slice B l d] 24) = W1 := ⟨_, rfl⟩
          rw [hW1] at HX HK3 f0 f1 f2
          have HW1 := hid hW1
          clear hno hk hl hx hk3 hW1 ra rb c4 hbk hbl c1 c2
          go_enter Tryz.func17, Tryz.ntmps17
          go_upto_region 1 with fail
          rw [HW1.out]
          go_wp2_with fail
          clear f0 f1 f2
          go_loopw [3] (fun iz wr => ∃ j : Nat, j ≤ l ∧ iz = .int .i64 (j : Int) ∧ Hid (∀ r : Nat, r < j → ruleP (l : Int) r (us.getD r 0) (ad.getD r 0)) ∧ Ext W1 wr) (fun iz _ => l - (intOf iz).toNat)
          case atStart => exact ⟨0, by omega, rfl, hid (fun r h => absurd h (by omega)), Ext.rfl' _⟩
          case round =>
            obtain ⟨j, hj, rfl, HR, hex⟩ := hrel
            obtain ⟨f0, f1, f2, -⟩ := HK3.out _ hex
            by_cases hlt : j < l
            · obtain ⟨ba, oa, eA, hba, hca⟩ := ((HRA.out.ext HX.out).ext hex).atI (k := j) (by rw [HK.out]; exact hlt)
              obtain ⟨bb, ob, eB, hbb, hcb⟩ := ((HRB.out.ext HX.out).ext hex).atI (k := j) (by rw [HL.out]; exact hlt)
              subst eA eB
              obtain ⟨u, hu⟩ : ∃ u, us.getD j 0 = u := ⟨_, rfl⟩
              obtain ⟨a, ha⟩ : ∃ a, ad.getD j 0 = a := ⟨_, rfl⟩
              rw [hu] at hca
              rw [ha] at hcb
              have HU := hid hu
              have HA := hid ha
              have hnb : ¬ ruleP (l : Int) j u a → Hid (b = false) := fun hr => HNO.out (fun h => hr (by have := h.2.2.2.2 j (by rw [HK.out]; exact hlt); rwa [HU.out, HA.out] at this))
              have HNB := hid hnb
              have HXE := hid (HX.out.step hex)
              have hj0 : (0 : Int) ≤ (j : Int) := by omega
              have hjl : (j : Int) < (l : Int) := by omega
              clear hu ha hba hbb hnb
              by_cases d1 : u < 1
              · have HF := HNB.out (fun h => by unfold ruleP at h; omega)
                have ed1 : decide (u < 1) = true := decide_eq_true d1
                go_wp2_with fail
                go_quiet (fail)
                have HY := hid (HXE.out.drewN nq)
                go_wp2
                go_ret
                exact ⟨by rw [HF.out]; rfl, HY.out⟩
              · have ed1 : decide (u < 1) = false := decide_eq_false d1
                by_cases d2 : 999 < u
                · have HF := HNB.out (fun h => by unfold ruleP at h; omega)
                  have ed2 : decide (999 < u) = true := decide_eq_true d2
                  go_wp2_with fail
                  go_quiet (fail)
                  have HY := hid (HXE.out.drewN nq)
                  go_wp2
                  go_ret
                  exact ⟨by rw [HF.out]; rfl, HY.out⟩
                · have ed2 : decide (999 < u) = false := decide_eq_false d2
                  by_cases d3 : a < -999999
                  · have HF := HNB.out (fun h => by unfold ruleP at h; omega)
                    have ed3 : decide (a < -999999) = true := decide_eq_true d3
                    go_wp2_with fail
                    go_quiet (fail)
                    have HY := hid (HXE.out.drewN nq)
                    go_wp2
                    go_ret
                    exact ⟨by rw [HF.out]; rfl, HY.out⟩
                  · have ed3 : decide (a < -999999) = false := decide_eq_false d3
                    by_cases d4 : 999999 < a
                    · have HF := HNB.out (fun h => by unfold ruleP at h; omega)
                      have ed4 : decide (999999 < a) = true := decide_eq_true d4
                      go_wp2_with fail
                      go_quiet (fail)
                      have HY := hid (HXE.out.drewN nq)
                      go_wp2
                      go_ret
                      exact ⟨by rw [HF.out]; rfl, HY.out⟩
                    · have ed4 : decide (999999 < a) = false := decide_eq_false d4
                      have hp : 0 ≤ u * (j : Int) ∧ u * (j : Int) ≤ 10989 := by
                        refine ⟨Int.mul_nonneg (by omega) hj0, ?_⟩
                        have := Int.mul_le_mul (show u ≤ 999 by omega) (show (j : Int) ≤ 11 by omega) hj0 (by omega)
                        omega
                      obtain ⟨q, hq⟩ : ∃ q, u * (j : Int) = q := ⟨_, rfl⟩
                      rw [hq] at hp
                      have hp1 := hp.1
                      have hp2 := hp.2
                      have w1 : IntKind.i64.wrap (u * (j : Int)) = q := by rw [hq]; exact IntWalk.i64_in _ (by omega)
                      have w2 : IntKind.i64.wrap (q + a) = q + a := IntWalk.i64_in _ (by omega)
                      have HQ := hid hq
                      clear hq hp
                      by_cases d5 : (q + a).tmod (l : Int) = 0
                      · have HNEXT : Hid (∀ r : Nat, r < j + 1 → ruleP (l : Int) r (us.getD r 0) (ad.getD r 0)) := hid (by
                          intro r h
                          rcases Nat.lt_or_ge r j with h1 | h1
                          · exact HR.out r h1
                          · obtain rfl : r = j := by omega
                            rw [HU.out, HA.out]
                            exact ⟨by omega, by omega, by omega, by omega, by rw [HQ.out]; exact tmod_zero.1 d5⟩)
                        have e5 : ((q + a).tmod (l : Int) == 0) = true := by rw [beq_iff_eq]; exact d5
                        have e6 : ((q + a).tmod (l : Int) != 0) = false := by rw [bne_eq_false_iff_eq]; exact d5
                        go_wp2_with fail
                        go_quiet (fail)
                        have hex2 := hex.drewN nq
                        clear w1 w2 e5 e6 d5
                        go_wp2
                        go_roundw
                        case rel => exact ⟨j + 1, by omega, by simp, HNEXT, hex2⟩
                        case measure => simp [intOf]; omega
                      · have HF := HNB.out (fun h => d5 (tmod_zero.2 (by rw [← HQ.out]; exact h.2.2.2.2)))
                        have e5 : ((q + a).tmod (l : Int) == 0) = false := by rw [beq_eq_false_iff_ne]; exact d5
                        have e6 : ((q + a).tmod (l : Int) != 0) = true := by rw [bne_iff_ne]; exact d5
                        go_wp2_with fail
                        go_quiet (fail)
                        have HY := hid (HXE.out.drewN nq)
                        go_wp2
                        go_ret
                        exact ⟨by rw [HF.out]; rfl, HY.out⟩
            · have HF : Hid (b = true) := hid (by
                rw [← hb.out]
                exact (mapB_iff _ _ _).2 ⟨by omega, by omega, by rw [HK.out], by rw [HL.out], fun r h => HR.out r (by rw [HK.out] at h; omega)⟩)
              have HY := hid (HX.out.step hex)
              go_wp2
              go_ret
              exact ⟨by rw [HF.out]; rfl, HY.out⟩
        · have HF := hno (fun h => c4 (by have := h.2.2.2.1; omega))
          have HX := hid hx
          subst c3
          have e4 : ((l : Int) == (k : Int)) = false := by rw [beq_eq_false_iff_ne]; exact c4
          have e5 : (l == k) = false := by rw [beq_eq_false_iff_ne]; omega
          clear hno hb hk hl ra rb hx hk3 c4
          go_enter Tryz.func17, Tryz.ntmps17
          go_wp2
          go_ret
          exact ⟨by rw [HF.out]; rfl, HX.out⟩
      · have HF := hno (fun h => c3 (by have := h.2.2.1; omega))
        have HX := hid hx
        have e3 : ((k : Int) == m) = false := by rw [beq_eq_false_iff_ne]; exact c3
        clear hno hb hk hl ra rb hx hk3 c3
        go_enter Tryz.func17, Tryz.ntmps17
        go_wp2
        go_ret
        exact ⟨by rw [HF.out]; rfl, HX.out⟩
end Go.Proofs.YtleccblkafcidaaGreatDoor
/- the law StepParts -/
namespace Go.Proofs.YtleccblkafcidaaGreatDoor
open Go.RowKit
end Go.Proofs.YtleccblkafcidaaGreatDoor
/- the law StepFirst -/
namespace Go.Proofs.YtleccblkafcidaaGreatDoor
open Go.RowKit
theorem fall_cases (x : Int) : ∀ (L : List (Option Int)) (i : Nat),
    (none ∈ L ∧ fallL x i L = (0, ⟨#[]⟩, 3)) ∨ (none ∉ L ∧ (∀ y, some y ∈ L → ¬ y < x) ∧ fallL x i L = (0, ⟨#[]⟩, 4)) ∨
    (∃ (j : Nat) (y : Int), L[j]? = some (some y) ∧ y < x ∧ none ∉ L.take (j + 1) ∧ (∀ (a : Nat) z, a < j → L[a]? = some (some z) → ¬ z < x) ∧ fallL x i L = (((i + j + 1 : Nat) : Int), Str (K.txt y), 0))
  | [], i => .inr (.inl ⟨by simp, by simp, rfl⟩)
  | none :: r, i => .inl ⟨by simp, rfl⟩
  | some y :: r, i => by
    by_cases h : y < x
    · refine .inr (.inr ⟨0, y, rfl, h, by simp, fun a z ha => absurd ha (by omega), ?_⟩)
      rw [fallL, if_pos h]; rfl
    · rcases fall_cases x r (i + 1) with ⟨h1, h2⟩ | ⟨h1, h2, h3⟩ | ⟨j, z, h1, h2, h3, h4, h5⟩
      · exact .inl ⟨by simp [h1], by rw [fallL, if_neg h, h2]⟩
      · refine .inr (.inl ⟨by simp [h1], fun u hu => ?_, by rw [fallL, if_neg h, h3]⟩)
        rcases List.mem_cons.1 hu with e | e
        · cases e; exact h
        · exact h2 u e
      · refine .inr (.inr ⟨j + 1, z, by simpa using h1, h2, by simpa using h3, fun a u ha hu => ?_, ?_⟩)
        · cases a with
          | zero => simp at hu; subst hu; exact h
          | succ a => exact h4 a u (by omega) (by simpa using hu)
        · rw [fallL, if_neg h, h5, show i + 1 + j + 1 = i + (j + 1) + 1 by omega]
theorem seq_len (m : Int) (us ad : List Int) (k : Nat) : ∀ (x : Int), none ∉ seqO m us ad k x → (seqO m us ad k x).length = k := by
  induction k with
  | zero => intro x _; rfl
  | succ k ih =>
    intro x h
    rw [seqO] at h ⊢
    generalize fitsB (stepI m us ad x) = f at h ⊢
    cases f with
    | true =>
      rw [if_pos rfl] at h ⊢
      rw [List.length_cons, ih _ (fun e => h (by simp [e]))]
    | false => rw [if_neg (by simp)] at h; exact absurd (by simp) h
theorem seq_short (m : Int) (us ad : List Int) : ∀ (k : Nat) (x : Int), (seqO m us ad k x).length ≤ k
  | 0, x => Nat.le_refl _
  | k + 1, x => by
    rw [seqO]
    split
    · rw [List.length_cons]; have := seq_short m us ad k (stepI m us ad x); omega
    · simp
theorem seq_fit (m : Int) (us ad : List Int) (k : Nat) : ∀ (x y : Int), some y ∈ seqO m us ad k x → fitsB y = true := by
  induction k with
  | zero => intro x y h; cases h
  | succ k ih =>
    intro x y h
    rw [seqO] at h
    rcases hf : fitsB (stepI m us ad x) with _ | _
    · rw [hf, if_neg (by simp)] at h; simp at h
    · rw [hf, if_pos rfl] at h
      rcases List.mem_cons.1 h with e | e
      · rw [Option.some.inj e]; exact hf
      · exact ih _ y e
theorem seq_take (m : Int) (us ad : List Int) (k : Nat) : ∀ (j : Nat) (x : Int), j < (seqO m us ad k x).length → none ∉ (seqO m us ad k x).take (j + 1) → seqO m us ad (j + 1) x = (seqO m us ad k x).take (j + 1) := by
  induction k with
  | zero => intro j x h _; exact absurd h (by simp [seqO])
  | succ k ih =>
    intro j x h hn
    rw [seqO] at h hn
    rw [seqO, seqO]
    generalize fitsB (stepI m us ad x) = f at h hn ⊢
    cases f with
    | true =>
      rw [if_pos rfl] at h hn
      rw [if_pos rfl, if_pos rfl, List.take_succ_cons]
      cases j with
      | zero => simp [seqO]
      | succ j => rw [ih j _ (by simpa using h) (by simpa using hn)]
    | false => rw [if_neg (by simp)] at hn; exact absurd (by simp) hn
theorem orbit_at (v : Value) (m : Int) (us ad : List Int) (l : List UInt8) (k : Nat) (w : World) (hv : MapV w v m us ad) (hM : Hid (mapP m us ad)) (hl : Hid (K.validL l = true)) (hk : k ≤ 1000) (ht : Tab w) (hn : Hid (none ∉ seqO m us ad k (K.numL l))) :
    Calls Tryz.prog 128 #[v, .string (Str l), .int .i64 (k : Int)] w (fun e w' => ∃ b o c, e = .returned (.tuple #[.slice (some ⟨b, o, none⟩) (k + 1) c, .int .i64 0]) ∧ k + 1 ≤ c ∧ Hid (Rd w' (some ⟨b, o, none⟩) (Txs (some (K.numL l) :: seqO m us ad k (K.numL l)))) ∧ Ext w w') := by
  refine (orbit_ok v m us ad l k w hv hM hl hk ht).mono ?_
  rintro e w' ⟨h1, -, h3⟩
  obtain ⟨A, kk, c, rfl, hk2, hc, hr⟩ := h1 hn.out
  rw [seq_len _ _ _ _ _ hn.out] at hk2
  subst hk2
  have hr' := hr
  rcases hr with h | ⟨b, o, rfl, hb, hcell⟩
  · simp at h
  · exact ⟨b, o, c, rfl, hc, hid hr', h3⟩
theorem rvalid_x (l : List UInt8) (w : World) (hv : Hid (K.validL l = true)) :
    Calls Tryz.prog 23 #[.string (Str l)] w fun e w' => e = .returned (.bool true) ∧ Ext w w' :=
  (rvalid_at l w hv (len_of (valid_len hv.out))).mono fun e w' h => ⟨h.1, by rw [← h.2]; exact Ext.rfl' _⟩
theorem item_at {m x : Int} {us ad : List Int} {k : Nat} (hn : none ∉ seqO m us ad k x) (hx : K.fits x) (j : Nat) (hj : j < k + 1) :
    ∃ (t : List UInt8) (z : Int), strO (some z) = Str t ∧ K.validL t = true ∧ K.numL t = z ∧ z.natAbs ≤ BIG ∧ (some x :: seqO m us ad k x)[j]? = some (some z) := by
  have hl : (some x :: seqO m us ad k x).length = k + 1 := by rw [List.length_cons, seq_len _ _ _ _ _ hn]
  have hm : (some x :: seqO m us ad k x)[j]? = some ((some x :: seqO m us ad k x)[j]'(by omega)) := List.getElem?_eq_getElem (by omega)
  generalize (some x :: seqO m us ad k x)[j]'(by omega) = o at hm
  have hmem := List.mem_of_getElem? hm
  have hz : ∃ z, o = some z ∧ K.fits z := by
    rcases List.mem_cons.1 hmem with e | e
    · exact ⟨x, e, hx⟩
    · cases o with
      | none => exact absurd e hn
      | some z => exact ⟨z, rfl, fitsB_iff.1 (seq_fit _ _ _ _ _ _ e)⟩
  obtain ⟨z, rfl, hf⟩ := hz
  exact ⟨K.txt z, z, rfl, K.valid_txt _ hf, K.numL_txt z, fits_big hf, hm⟩
theorem cell_item {W : World} {b o j : Nat} {l : List (Option Int)} {z : Int} {t : List UInt8} (h : Rd W (some ⟨b, o, none⟩) (Txs l)) (hj : l[j]? = some (some z)) (ht : strO (some z) = Str t) : W.cell? ⟨b, o + j, none⟩ = some (.string (Str t)) := by
  rcases h with h | ⟨b2, o2, e, -, hc⟩
  · rw [List.map_eq_nil_iff] at h; subst h; simp at hj
  · cases e
    exact hc j _ (by rw [List.getElem?_map, hj, Option.map_some, ht])
theorem box2 {w : World} {t : TypeId} {b : Bool} {A : Option Addr} {k c : Nat} {n : Int} (hv : RefV w (.agg #[.bool b, .slice A k c]) n) :
    Ext w (w.alloc (.cells #[.bool b, .slice A k c] t)) ∧ RefV (w.alloc (.cells #[.bool b, .slice A k c] t)) (.agg #[.bool b, .slice A k c]) n ∧ Row (w.alloc (.cells #[.bool b, .slice A k c] t)) w.heap.size t [.bool b, .slice A k c] :=
  ⟨(Ext.rfl' w).alloc' _, hv.ext ((Ext.rfl' w).alloc' _), Row.new w _ _⟩
end Go.Proofs.YtleccblkafcidaaGreatDoor
/- step.Orbit in the forms that the laws use -/
namespace Go.Proofs.YtleccblkafcidaaGreatDoor
open Go.RowKit
theorem rd_at {W : World} {b o j : Nat} {vs : List Value} {u : Value} (h : Rd W (some ⟨b, o, none⟩) vs) (hu : vs[j]? = some u) : W.cell? ⟨b, o + j, none⟩ = some u := by
  rcases h with h | ⟨b2, o2, e, -, hc⟩
  · subst h; simp at hu
  · cases e; exact hc j u hu
theorem orbit_no (v : Value) (m : Int) (us ad : List Int) (l : List UInt8) (k : Nat) (w : World) (hv : MapV w v m us ad) (hM : Hid (mapP m us ad)) (hl : Hid (K.validL l = true)) (hk : k ≤ 1000) (ht : Tab w) (hn : Hid (none ∈ seqO m us ad k (K.numL l))) :
    Calls Tryz.prog 128 #[v, .string (Str l), .int .i64 (k : Int)] w (fun e w' => e = .returned (.tuple #[.slice none 0 0, .int .i64 3]) ∧ Ext w w') := by
  refine (orbit_ok v m us ad l k w hv hM hl hk ht).mono ?_
  rintro e w' ⟨-, h2, h3⟩
  exact ⟨h2 hn.out, h3⟩
theorem orbit_code (v : Value) (m : Int) (us ad : List Int) (l : List UInt8) (k : Nat) (w : World) (hv : MapV w v m us ad) (hM : Hid (mapP m us ad)) (hl : Hid (K.validL l = true)) (hk : k ≤ 1000) (ht : Tab w) :
    Calls Tryz.prog 128 #[v, .string (Str l), .int .i64 (k : Int)] w (fun e w' => ∃ P q c f, e = .returned (.tuple #[.slice P q c, .int .i64 f]) ∧ (f = 0 ∨ f = 3) ∧ Ext w w') := by
  refine (orbit_ok v m us ad l k w hv hM hl hk ht).mono ?_
  rintro e w' ⟨h1, h2, h3⟩
  by_cases hn : none ∈ seqO m us ad k (K.numL l)
  · exact ⟨none, 0, 0, 3, h2 hn, .inr rfl, h3⟩
  · obtain ⟨A, q, c, he, -⟩ := h1 hn
    exact ⟨A, q, c, 0, he, .inl rfl, h3⟩
theorem item_orb {m x : Int} {us ad : List Int} {k : Nat} (hn : none ∉ seqO m us ad k x) (hx : K.fits x) (j : Nat) (hj : j < k + 1) :
    ∃ t : List UInt8, strO (some (orbN m us ad j x)) = Str t ∧ K.validL t = true ∧ K.numL t = orbN m us ad j x ∧ (orbN m us ad j x).natAbs ≤ BIG ∧ (some x :: seqO m us ad k x)[j]? = some (some (orbN m us ad j x)) := by
  obtain ⟨t, z, h1, h2, h3, h4, h5⟩ := item_at hn hx j hj
  have h6 := seq_orb0 hn j hj
  rw [h5] at h6
  obtain rfl : z = orbN m us ad j x := by simpa using h6
  exact ⟨t, h1, h2, h3, h4, h5⟩
end Go.Proofs.YtleccblkafcidaaGreatDoor
/- (number).power: the walk -/
namespace Go.Proofs.YtleccblkafcidaaGreatDoor
open Go.RowKit
theorem bitLen_le : ∀ (k x : Nat), x < 2 ^ k → k ≤ 60 → x < 2 ^ Lib.bitLen x ∧ Lib.bitLen x ≤ k
  | 0, x, h, _ => by
    have : x = 0 := by simpa using h
    subst this
    exact ⟨by decide, by decide⟩
  | k + 1, x, h, hk => by
    by_cases h0 : x = 0
    · subst h0
      exact ⟨by decide, Nat.le_trans (show Lib.bitLen 0 ≤ 0 by decide) (Nat.zero_le _)⟩
    · have h64 : x < 2 ^ 64 := Nat.lt_of_lt_of_le h (Nat.pow_le_pow_right (by omega) (by omega))
      have ih := bitLen_le k (x / 2) (by rw [Nat.pow_succ] at h; omega) (by omega)
      rw [Lib.bitLen_half x h0 h64, Nat.add_comm, Nat.pow_succ]
      omega
theorem bitLen_lt (n : Nat) (hn : n ≤ 10000) : n < 2 ^ Lib.bitLen n ∧ Lib.bitLen n ≤ 14 := bitLen_le 14 n (by omega) (by omega)
end Go.Proofs.YtleccblkafcidaaGreatDoor
/- Power and Rest, by contract -/
namespace Go.Proofs.YtleccblkafcidaaGreatDoor
open Go.RowKit
set_option maxRecDepth 100000 in
set_option maxHeartbeats 800000 in
theorem rest_ok (l : List UInt8) (d : Nat) (w : World) (h1 : l.length ≤ 140737488351232) (v1 : K.validL l = true) (hd : 1 ≤ d) (hd2 : d ≤ 2147483647) :
    Calls Tryz.prog 79 #[.string (Str l), .int .i64 (d : Int)] w (fun e w' => e = .returned (.tuple #[.int .i64 (K.numL l % d), .int .i64 0]) ∧ Ext w w') := by
  have g1 := fits_big (K.txt_numL l v1).2
  go_enter Tryz.func79, Tryz.ntmps79
  go_wp2_with fail
  refine (read_ok l w h1 v1).mono ?_
  rintro e w1 ⟨⟨y1, rfl, ⟨z1, b1, rfl, hb1, hz1⟩⟩, hx1⟩
  obtain ⟨A1, k1, c1, rfl⟩ := hz1.slice
  have hE : Ext w1 (w1.alloc (.cells #[.bool b1, .slice A1 k1 c1] 157)) := (Ext.rfl' w1).alloc' _
  have n1 := (NumV.mk' hb1 hz1).ext hE
  have hE2 := hx1.step hE
  clear hb1 hz1 hx1 hE
  go_wp2_with fail
  refine (nrest_any _ _ d _ n1 g1 (by omega) (by omega)).mono ?_
  rintro e w2 ⟨rfl, hx2⟩
  have hr0 : 0 ≤ K.numL l % (d : Int) := Int.emod_nonneg _ (by omega)
  have hr1 : K.numL l % (d : Int) < d := Int.emod_lt_of_pos _ (by omega)
  obtain ⟨r, hsg⟩ : ∃ r, K.numL l % (d : Int) = r := ⟨_, rfl⟩
  rw [hsg] at hr0 hr1 ⊢
  have HSG := hid hsg
  clear hsg
  go_wp2
  go_ret2
  exact ⟨by rw [HSG.out]; rfl, hE2.step hx2⟩
set_option maxRecDepth 100000 in
set_option maxHeartbeats 800000 in
theorem rest_form (l : List UInt8) (n : Int) (w : World) (h1 : l.length ≤ 140737488351232) (v1 : K.validL l = false) :
    Calls Tryz.prog 79 #[.string (Str l), .int .i64 n] w (fun e w' => e = .returned (.tuple #[.int .i64 0, .int .i64 1]) ∧ Ext w w') := by
  go_enter Tryz.func79, Tryz.ntmps79
  go_wp2_with fail
  refine (read_bad l w h1 v1).mono ?_
  rintro e w1 ⟨rfl, hx1⟩
  go_wp2
  go_ret2
  exact ⟨rfl, hx1.alloc' _⟩
set_option maxRecDepth 100000 in
set_option maxHeartbeats 800000 in
theorem rest_arg (l : List UInt8) (n : Int) (w : World) (h1 : l.length ≤ 140737488351232) (v1 : K.validL l = true) (hn : n < 1 ∨ 2147483647 < n) :
    Calls Tryz.prog 79 #[.string (Str l), .int .i64 n] w (fun e w' => e = .returned (.tuple #[.int .i64 0, .int .i64 2]) ∧ Ext w w') := by
  go_enter Tryz.func79, Tryz.ntmps79
  go_wp2_with fail
  refine (read_ok l w h1 v1).mono ?_
  rintro e w1 ⟨⟨y1, rfl, ⟨z1, b1, rfl, hb1, hz1⟩⟩, hx1⟩
  obtain ⟨A1, k1, c1, rfl⟩ := hz1.slice
  by_cases h : n < 1
  · clear hn
    go_wp2
    go_ret2
    exact ⟨rfl, hx1.alloc' _⟩
  · have hn2 : 2147483647 < n := by omega
    clear hn
    go_wp2
    go_ret2
    exact ⟨rfl, hx1.alloc' _⟩
end Go.Proofs.YtleccblkafcidaaGreatDoor
/- step.Orbit and step.Falls where the arguments are not valid -/
namespace Go.Proofs.YtleccblkafcidaaGreatDoor
open Go.RowKit
set_option maxRecDepth 100000 in
set_option maxHeartbeats 1600000 in
theorem orbit_bad (v : Value) (m : Int) (us ad : List Int) (l : List UInt8) (k : Int) (w : World) (hv : MapV w v m us ad) (hlen : l.length ≤ 140737488351232) {b1 b2 : Bool} (hb1 : Hid (mapB m us ad = b1)) (hb2 : Hid (K.validL l = b2))
    {c : Int} (hc : Hid (c = if b1 = true ∧ b2 = true then (if k < 0 ∨ 1000 < k then 2 else 0) else 1)) (hc0 : (c == 0) = false) :
    Calls Tryz.prog 128 #[v, .string (Str l), .int .i64 k] w (fun e w' => e = .returned (.tuple #[.slice none 0 0, .int .i64 c]) ∧ Ext w w') := by
  have HV := hid hv
  obtain ⟨A, n, cc, B, n2, d, rfl, -⟩ := hv
  have hx : Ext w (((w.alloc (.cells #[.int .i64 m, .slice A n cc, .slice B n2 d] 24)).alloc (.cells #[.slice none 0 0] 77)).alloc (.cells #[.int .i64 0] 27)) := (((Ext.rfl' w).alloc' _).alloc' _).alloc' _
  have h0 : Row (((w.alloc (.cells #[.int .i64 m, .slice A n cc, .slice B n2 d] 24)).alloc (.cells #[.slice none 0 0] 77)).alloc (.cells #[.int .i64 0] 27)) (w.heap.size) 24 [.int .i64 m, .slice A n cc, .slice B n2 d] := by
    have := ((Row.new w 24 [.int .i64 m, .slice A n cc, .slice B n2 d]).alloc (.cells #[.slice none 0 0] 77)).alloc (.cells #[.int .i64 0] 27)
    exact this
  have h1 : Row (((w.alloc (.cells #[.int .i64 m, .slice A n cc, .slice B n2 d] 24)).alloc (.cells #[.slice none 0 0] 77)).alloc (.cells #[.int .i64 0] 27)) (w.heap.size + 1) 77 [.slice none 0 0] := by
    have := (Row.new (w.alloc (.cells #[.int .i64 m, .slice A n cc, .slice B n2 d] 24)) 77 [.slice none 0 0]).alloc (.cells #[.int .i64 0] 27)
    rwa [World.size_alloc] at this
  have h2 : Row (((w.alloc (.cells #[.int .i64 m, .slice A n cc, .slice B n2 d] 24)).alloc (.cells #[.slice none 0 0] 77)).alloc (.cells #[.int .i64 0] 27)) (w.heap.size + 1 + 1) 27 [.int .i64 0] := by
    have := Row.new ((w.alloc (.cells #[.int .i64 m, .slice A n cc, .slice B n2 d] 24)).alloc (.cells #[.slice none 0 0] 77)) 27 [.int .i64 0]
    rwa [World.size_alloc, World.size_alloc] at this
  obtain ⟨W0, hW0⟩ : ∃ W0, (((w.alloc (.cells #[.int .i64 m, .slice A n cc, .slice B n2 d] 24)).alloc (.cells #[.slice none 0 0] 77)).alloc (.cells #[.int .i64 0] 27)) = W0 := ⟨_, rfl⟩
  rw [hW0] at hx h0 h1 h2
  have HW0 := hid hW0
  have HX := hid hx
  have R0 := hid h0
  have R1 := hid h1
  have R2 := hid h2
  obtain ⟨f0, f1, f2, -, -, -⟩ := row_facts3 h0
  clear hW0 hx h0 h1 h2
  have hcn : (c != 0) = true := by rw [bne_iff_ne]; exact beq_eq_false_iff_ne.1 hc0
  go_enter Tryz.func128, Tryz.ntmps128
  go_upto_region 1 with fail
  rw [HW0.out]
  go_wp2_with fail
  refine (check_any _ m us ad l k 0 1000 W0 (HV.out.ext HX.out) hlen hb1 hb2 hc).mono ?_
  rintro e w4 ⟨rfl, hx4⟩
  have HX4 := hid (HX.out.step hx4)
  have q1 := R1.out.ext hx4
  have q2 := R2.out.ext hx4
  have c1 : w4.cell? ⟨w.heap.size + 1, 0, none⟩ = some _ := q1.cell 0
  have g1 := q1.free 0
  have c2 : w4.cell? ⟨w.heap.size + 1 + 1, 0, none⟩ = some _ := q2.cell 0
  have g2 := q2.free 0
  clear f0 f1 f2  q1 q2 hx4
  have HF : Hid (Ext w ((w4.setCell ⟨w.heap.size + 1, 0, none⟩ (.slice none 0 0)).setCell ⟨w.heap.size + 1 + 1, 0, none⟩ (.int .i64 c))) := hid ((HX4.out.set' (p := ⟨w.heap.size + 1, 0, none⟩) (by show w.heap.size ≤ w.heap.size + 1; omega) (.slice none 0 0)).set' (p := ⟨w.heap.size + 1 + 1, 0, none⟩) (by show w.heap.size ≤ w.heap.size + 1 + 1; omega) (.int .i64 c))
  go_wp2
  refine bodyPost_ret (v := .tuple #[.slice none 0 0, .int .i64 c]) (by simp [results, Tryz.results128, go_sem, c1, c2]) rfl ⟨rfl, HF.out⟩
end Go.Proofs.YtleccblkafcidaaGreatDoor
/- word.rests, word.Word -/
namespace Go.Proofs.YtleccblkafcidaaGreatDoor
open Go.RowKit
/-- the word of a number -/
def wordI (m : Int) (us ad : List Int) (k : Nat) (x : Int) : List Int := (List.range k).map fun i => orbN m us ad i x % m
/-- what is written after j rounds -/
def partL (f : Nat → Int) (k j : Nat) : List Int := (List.range k).map fun i => if i < j then f i else 0
theorem partL_len (f : Nat → Int) (k j : Nat) : (partL f k j).length = k := by simp [partL]
theorem partL_zero (f : Nat → Int) (k : Nat) : Is (partL f k 0) = List.replicate k (.int .i64 0) := by
  apply List.ext_getElem
  · simp [partL]
  · intro i h1 h2
    simp [partL]
theorem partL_full (f : Nat → Int) (k : Nat) : partL f k k = (List.range k).map f := by
  unfold partL
  apply List.map_congr_left
  intro i hi
  rw [if_pos (List.mem_range.1 hi)]
theorem partL_set (f : Nat → Int) (k j : Nat) (hj : j < k) : (Is (partL f k j)).set j (.int .i64 (f j)) = Is (partL f k (j + 1)) := by
  apply List.ext_getElem
  · simp [partL]
  · intro i h1 h2
    rw [List.getElem_set]
    by_cases e : j = i
    · subst e; simp [partL]
    · rw [if_neg e]
      simp only [partL, List.map_map, List.getElem_map, List.getElem_range, Function.comp_apply]
      by_cases h3 : i < j
      · rw [if_pos h3, if_pos (by omega)]
      · rw [if_neg h3, if_neg (by omega)]
end Go.Proofs.YtleccblkafcidaaGreatDoor
