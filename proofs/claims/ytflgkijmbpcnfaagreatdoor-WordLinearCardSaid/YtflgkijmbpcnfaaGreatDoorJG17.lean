/- Joined texts: the reference's Falls; step.Orbit and step.Falls where the arguments are not valid. -/
import Derived.Test.YtflgkijmbpcnfaaGreatDoorJG14
import Derived.Test.YtflgkijmbpcnfaaGreatDoorJG12
import Derived.Test.YtflgkijmbpcnfaaGreatDoorJG07
set_option linter.unusedSimpArgs false
set_option linter.unusedVariables false
/- the reference's Falls -/
namespace Go.Proofs.YtflgkijmbpcnfaaGreatDoor
open Go.RowKit
/-- a fall as the reference tells it -/
def RFallPost (fr : Int × ByteArray × Int) (w : World) (e : Ending) (w' : World) : Prop :=
  ∃ v, e = .returned (.tuple #[.int .i64 fr.1, v, .int .i64 fr.2.2]) ∧ (∃ P q c b, v = .agg #[.bool b, .slice P q c]) ∧ (fr.2.2 = 0 → ∃ y, RefV w' v y ∧ K.fits y ∧ fr.2.1 = Str (K.txt y)) ∧ Ext w w'
theorem fallL_nil (x : Int) (j : Nat) : fallL x j [] = (0, ⟨#[]⟩, 4) := rfl
theorem fallL_none (x : Int) (j : Nat) (r : List (Option Int)) : fallL x j (none :: r) = (0, ⟨#[]⟩, 3) := rfl
theorem fallL_lt {x y : Int} (h : y < x) (j : Nat) (r : List (Option Int)) : fallL x j (some y :: r) = ((j : Int) + 1, Str (K.txt y), 0) := by rw [fallL, if_pos h]
theorem fallL_ge {x y : Int} (h : ¬ y < x) (j : Nat) (r : List (Option Int)) : fallL x j (some y :: r) = fallL x (j + 1) r := by rw [fallL, if_neg h]
theorem seqO_fit {m : Int} {us ad : List Int} {k j : Nat} {z : Int} (hj : j < k) (h : K.fits (stepI m us ad z)) : seqO m us ad (k - j) z = some (stepI m us ad z) :: seqO m us ad (k - (j + 1)) (stepI m us ad z) := by
  rw [show k - j = (k - (j + 1)) + 1 by omega, seqO, if_pos (fitsB_yes h)]
theorem seqO_unfit {m : Int} {us ad : List Int} {k j : Nat} {z : Int} (hj : j < k) (h : ¬ K.fits (stepI m us ad z)) : seqO m us ad (k - j) z = [none] := by
  rw [show k - j = (k - (j + 1)) + 1 by omega, seqO, if_neg (by rw [fitsB_no h]; simp)]
set_option maxRecDepth 100000 in
set_option maxHeartbeats 6400000 in
theorem rfalls_any (v vn : Value) (m x : Int) (us ad : List Int) (k : Nat) (w : World) (fr : Int × ByteArray × Int) (hv : MapV w v m us ad) (hM : Hid (mapP m us ad)) (hn : RefV w vn x) (hf : Hid (K.fits x)) (hk : k ≤ 9223372036854775806) (hfr : Hid (fallL x 0 (seqO m us ad k x) = fr)) :
    Calls Tryz.prog 29 #[v, vn, .int .i64 (k : Int)] w (RFallPost fr w) := by
  have HV := hid hv
  have HN := hid hn
  have XB := hid (fits_big hf.out)
  obtain ⟨A, n, cc, B, n2, d, rfl, -⟩ := hv
  obtain ⟨A1, k1, c1, xs1, b1, rfl, -⟩ := hn
  have hx : Ext w ((((w.alloc (.cells #[.int .i64 m, .slice A n cc, .slice B n2 d] 24)).alloc (.cells #[.bool b1, .slice A1 k1 c1] 34)).alloc (.cells #[.bool false, .slice none 0 0] 34)).alloc (.cells #[.bool b1, .slice A1 k1 c1] 34)) := ((((Ext.rfl' w).alloc' _).alloc' _).alloc' _).alloc' _
  have r1 : Row ((((w.alloc (.cells #[.int .i64 m, .slice A n cc, .slice B n2 d] 24)).alloc (.cells #[.bool b1, .slice A1 k1 c1] 34)).alloc (.cells #[.bool false, .slice none 0 0] 34)).alloc (.cells #[.bool b1, .slice A1 k1 c1] 34)) w.heap.size 24 [.int .i64 m, .slice A n cc, .slice B n2 d] := (((Row.new w _ _).alloc _).alloc _).alloc _
  have r2 : Row ((((w.alloc (.cells #[.int .i64 m, .slice A n cc, .slice B n2 d] 24)).alloc (.cells #[.bool b1, .slice A1 k1 c1] 34)).alloc (.cells #[.bool false, .slice none 0 0] 34)).alloc (.cells #[.bool b1, .slice A1 k1 c1] 34)) (w.heap.size + 1) 34 [.bool b1, .slice A1 k1 c1] := by
    have := ((Row.new (w.alloc (.cells #[.int .i64 m, .slice A n cc, .slice B n2 d] 24)) 34 [.bool b1, .slice A1 k1 c1]).alloc (.cells #[.bool false, .slice none 0 0] 34)).alloc (.cells #[.bool b1, .slice A1 k1 c1] 34)
    rwa [World.size_alloc] at this
  have r3 : Row ((((w.alloc (.cells #[.int .i64 m, .slice A n cc, .slice B n2 d] 24)).alloc (.cells #[.bool b1, .slice A1 k1 c1] 34)).alloc (.cells #[.bool false, .slice none 0 0] 34)).alloc (.cells #[.bool b1, .slice A1 k1 c1] 34)) (w.heap.size + 1 + 1) 34 [.bool false, .slice none 0 0] := by
    have := (Row.new ((w.alloc (.cells #[.int .i64 m, .slice A n cc, .slice B n2 d] 24)).alloc (.cells #[.bool b1, .slice A1 k1 c1] 34)) 34 [.bool false, .slice none 0 0]).alloc (.cells #[.bool b1, .slice A1 k1 c1] 34)
    rwa [World.size_alloc, World.size_alloc] at this
  have r4 : Row ((((w.alloc (.cells #[.int .i64 m, .slice A n cc, .slice B n2 d] 24)).alloc (.cells #[.bool b1, .slice A1 k1 c1] 34)).alloc (.cells #[.bool false, .slice none 0 0] 34)).alloc (.cells #[.bool b1, .slice A1 k1 c1] 34)) (w.heap.size + 1 + 1 + 1) 34 [.bool b1, .slice A1 k1 c1] := by
    have := Row.new (((w.alloc (.cells #[.int .i64 m, .slice A n cc, .slice B n2 d] 24)).alloc (.cells #[.bool b1, .slice A1 k1 c1] 34)).alloc (.cells #[.bool false, .slice none 0 0] 34)) 34 [.bool b1, .slice A1 k1 c1]
    rwa [World.size_alloc, World.size_alloc, World.size_alloc] at this
  obtain ⟨W4, hW4⟩ : ∃ W4, ((((w.alloc (.cells #[.int .i64 m, .slice A n cc, .slice B n2 d] 24)).alloc (.cells #[.bool b1, .slice A1 k1 c1] 34)).alloc (.cells #[.bool false, .slice none 0 0] 34)).alloc (.cells #[.bool b1, .slice A1 k1 c1] 34)) = W4 := ⟨_, rfl⟩
  rw [hW4] at hx r1 r2 r3 r4
  have HW4 := hid hW4
  have HX := hid hx
  have R1 := hid r1
  have R2 := hid r2
  have R3 := hid r3
  have R4 := hid r4
  clear hW4 hx r1 r2 r3 r4
  go_enter Tryz.func29, Tryz.ntmps29
  go_upto_region 2 with fail
  rw [HW4.out]
  go_wp2_with fail
  go_loopw [10] (fun iz wr => ∃ (j : Nat) (z : Int) (b : Bool) (P : Option Addr) (q c : Nat), j ≤ k ∧ iz = .int .i64 ((j : Int) + 1) ∧ Row wr w.heap.size 24 [.int .i64 m, .slice A n cc, .slice B n2 d] ∧ Row wr (w.heap.size + 1) 34 [.bool b1, .slice A1 k1 c1] ∧ Row wr (w.heap.size + 1 + 1) 34 [.bool false, .slice none 0 0] ∧ Row wr (w.heap.size + 1 + 1 + 1) 34 [.bool b, .slice P q c] ∧ RefV wr (.agg #[.bool b, .slice P q c]) z ∧ Hid (K.fits z) ∧ Hid (fallL x j (seqO m us ad (k - j) z) = fr) ∧ Ext w wr) (fun iz _ => k + 1 - (intOf iz).toNat)
  case atStart => exact ⟨0, x, b1, A1, k1, c1, by omega, rfl, R1.out, R2.out, R3.out, R4.out, HN.out.ext HX.out, hf, hfr, HX.out⟩
  case round =>
    obtain ⟨j, z, b, P, q, c, hj, rfl, hr1, hr2, hr3, hr4, hvz, HFZ, HFL, hex⟩ := hrel
    have RM := hid hr1
    have RX := hid hr2
    have RZ := hid hr3
    have RN := hid hr4
    have VZ := hid hvz
    have EX := hid hex
    clear hr1 hr2 hr3 hr4 hvz hex R1 R2 R3 R4
    by_cases hlt : j < k
    · have hle : (j : Int) + 1 ≤ (k : Int) := by omega
      have SB := hid (stepI_big hM.out HFZ.out)
      obtain ⟨f0, f1, f2, -, -, -⟩ := row_facts3 RM.out
      obtain ⟨g0, g1, g2, g3⟩ := row_facts RN.out
      go_wp2_with fail
      refine (step2_fits _ _ m z us ad wr (HV.out.ext EX.out) hM VZ.out HFZ).mono ?_
      rintro e w5 ⟨v5, rfl, hv5, hx5⟩
      have HV5 := hid hv5
      obtain ⟨A5, k5, c5, xs5, b5, rfl, -⟩ := hv5
      have RN5 := RN.out.ext hx5
      have rm : Row ((w5.setCell ⟨w.heap.size + 1 + 1 + 1, 0, none⟩ (.bool b5)).setCell ⟨w.heap.size + 1 + 1 + 1, 1, none⟩ (.slice A5 k5 c5)) w.heap.size 24 [.int .i64 m, .slice A n cc, .slice B n2 d] := ((RM.out.ext hx5).far (by show w.heap.size ≠ w.heap.size + 1 + 1 + 1; omega) _).far (by show w.heap.size ≠ w.heap.size + 1 + 1 + 1; omega) _
      have rx : Row ((w5.setCell ⟨w.heap.size + 1 + 1 + 1, 0, none⟩ (.bool b5)).setCell ⟨w.heap.size + 1 + 1 + 1, 1, none⟩ (.slice A5 k5 c5)) (w.heap.size + 1) 34 [.bool b1, .slice A1 k1 c1] := ((RX.out.ext hx5).far (by show w.heap.size + 1 ≠ w.heap.size + 1 + 1 + 1; omega) _).far (by show w.heap.size + 1 ≠ w.heap.size + 1 + 1 + 1; omega) _
      have rz : Row ((w5.setCell ⟨w.heap.size + 1 + 1 + 1, 0, none⟩ (.bool b5)).setCell ⟨w.heap.size + 1 + 1 + 1, 1, none⟩ (.slice A5 k5 c5)) (w.heap.size + 1 + 1) 34 [.bool false, .slice none 0 0] := ((RZ.out.ext hx5).far (by show w.heap.size + 1 + 1 ≠ w.heap.size + 1 + 1 + 1; omega) _).far (by show w.heap.size + 1 + 1 ≠ w.heap.size + 1 + 1 + 1; omega) _
      have rn : Row ((w5.setCell ⟨w.heap.size + 1 + 1 + 1, 0, none⟩ (.bool b5)).setCell ⟨w.heap.size + 1 + 1 + 1, 1, none⟩ (.slice A5 k5 c5)) (w.heap.size + 1 + 1 + 1) 34 [.bool b5, .slice A5 k5 c5] := (RN5.set 0 _).set 1 _
      have vz : RefV ((w5.setCell ⟨w.heap.size + 1 + 1 + 1, 0, none⟩ (.bool b5)).setCell ⟨w.heap.size + 1 + 1 + 1, 1, none⟩ (.slice A5 k5 c5)) (.agg #[.bool b5, .slice A5 k5 c5]) (stepI m us ad z) := HV5.out.box RN5
      have ex : Ext w ((w5.setCell ⟨w.heap.size + 1 + 1 + 1, 0, none⟩ (.bool b5)).setCell ⟨w.heap.size + 1 + 1 + 1, 1, none⟩ (.slice A5 k5 c5)) := ((EX.out.step hx5).set' (by show w.heap.size ≤ w.heap.size + 1 + 1 + 1; omega) _).set' (by show w.heap.size ≤ w.heap.size + 1 + 1 + 1; omega) _
      obtain ⟨W6, hW6⟩ : ∃ W6, ((w5.setCell ⟨w.heap.size + 1 + 1 + 1, 0, none⟩ (.bool b5)).setCell ⟨w.heap.size + 1 + 1 + 1, 1, none⟩ (.slice A5 k5 c5)) = W6 := ⟨_, rfl⟩
      rw [hW6] at rm rx rz rn vz ex
      have HW6 := hid hW6
      have RM6 := hid rm
      have RX6 := hid rx
      have RZ6 := hid rz
      have RN6 := hid rn
      have VZ6 := hid vz
      have EX6 := hid ex
      clear f0 f1 f2 g0 g1 g2 g3 hW6 rm rx rz rn vz ex
      obtain ⟨g0, g1, g2, g3⟩ := row_facts RN5
      clear RN5 hx5
      go_upto_region 6 with fail
      rw [HW6.out]
      clear g0 g1 g2 g3
      obtain ⟨g0, g1, g2, g3⟩ := row_facts RN6.out
      by_cases hfs : K.fits (stepI m us ad z)
      · have HFS := hid hfs
        clear hfs
        go_wp2_with fail
        refine (rfits_any _ (stepI m us ad z) W6 VZ6.out SB.out true (hid ⟨fun _ => HFS.out, fun _ => rfl⟩)).mono ?_
        rintro e w7 ⟨rfl, hx7⟩
        have HX7 := hid hx7
        clear g0 g1 g2 g3 hx7
        obtain ⟨g0, g1, g2, g3⟩ := row_facts (RN6.out.ext HX7.out)
        obtain ⟨t0, t1, t2, t3⟩ := row_facts (RX6.out.ext HX7.out)
        by_cases hl : stepI m us ad z < x
        · obtain ⟨sg, hsg⟩ : ∃ sg, sgnI (stepI m us ad z) x = sg := ⟨_, rfl⟩
          have hs0 : sg < 0 := by rw [← hsg, sgnI_lt hl]; omega
          have HSG := hid hsg
          have HFR : Hid (fr = ((j : Int) + 1, Str (K.txt (stepI m us ad z)), 0)) := hid (by rw [← HFL.out, seqO_fit hlt HFS.out, fallL_lt hl])
          clear hsg hl
          go_wp2_with fail
          refine (rcmp_any _ _ (stepI m us ad z) x w7 (VZ6.out.ext HX7.out) (HN.out.ext (EX6.out.step HX7.out)) SB.out XB.out).mono ?_
          rintro e w8 ⟨rfl, hx8⟩
          rw [HSG.out]
          have HX8 := hid (HX7.out.step hx8)
          clear g0 g1 g2 g3 t0 t1 t2 t3 hx8
          obtain ⟨g0, g1, g2, g3⟩ := row_facts (RN6.out.ext HX8.out)
          obtain ⟨z0, z1, z2, z3⟩ := row_facts (RZ6.out.ext HX8.out)
          go_wp2_with fail
          go_region
          all_goals
            have HF : Hid (RFallPost fr w (.returned (.tuple #[.int .i64 ((j : Int) + 1), .agg #[.bool b5, .slice A5 k5 c5], .int .i64 0])) ((w8.setCell ⟨w.heap.size + 1 + 1, 0, none⟩ (.bool b5)).setCell ⟨w.heap.size + 1 + 1, 1, none⟩ (.slice A5 k5 c5)).drew) := hid (by
              rw [HFR.out]
              exact ⟨_, rfl, ⟨_, _, _, _, rfl⟩, fun _ => ⟨stepI m us ad z, ((VZ6.out.ext HX8.out).box (RZ6.out.ext HX8.out)).ext (Ext.rfl' _).drew', HFS.out, rfl⟩, (((EX6.out.step HX8.out).set' (by show w.heap.size ≤ w.heap.size + 1 + 1; omega) _).set' (by show w.heap.size ≤ w.heap.size + 1 + 1; omega) _).drew'⟩)
            go_wp2
            refine bodyPost_ret (v := .tuple #[.int .i64 ((j : Int) + 1), .agg #[.bool b5, .slice A5 k5 c5], .int .i64 0]) (by simp [results, Tryz.results29, go_sem, z0, z1]) rfl ?_
            exact HF.out
        · obtain ⟨sg, hsg⟩ : ∃ sg, sgnI (stepI m us ad z) x = sg := ⟨_, rfl⟩
          have hs0 : ¬ sg < 0 := by have := sgnI_ge hl; omega
          have HSG := hid hsg
          have HNX : Hid (fallL x (j + 1) (seqO m us ad (k - (j + 1)) (stepI m us ad z)) = fr) := hid (by rw [← HFL.out, seqO_fit hlt HFS.out, fallL_ge hl])
          clear hsg hl
          go_wp2_with fail
          refine (rcmp_any _ _ (stepI m us ad z) x w7 (VZ6.out.ext HX7.out) (HN.out.ext (EX6.out.step HX7.out)) SB.out XB.out).mono ?_
          rintro e w8 ⟨rfl, hx8⟩
          rw [HSG.out]
          have HX8 := hid (HX7.out.step hx8)
          clear g0 g1 g2 g3 t0 t1 t2 t3 hx8
          have hwj : IntKind.i64.wrap ((j : Int) + 1 + 1) = (j : Int) + 1 + 1 := IntWalk.i64_in _ (by omega)
          go_wp2
          go_roundw
          case rel => exact ⟨j + 1, stepI m us ad z, b5, A5, k5, c5, by omega, by simp, RM6.out.ext HX8.out, RX6.out.ext HX8.out, RZ6.out.ext HX8.out, RN6.out.ext HX8.out, VZ6.out.ext HX8.out, HFS, HNX, EX6.out.step HX8.out⟩
          case measure => first | (simp [intOf]; done) | (simp [intOf]; omega)
      · have HFR : Hid (fr = (0, ⟨#[]⟩, 3)) := hid (by rw [← HFL.out, seqO_unfit hlt hfs]; rfl)
        have HFS := hid hfs
        clear hfs
        go_wp2_with fail
        refine (rfits_any _ (stepI m us ad z) W6 VZ6.out SB.out false (hid ⟨fun h => Bool.noConfusion h, fun h => absurd h HFS.out⟩)).mono ?_
        rintro e w7 ⟨rfl, hx7⟩
        obtain ⟨z0, z1, z2, z3⟩ := row_facts (RZ6.out.ext hx7)
        have HF : Hid (RFallPost fr w (.returned (.tuple #[.int .i64 0, .agg #[.bool false, .slice none 0 0], .int .i64 3])) ((w7.setCell ⟨w.heap.size + 1 + 1, 0, none⟩ (.bool false)).setCell ⟨w.heap.size + 1 + 1, 1, none⟩ (.slice none 0 0))) := hid (by
          rw [HFR.out]
          exact ⟨_, rfl, ⟨_, _, _, _, rfl⟩, (fun h => by cases h), (((EX6.out.step hx7).set' (by show w.heap.size ≤ w.heap.size + 1 + 1; omega) _).set' (by show w.heap.size ≤ w.heap.size + 1 + 1; omega) _)⟩)
        clear g0 g1 g2 g3 hx7
        go_wp2
        refine bodyPost_ret (v := .tuple #[.int .i64 0, .agg #[.bool false, .slice none 0 0], .int .i64 3]) (by simp [results, Tryz.results29, go_sem, z0, z1]) rfl HF.out
    · obtain rfl : k = j := by omega
      have hle : ¬ (k : Int) + 1 ≤ (k : Int) := by omega
      have HFR : Hid (fr = (0, ⟨#[]⟩, 4)) := hid (by rw [← HFL.out, Nat.sub_self]; rfl)
      obtain ⟨z0, z1, z2, z3⟩ := row_facts RZ.out
      have HF : Hid (RFallPost fr w (.returned (.tuple #[.int .i64 0, .agg #[.bool false, .slice none 0 0], .int .i64 4])) ((wr.setCell ⟨w.heap.size + 1 + 1, 0, none⟩ (.bool false)).setCell ⟨w.heap.size + 1 + 1, 1, none⟩ (.slice none 0 0))) := hid (by
        rw [HFR.out]
        exact ⟨_, rfl, ⟨_, _, _, _, rfl⟩, (fun h => by cases h), ((EX.out.set' (by show w.heap.size ≤ w.heap.size + 1 + 1; omega) _).set' (by show w.heap.size ≤ w.heap.size + 1 + 1; omega) _)⟩)
      go_wp2
      refine bodyPost_ret (v := .tuple #[.int .i64 0, .agg #[.bool false, .slice none 0 0], .int .i64 4]) (by simp [results, Tryz.results29, go_sem, z0, z1]) rfl HF.out
end Go.Proofs.YtflgkijmbpcnfaaGreatDoor
/- step.Orbit and step.Falls where the arguments are not valid -/
namespace Go.Proofs.YtflgkijmbpcnfaaGreatDoor
open Go.RowKit
set_option maxRecDepth 100000 in
set_option maxHeartbeats 1600000 in
theorem orbit_bad (v : Value) (m : Int) (us ad : List Int) (l : List UInt8) (k : Int) (w : World) (hv : MapV w v m us ad) (hlen : l.length ≤ 140737488351232) {b1 b2 : Bool} (hb1 : Hid (mapB m us ad = b1)) (hb2 : Hid (K.validL l = b2))
    {c : Int} (hc : Hid (c = if b1 = true ∧ b2 = true then (if k < 0 ∨ 1000 < k then 2 else 0) else 1)) (hc0 : (c == 0) = false) :
    Calls Tryz.prog 25 #[v, .string (Str l), .int .i64 k] w (fun e w' => e = .returned (.tuple #[.slice none 0 0, .int .i64 c]) ∧ Ext w w') := by
  have HV := hid hv
  obtain ⟨A, n, cc, B, n2, d, rfl, -⟩ := hv
  have hx : Ext w (((w.alloc (.cells #[.int .i64 m, .slice A n cc, .slice B n2 d] 24)).alloc (.cells #[.slice none 0 0] 42)).alloc (.cells #[.int .i64 0] 26)) := (((Ext.rfl' w).alloc' _).alloc' _).alloc' _
  have h0 : Row (((w.alloc (.cells #[.int .i64 m, .slice A n cc, .slice B n2 d] 24)).alloc (.cells #[.slice none 0 0] 42)).alloc (.cells #[.int .i64 0] 26)) (w.heap.size) 24 [.int .i64 m, .slice A n cc, .slice B n2 d] := by
    have := ((Row.new w 24 [.int .i64 m, .slice A n cc, .slice B n2 d]).alloc (.cells #[.slice none 0 0] 42)).alloc (.cells #[.int .i64 0] 26)
    exact this
  have h1 : Row (((w.alloc (.cells #[.int .i64 m, .slice A n cc, .slice B n2 d] 24)).alloc (.cells #[.slice none 0 0] 42)).alloc (.cells #[.int .i64 0] 26)) (w.heap.size + 1) 42 [.slice none 0 0] := by
    have := (Row.new (w.alloc (.cells #[.int .i64 m, .slice A n cc, .slice B n2 d] 24)) 42 [.slice none 0 0]).alloc (.cells #[.int .i64 0] 26)
    rwa [World.size_alloc] at this
  have h2 : Row (((w.alloc (.cells #[.int .i64 m, .slice A n cc, .slice B n2 d] 24)).alloc (.cells #[.slice none 0 0] 42)).alloc (.cells #[.int .i64 0] 26)) (w.heap.size + 1 + 1) 26 [.int .i64 0] := by
    have := Row.new ((w.alloc (.cells #[.int .i64 m, .slice A n cc, .slice B n2 d] 24)).alloc (.cells #[.slice none 0 0] 42)) 26 [.int .i64 0]
    rwa [World.size_alloc, World.size_alloc] at this
  obtain ⟨W0, hW0⟩ : ∃ W0, (((w.alloc (.cells #[.int .i64 m, .slice A n cc, .slice B n2 d] 24)).alloc (.cells #[.slice none 0 0] 42)).alloc (.cells #[.int .i64 0] 26)) = W0 := ⟨_, rfl⟩
  rw [hW0] at hx h0 h1 h2
  have HW0 := hid hW0
  have HX := hid hx
  have R0 := hid h0
  have R1 := hid h1
  have R2 := hid h2
  obtain ⟨f0, f1, f2, -, -, -⟩ := row_facts3 h0
  clear hW0 hx h0 h1 h2
  have hcn : (c != 0) = true := by rw [bne_iff_ne]; exact beq_eq_false_iff_ne.1 hc0
  go_enter Tryz.func25, Tryz.ntmps25
  go_upto_region 1 with fail
  rw [HW0.out]
  go_wp2_with fail
  refine (check_any _ m us ad l k 0 1000 W0 (HV.out.ext HX.out) hlen hb1 hb2 hc).mono ?_
  rintro e w4 ⟨rfl, hx4⟩
  have HX4 := hid (HX.out.step hx4)
  have q1 := R1.out.ext hx4
  have q2 := R2.out.ext hx4
  have c1 : w4.cell? ⟨w.heap.size + 1, 0, none⟩ = some _ := q1.cell 0
  have g1 := q1.free 0
  have c2 : w4.cell? ⟨w.heap.size + 1 + 1, 0, none⟩ = some _ := q2.cell 0
  have g2 := q2.free 0
  clear f0 f1 f2  q1 q2 hx4
  have HF : Hid (Ext w ((w4.setCell ⟨w.heap.size + 1, 0, none⟩ (.slice none 0 0)).setCell ⟨w.heap.size + 1 + 1, 0, none⟩ (.int .i64 c))) := hid ((HX4.out.set' (p := ⟨w.heap.size + 1, 0, none⟩) (by show w.heap.size ≤ w.heap.size + 1; omega) (.slice none 0 0)).set' (p := ⟨w.heap.size + 1 + 1, 0, none⟩) (by show w.heap.size ≤ w.heap.size + 1 + 1; omega) (.int .i64 c))
  go_wp2
  refine bodyPost_ret (v := .tuple #[.slice none 0 0, .int .i64 c]) (by simp [results, Tryz.results25, go_sem, c1, c2]) rfl ⟨rfl, HF.out⟩
set_option maxRecDepth 100000 in
set_option maxHeartbeats 1600000 in
theorem falls_bad (v : Value) (m : Int) (us ad : List Int) (l : List UInt8) (k : Int) (w : World) (hv : MapV w v m us ad) (hlen : l.length ≤ 140737488351232) {b1 b2 : Bool} (hb1 : Hid (mapB m us ad = b1)) (hb2 : Hid (K.validL l = b2))
    {c : Int} (hc : Hid (c = if b1 = true ∧ b2 = true then (if k < 1 ∨ 20000 < k then 2 else 0) else 1)) (hc0 : (c == 0) = false) :
    Calls Tryz.prog 28 #[v, .string (Str l), .int .i64 k] w (fun e w' => e = .returned (.tuple #[.int .i64 0, .string ⟨#[]⟩, .int .i64 c]) ∧ Ext w w') := by
  have HV := hid hv
  obtain ⟨A, n, cc, B, n2, d, rfl, -⟩ := hv
  have hx : Ext w (((((w.alloc (.cells #[.int .i64 m, .slice A n cc, .slice B n2 d] 24)).alloc (.cells #[.string (Str l)] 9)).alloc (.cells #[.int .i64 0] 3)).alloc (.cells #[.string ⟨#[]⟩] 9)).alloc (.cells #[.int .i64 0] 26)) := (((((Ext.rfl' w).alloc' _).alloc' _).alloc' _).alloc' _).alloc' _
  have h0 : Row (((((w.alloc (.cells #[.int .i64 m, .slice A n cc, .slice B n2 d] 24)).alloc (.cells #[.string (Str l)] 9)).alloc (.cells #[.int .i64 0] 3)).alloc (.cells #[.string ⟨#[]⟩] 9)).alloc (.cells #[.int .i64 0] 26)) (w.heap.size) 24 [.int .i64 m, .slice A n cc, .slice B n2 d] := by
    have := ((((Row.new w 24 [.int .i64 m, .slice A n cc, .slice B n2 d]).alloc (.cells #[.string (Str l)] 9)).alloc (.cells #[.int .i64 0] 3)).alloc (.cells #[.string ⟨#[]⟩] 9)).alloc (.cells #[.int .i64 0] 26)
    exact this
  have h1 : Row (((((w.alloc (.cells #[.int .i64 m, .slice A n cc, .slice B n2 d] 24)).alloc (.cells #[.string (Str l)] 9)).alloc (.cells #[.int .i64 0] 3)).alloc (.cells #[.string ⟨#[]⟩] 9)).alloc (.cells #[.int .i64 0] 26)) (w.heap.size + 1) 9 [.string (Str l)] := by
    have := (((Row.new (w.alloc (.cells #[.int .i64 m, .slice A n cc, .slice B n2 d] 24)) 9 [.string (Str l)]).alloc (.cells #[.int .i64 0] 3)).alloc (.cells #[.string ⟨#[]⟩] 9)).alloc (.cells #[.int .i64 0] 26)
    rwa [World.size_alloc] at this
  have h2 : Row (((((w.alloc (.cells #[.int .i64 m, .slice A n cc, .slice B n2 d] 24)).alloc (.cells #[.string (Str l)] 9)).alloc (.cells #[.int .i64 0] 3)).alloc (.cells #[.string ⟨#[]⟩] 9)).alloc (.cells #[.int .i64 0] 26)) (w.heap.size + 1 + 1) 3 [.int .i64 0] := by
    have := ((Row.new ((w.alloc (.cells #[.int .i64 m, .slice A n cc, .slice B n2 d] 24)).alloc (.cells #[.string (Str l)] 9)) 3 [.int .i64 0]).alloc (.cells #[.string ⟨#[]⟩] 9)).alloc (.cells #[.int .i64 0] 26)
    rwa [World.size_alloc, World.size_alloc] at this
  have h3 : Row (((((w.alloc (.cells #[.int .i64 m, .slice A n cc, .slice B n2 d] 24)).alloc (.cells #[.string (Str l)] 9)).alloc (.cells #[.int .i64 0] 3)).alloc (.cells #[.string ⟨#[]⟩] 9)).alloc (.cells #[.int .i64 0] 26)) (w.heap.size + 1 + 1 + 1) 9 [.string ⟨#[]⟩] := by
    have := (Row.new (((w.alloc (.cells #[.int .i64 m, .slice A n cc, .slice B n2 d] 24)).alloc (.cells #[.string (Str l)] 9)).alloc (.cells #[.int .i64 0] 3)) 9 [.string ⟨#[]⟩]).alloc (.cells #[.int .i64 0] 26)
    rwa [World.size_alloc, World.size_alloc, World.size_alloc] at this
  have h4 : Row (((((w.alloc (.cells #[.int .i64 m, .slice A n cc, .slice B n2 d] 24)).alloc (.cells #[.string (Str l)] 9)).alloc (.cells #[.int .i64 0] 3)).alloc (.cells #[.string ⟨#[]⟩] 9)).alloc (.cells #[.int .i64 0] 26)) (w.heap.size + 1 + 1 + 1 + 1) 26 [.int .i64 0] := by
    have := Row.new ((((w.alloc (.cells #[.int .i64 m, .slice A n cc, .slice B n2 d] 24)).alloc (.cells #[.string (Str l)] 9)).alloc (.cells #[.int .i64 0] 3)).alloc (.cells #[.string ⟨#[]⟩] 9)) 26 [.int .i64 0]
    rwa [World.size_alloc, World.size_alloc, World.size_alloc, World.size_alloc] at this
  obtain ⟨W0, hW0⟩ : ∃ W0, (((((w.alloc (.cells #[.int .i64 m, .slice A n cc, .slice B n2 d] 24)).alloc (.cells #[.string (Str l)] 9)).alloc (.cells #[.int .i64 0] 3)).alloc (.cells #[.string ⟨#[]⟩] 9)).alloc (.cells #[.int .i64 0] 26)) = W0 := ⟨_, rfl⟩
  rw [hW0] at hx h0 h1 h2 h3 h4
  have HW0 := hid hW0
  have HX := hid hx
  have R0 := hid h0
  have R1 := hid h1
  have R2 := hid h2
  have R3 := hid h3
  have R4 := hid h4
  obtain ⟨f0, f1, f2, -, -, -⟩ := row_facts3 h0
  have x1 : W0.cell? ⟨w.heap.size + 1, 0, none⟩ = some _ := h1.cell 0
  clear hW0 hx h0 h1 h2 h3 h4
  have hcn : (c != 0) = true := by rw [bne_iff_ne]; exact beq_eq_false_iff_ne.1 hc0
  go_enter Tryz.func28, Tryz.ntmps28
  go_upto_region 1 with fail
  rw [HW0.out]
  go_wp2_with fail
  refine (check_any _ m us ad l k 1 20000 W0 (HV.out.ext HX.out) hlen hb1 hb2 hc).mono ?_
  rintro e w4 ⟨rfl, hx4⟩
  have HX4 := hid (HX.out.step hx4)
  have q1 := R1.out.ext hx4
  have q2 := R2.out.ext hx4
  have q3 := R3.out.ext hx4
  have q4 := R4.out.ext hx4
  have c1 : w4.cell? ⟨w.heap.size + 1, 0, none⟩ = some _ := q1.cell 0
  have g1 := q1.free 0
  have c2 : w4.cell? ⟨w.heap.size + 1 + 1, 0, none⟩ = some _ := q2.cell 0
  have g2 := q2.free 0
  have c3 : w4.cell? ⟨w.heap.size + 1 + 1 + 1, 0, none⟩ = some _ := q3.cell 0
  have g3 := q3.free 0
  have c4 : w4.cell? ⟨w.heap.size + 1 + 1 + 1 + 1, 0, none⟩ = some _ := q4.cell 0
  have g4 := q4.free 0
  clear f0 f1 f2 x1 q1 q2 q3 q4 hx4
  have HF : Hid (Ext w (((w4.setCell ⟨w.heap.size + 1 + 1, 0, none⟩ (.int .i64 0)).setCell ⟨w.heap.size + 1 + 1 + 1, 0, none⟩ (.string ⟨#[]⟩)).setCell ⟨w.heap.size + 1 + 1 + 1 + 1, 0, none⟩ (.int .i64 c))) := hid (((HX4.out.set' (p := ⟨w.heap.size + 1 + 1, 0, none⟩) (by show w.heap.size ≤ w.heap.size + 1 + 1; omega) (.int .i64 0)).set' (p := ⟨w.heap.size + 1 + 1 + 1, 0, none⟩) (by show w.heap.size ≤ w.heap.size + 1 + 1 + 1; omega) (.string ⟨#[]⟩)).set' (p := ⟨w.heap.size + 1 + 1 + 1 + 1, 0, none⟩) (by show w.heap.size ≤ w.heap.size + 1 + 1 + 1 + 1; omega) (.int .i64 c))
  go_wp2
  refine bodyPost_ret (v := .tuple #[.int .i64 0, .string ⟨#[]⟩, .int .i64 c]) (by simp [results, Tryz.results28, go_sem, c2, c3, c4]) rfl ⟨rfl, HF.out⟩
end Go.Proofs.YtflgkijmbpcnfaaGreatDoor
