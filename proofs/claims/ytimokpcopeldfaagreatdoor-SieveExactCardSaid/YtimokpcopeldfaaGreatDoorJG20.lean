/- Joined texts: package katabasistop: after; package katabasistop: leads; the law WordApplies; the reference's Rest of layer 3. -/
import Derived.Test.YtimokpcopeldfaaGreatDoorJG18
import Derived.Test.YtimokpcopeldfaaGreatDoorJG19
import Derived.Test.YtimokpcopeldfaaGreatDoorJG17
import Derived.Deep.LoopGhost
set_option linter.unusedSimpArgs false
set_option linter.unusedVariables false
/- package katabasistop: after -/
namespace Go.Proofs.YtimokpcopeldfaaGreatDoor
open Go.RowKit
/-- the number after some steps, and its word -/
def AfterPost (m : Int) (us ad : List Int) (x : Int) (k : Nat) (w : World) (e : Ending) (w' : World) : Prop :=
  ∃ (vy : Value) (L : Option Addr) (c : Nat), e = .returned (.tuple #[vy, .slice L k c]) ∧ RefV w' vy (orbN m us ad k x) ∧ Rd w' L (Is (wordI m us ad k x)) ∧ Ext w w'
set_option maxRecDepth 100000 in
set_option maxHeartbeats 6400000 in
theorem hafter_any (v vn : Value) (m x : Int) (us ad : List Int) (k : Nat) (w : World) (hv : MapV w v m us ad) (hM : Hid (mapP m us ad)) (hn : RefV w vn x) (hf : Hid (∀ j, j ≤ k → K.fits (orbN m us ad j x))) (hk : k ≤ 1000) :
    Calls Tryz.prog 39 #[v, vn, .int .i64 (k : Int)] w (AfterPost m us ad x k w) := by
  obtain ⟨i0, hi, hz0, hz1, hz2⟩ := info_parts infoI
  have hm1 : 1 ≤ m := by have := hM.out.1; omega
  have hm2 : m ≤ 2147483647 := by have := hM.out.2.1; omega
  have HV := hid hv
  have HN := hid hn
  obtain ⟨A, n, cc, B, n2, d, rfl, -⟩ := hv
  obtain ⟨A1, k1, c1, xs1, b1, rfl, -⟩ := hn
  go_enter Tryz.func39, Tryz.ntmps39
  go_upto_region 1 with fail
  have hx : Ext w (((w.alloc (.cells #[.int .i64 m, .slice A n cc, .slice B n2 d] 24)).alloc (.cells #[.bool b1, .slice A1 k1 c1] 47)).alloc (.cells #[.bool false, .slice none 0 0] 47)) := (((Ext.rfl' w).alloc' _).alloc' _).alloc' _
  have r1 : Row (((w.alloc (.cells #[.int .i64 m, .slice A n cc, .slice B n2 d] 24)).alloc (.cells #[.bool b1, .slice A1 k1 c1] 47)).alloc (.cells #[.bool false, .slice none 0 0] 47)) w.heap.size 24 [.int .i64 m, .slice A n cc, .slice B n2 d] := ((Row.new w _ _).alloc _).alloc _
  have r2 : Row (((w.alloc (.cells #[.int .i64 m, .slice A n cc, .slice B n2 d] 24)).alloc (.cells #[.bool b1, .slice A1 k1 c1] 47)).alloc (.cells #[.bool false, .slice none 0 0] 47)) (w.heap.size + 1) 47 [.bool b1, .slice A1 k1 c1] := by
    have := (Row.new (w.alloc (.cells #[.int .i64 m, .slice A n cc, .slice B n2 d] 24)) 47 [.bool b1, .slice A1 k1 c1]).alloc (.cells #[.bool false, .slice none 0 0] 47)
    rwa [World.size_alloc] at this
  have r3 : Row (((w.alloc (.cells #[.int .i64 m, .slice A n cc, .slice B n2 d] 24)).alloc (.cells #[.bool b1, .slice A1 k1 c1] 47)).alloc (.cells #[.bool false, .slice none 0 0] 47)) (w.heap.size + 1 + 1) 47 [.bool false, .slice none 0 0] := by
    have := Row.new ((w.alloc (.cells #[.int .i64 m, .slice A n cc, .slice B n2 d] 24)).alloc (.cells #[.bool b1, .slice A1 k1 c1] 47)) 47 [.bool false, .slice none 0 0]
    rwa [World.size_alloc, World.size_alloc] at this
  have hsz : (((w.alloc (.cells #[.int .i64 m, .slice A n cc, .slice B n2 d] 24)).alloc (.cells #[.bool b1, .slice A1 k1 c1] 47)).alloc (.cells #[.bool false, .slice none 0 0] 47)).heap.size = (w.heap.size + 1 + 1 + 1) := by simp
  obtain ⟨W2, hW2⟩ : ∃ W2, (((w.alloc (.cells #[.int .i64 m, .slice A n cc, .slice B n2 d] 24)).alloc (.cells #[.bool b1, .slice A1 k1 c1] 47)).alloc (.cells #[.bool false, .slice none 0 0] 47)) = W2 := ⟨_, rfl⟩
  rw [hW2] at hx r1 r2 r3 hsz
  rw [hW2]
  have HX := hid hx
  have R1 := hid r1
  have R2 := hid r2
  have R3 := hid r3
  have HSZ := hid hsz
  clear hW2 hx r1 r2 r3 hsz
  go_wp2_with fail
  go_loopw [8, 9] (fun lv iz wr => ∃ (j : Nat) (z : Int) (b : Bool) (P : Option Addr) (q c : Nat) (L : Option Addr) (cap : Nat) (ws : List Int), j ≤ k ∧ lv = .slice L j cap ∧ iz = .int .i64 (j : Int) ∧ Row wr w.heap.size 24 [.int .i64 m, .slice A n cc, .slice B n2 d] ∧ Row wr (w.heap.size + 1) 47 [.bool b, .slice P q c] ∧ Row wr (w.heap.size + 1 + 1) 47 [.bool false, .slice none 0 0] ∧ wr.ownsRow (w.heap.size + 1 + 1 + 1) 3 1 (.slice L j cap) j (Is ws) ∧ Hid (∀ g c', Value.slice L j cap = .slice (some ⟨g, 0, none⟩) j c' → SpZ wr g j) ∧ RefV wr (.agg #[.bool b, .slice P q c]) z ∧ Hid (z.natAbs ≤ BIG) ∧ Hid (z = orbN m us ad j x ∧ ws = wordI m us ad j x) ∧ Ext w wr) (fun _ iz _ => k - (intOf iz).toNat)
  case atStart =>
    refine ⟨0, x, b1, A1, k1, c1, none, 0, [], by omega, rfl, rfl, R1.out, R2.out, R3.out, World.ownsRow_nil _ _ _ _, hid (fun g c' h => by cases h), HN.out.ext HX.out, hid (fits_big (hf.out 0 (by omega))), hid ⟨rfl, rfl⟩, HX.out⟩
  case round =>
    obtain ⟨j, z, b, P, q, c, L, cap, ws, hj, rfl, rfl, hr1, hr2, hr3, hown, HSP, hvz, ZB, HAT, hex⟩ := hrel
    have RM := hid hr1
    have RN := hid hr2
    have RZ := hid hr3
    have HOWN := hid hown
    have VZ := hid hvz
    have EX := hid hex
    clear hr1 hr2 hr3 hown hvz hex R1 R2 R3
    by_cases hlt : j < k
    · obtain ⟨g0, g1, g2, g3⟩ := row_facts RN.out
      have HFZ : Hid (K.fits z) := hid (by rw [HAT.out.1]; exact hf.out j hj)
      have HX5 := hid (Ext.rfl' wr)
      obtain ⟨f0, f1, f2, -, -, -⟩ := row_facts3 RM.out
      go_wp2_with fail
      refine (rest2_any _ _ m z us ad wr (HV.out.ext (EX.out.step HX5.out)) (VZ.out.ext HX5.out) ZB.out hm1 hm2).mono ?_
      rintro e w6 ⟨rfl, hx6⟩
      have HX6 := hid (HX5.out.step hx6)
      clear f0 f1 f2 g0 g1 g2 g3 hx6
      have OW6 := hid (own_keep HOWN.out (fun gg _ h2 => HX6.out.block gg h2))
      have SP6 : Hid (∀ g c', Value.slice L j cap = .slice (some ⟨g, 0, none⟩) j c' → SpZ w6 g j) := hid (fun g c' h => by
        have hb : g < wr.heap.size := by
          injection h with h1 h2 h3
          subst h1
          exact (HOWN.out.lt g rfl).2
        exact (HSP.out g c' h).keep (HX6.out.block g hb))
      obtain ⟨rr, hrr⟩ : ∃ rr, z % m = rr := ⟨_, rfl⟩
      have HRR := hid hrr
      rw [hrr]
      have hbs : (w.heap.size + 1 + 1 + 1) ≤ (w6.alloc (.cells #[.int .i64 rr] 3)).heap.size := by
        have h1 := HX6.out.size
        have h2 := EX.out.size
        have h3 := RZ.out.lt
        rw [World.size_alloc]; omega
      clear hrr
      go_wp2_with (at_builtin; refine wpList_append_int rfl _ _ 22 rfl (w.heap.size + 1 + 1 + 1) 3 i0 Tryz.underlying22 hi hz0 hz1 hz2 (.slice L j cap) j (Is ws) rfl (OW6.out.alloc _) (fun g c' h => (SP6.out g c' h).keep (Below.heap_alloc w6 _ g (by injection h with h1 h2 h3; subst h1; exact (OW6.out.lt g rfl).2))) ⟨w6.heap.size, 0, none⟩ 1 rr rfl (cell_one_new _ _ _) (by omega) hbs ?_)
      intro g' cap' w8 hown8 hgrow hcap8 hsp8 hkeep
      have hk8 : KeepT w6 w8 := (KeepT.of_ext ((Ext.rfl' w6).alloc' _)).trans hkeep
      have hfar : ∀ kk, Value.ownBlock (.slice L j cap) = some kk → (w.heap.size + 1 + 1 + 1) ≤ kk := fun kk hkk => (OW6.out.lt kk hkk).1
      have rm8 := (RM.out.ext HX6.out).grownO hgrow (fun kk hkk => by have := hfar kk hkk; omega)
      have rn8 := (RN.out.ext HX6.out).grownO hgrow (fun kk hkk => by have := hfar kk hkk; omega)
      have rz8 := (RZ.out.ext HX6.out).grownO hgrow (fun kk hkk => by have := hfar kk hkk; omega)
      have RZ8 := hid rz8
      have vz8 := (VZ.out.ext HX6.out).keptT hk8
      have ex8 : Ext w w8 := ((EX.out.step HX6.out).alloc' _).grown hgrow (by have := (EX.out.step HX6.out).size; rw [World.size_alloc]; omega) (fun kk hkk => by have := hfar kk hkk; omega)
      have RM8 := hid rm8
      have RN8 := hid rn8
      have VZ8 := hid vz8
      have EX8 := hid ex8
      have OW8 := hid hown8
      have SP8 := hid hsp8
      clear hown8 hgrow hcap8 hsp8 hkeep hk8 hfar rm8 rn8 rz8 vz8 ex8 hbs
      obtain ⟨f0, f1, f2, -, -, -⟩ := row_facts3 RM8.out
      obtain ⟨g0, g1, g2, g3⟩ := row_facts RN8.out
      go_wp2_with fail
      refine (step2_fits _ _ m z us ad w8 (HV.out.ext EX8.out) hM VZ8.out HFZ).mono ?_
      rintro e w9 ⟨v9, rfl, hv9, hx9⟩
      have HX9 := hid hx9
      have HV9 := hid hv9
      obtain ⟨A9, k9, c9, xs9, b9, rfl, -⟩ := hv9
      have rn9 := RN8.out.ext HX9.out
      have HFIN : Hid (∀ WF, WF = ((w9.setCell ⟨w.heap.size + 1, 0, none⟩ (.bool b9)).setCell ⟨w.heap.size + 1, 1, none⟩ (.slice A9 k9 c9)) → ∃ (jn : Nat) (z : Int) (b : Bool) (P : Option Addr) (q c : Nat) (L : Option Addr) (cap : Nat) (ws : List Int), jn ≤ k ∧ Value.slice (some ⟨g', 0, none⟩) (j + 1) cap' = .slice L jn cap ∧ Value.int .i64 ((j : Int) + 1) = .int .i64 (jn : Int) ∧ Row WF w.heap.size 24 [.int .i64 m, .slice A n cc, .slice B n2 d] ∧ Row WF (w.heap.size + 1) 47 [.bool b, .slice P q c] ∧ Row WF (w.heap.size + 1 + 1) 47 [.bool false, .slice none 0 0] ∧ WF.ownsRow (w.heap.size + 1 + 1 + 1) 3 1 (.slice L jn cap) jn (Is ws) ∧ Hid (∀ g c', Value.slice L jn cap = .slice (some ⟨g, 0, none⟩) jn c' → SpZ WF g jn) ∧ RefV WF (.agg #[.bool b, .slice P q c]) z ∧ Hid (z.natAbs ≤ BIG) ∧ Hid (z = orbN m us ad jn x ∧ ws = wordI m us ad jn x) ∧ Ext w WF) := hid (by
        rintro WF rfl
        have hb7 : ∀ gg, (w.heap.size + 1 + 1 + 1) ≤ gg → gg < w8.heap.size → ((w9.setCell ⟨w.heap.size + 1, 0, none⟩ (.bool b9)).setCell ⟨w.heap.size + 1, 1, none⟩ (.slice A9 k9 c9)).heap[gg]? = w8.heap[gg]? := fun gg h1 h2 => by
          rw [Below.heap_setCell _ _ _ gg (by show gg ≠ w.heap.size + 1; omega), Below.heap_setCell _ _ _ gg (by show gg ≠ w.heap.size + 1; omega)]
          exact HX9.out.block gg h2
        refine ⟨j + 1, stepI m us ad z, b9, A9, k9, c9, some ⟨g', 0, none⟩, cap', ws ++ [rr], by omega, rfl, by simp, ((RM8.out.ext HX9.out).far (by show w.heap.size ≠ w.heap.size + 1; omega) _).far (by show w.heap.size ≠ w.heap.size + 1; omega) _, (rn9.set 0 _).set 1 _, ((RZ8.out.ext HX9.out).far (by show w.heap.size + 1 + 1 ≠ w.heap.size + 1; omega) _).far (by show w.heap.size + 1 + 1 ≠ w.heap.size + 1; omega) _, ?_, hid ?_, HV9.out.box rn9, hid (stepI_big hM.out HFZ.out), hid ?_, ((EX8.out.step HX9.out).set' (by show w.heap.size ≤ w.heap.size + 1; omega) _).set' (by show w.heap.size ≤ w.heap.size + 1; omega) _⟩
        · have := own_keep OW8.out hb7
          rw [show Is (ws ++ [rr]) = Is ws ++ [.int .i64 rr] by simp]
          exact this
        · intro g c' h
          injection h with h1 h2 h3
          injection h1 with h1
          injection h1 with h1
          subst h1
          exact SP8.out.keep (hb7 _ (own_ge OW8.out).1 (own_ge OW8.out).2.1)
        · rw [← HRR.out, HAT.out.1, HAT.out.2]; exact ⟨rfl, by rw [word_snoc]⟩)
      clear f0 f1 f2 g0 g1 g2 g3 hx9
      obtain ⟨g0, g1, g2, g3⟩ := row_facts rn9
      clear rn9
      go_wp2
      go_roundw
      case rel => exact HFIN.out _ rfl
      case measure => first | (simp [intOf]; done) | (simp [intOf]; omega)
    · obtain rfl : k = j := by omega
      obtain ⟨z0, z1, z2, z3⟩ := row_facts RZ.out
      obtain ⟨g0, g1, g2, g3⟩ := row_facts RN.out
      have HF : Hid (AfterPost m us ad x k w (.returned (.tuple #[.agg #[.bool b, .slice P q c], .slice L k cap])) ((wr.setCell ⟨w.heap.size + 1 + 1, 0, none⟩ (.bool b)).setCell ⟨w.heap.size + 1 + 1, 1, none⟩ (.slice P q c))) := hid (by
        refine ⟨_, L, cap, rfl, ?_, ?_, (EX.out.set' (by show w.heap.size ≤ w.heap.size + 1 + 1; omega) _).set' (by show w.heap.size ≤ w.heap.size + 1 + 1; omega) _⟩
        · rw [← HAT.out.1]; exact VZ.out.box RZ.out
        · rw [← HAT.out.2]
          exact Rd.of_own (own_keep HOWN.out (fun gg h1 h2 => by
            rw [Below.heap_setCell _ _ _ gg (by show gg ≠ w.heap.size + 1 + 1; omega), Below.heap_setCell _ _ _ gg (by show gg ≠ w.heap.size + 1 + 1; omega)])))
      go_wp2
      refine bodyPost_ret (v := .tuple #[.agg #[.bool b, .slice P q c], .slice L k cap]) (by simp [results, Tryz.results39, go_sem, z0, z1]) rfl HF.out
end Go.Proofs.YtimokpcopeldfaaGreatDoor
/- package katabasistop: leads -/
namespace Go.Proofs.YtimokpcopeldfaaGreatDoor
open Go.RowKit
set_option maxRecDepth 100000 in
set_option maxHeartbeats 3200000 in
theorem leads_any (w : World) (ht : Tab w) : Calls Tryz.prog 36 #[] w (fun e w' => e = .returned (.bool true) ∧ Ext w w') := by
  have HT := hid ht
  go_enter Tryz.func36, Tryz.ntmps36
  go_wp2_with fail
  refine (stepCollatz_any w).mono ?_
  rintro e w1 ⟨v1, rfl, hn1, hx1⟩
  have HV1 := hid hn1.mapV
  obtain ⟨g1, g2, k1, rfl, -⟩ := hn1
  have HX1 := hid hx1
  clear hx1
  go_wp2_with fail
  refine (line110_ok _ _ _ (HV1.out.ext ((Ext.rfl' _).alloc' _)) (Row.new _ _ _).rd0 (HT.out.ext (HX1.out.alloc' _))).mono ?_
  rintro e w2 ⟨rfl, hx2⟩
  have hy2 := (((Ext.rfl' w1).alloc' _).step hx2).alloc' (.cells #[.string ⟨#[57]⟩, .string ⟨#[53]⟩, .string ⟨#[56]⟩] 38)
  have r2 : Row (w2.alloc (.cells #[.string ⟨#[57]⟩, .string ⟨#[53]⟩, .string ⟨#[56]⟩] 38)) w2.heap.size 38 [.string ⟨#[57]⟩, .string ⟨#[53]⟩, .string ⟨#[56]⟩] := Row.new w2 _ _
  obtain ⟨W2, hW2⟩ : ∃ W2, w2.alloc (.cells #[.string ⟨#[57]⟩, .string ⟨#[53]⟩, .string ⟨#[56]⟩] 38) = W2 := ⟨_, rfl⟩
  rw [hW2] at hy2 r2
  have HY2 := hid (HX1.out.step hy2)
  have HW2 := hid hW2
  have R2 := hid r2
  clear hx2 hy2 r2 hW2 HV1
  go_upto_region 2 with fail
  rw [HW2.out]
  go_wp2_with fail
  refine (stepCollatz_any W2).mono ?_
  rintro e w3 ⟨v3, rfl, hn3, hx3⟩
  have HV3 := hid hn3.mapV
  obtain ⟨g3, g4, k3, rfl, -⟩ := hn3
  have HX3 := hid hx3
  clear hx3
  go_wp2_with fail
  refine (rest110_ok _ _ _ (HV3.out.ext ((Ext.rfl' _).alloc' _)) (Row.new _ _ _).rd0 (HT.out.ext (HY2.out.step (HX3.out.alloc' _)))).mono ?_
  rintro e w4 ⟨rfl, hx4⟩
  have HX4 := hid ((HX3.out.alloc' _).step hx4)
  clear hx4
  obtain ⟨f0, f1, f2, -, -, -⟩ := row_facts3 (R2.out.ext HX4.out)
  have HZ := hid (HY2.out.step HX4.out)
  go_wp2
  go_ret
  exact ⟨rfl, HZ.out⟩
end Go.Proofs.YtimokpcopeldfaaGreatDoor
/- the law WordApplies -/
namespace Go.Proofs.YtimokpcopeldfaaGreatDoor
open Go.RowKit
theorem lin_big {M N A : Int} (h1 : K.fits M) (h2 : K.fits N) (h3 : K.fits A) : (M * N + A).natAbs ≤ BIG := by
  have a1 := fits_top h1
  have a2 := fits_top h2
  have a3 := fits_top h3
  have a4 := mul_top a1 a2
  have a5 : (M * N).natAbs = M.natAbs * N.natAbs := Int.natAbs_mul _ _
  have a6 := Int.natAbs_add_le (M * N) A
  have e1 : TOP (223 + 223) = TOP 223 * TOP 223 := TOP_add _ _
  have e2 : TOP (223 + 223 + 1) = TOP (223 + 223) * TOP 1 := TOP_add _ _
  have e3 : TOP 1 = 1000000000 := rfl
  have e4 := TOP_pos 223
  have e5 : TOP 223 * 1 ≤ TOP 223 * TOP 223 := Nat.mul_le_mul_left _ e4
  refine le_big (a := 223 + 223 + 1) ?_ (by omega)
  rw [e2, e3]
  generalize TOP (223 + 223) = P at *
  generalize TOP 223 = Q at *
  omega
/-- what Apply tells -/
def AppP (M A D N : Int) (s : ByteArray) (b : Bool) (c : Int) : Prop :=
  (D ≤ 0 → s = ⟨#[]⟩ ∧ b = false ∧ c = 2) ∧ (0 < D → ¬ K.fits (M * N + A) → s = ⟨#[]⟩ ∧ b = false ∧ c = 3) ∧ (0 < D → K.fits (M * N + A) → (M * N + A) % D ≠ 0 → s = ⟨#[]⟩ ∧ b = false ∧ c = 0) ∧
    (0 < D → K.fits (M * N + A) → (M * N + A) % D = 0 → s = Str (K.txt ((M * N + A) / D)) ∧ b = true ∧ c = 0)
theorem apply_any (lm la ld ln : List UInt8) (w : World) (v0 : K.validL lm = true) (v1 : K.validL la = true) (v2 : K.validL ld = true) (v3 : K.validL ln = true) (ht : Tab w) :
    Calls Tryz.prog 25 #[.agg #[.string (Str lm), .string (Str la), .string (Str ld)], .string (Str ln)] w (fun e w' => ∃ s b c, e = .returned (.tuple #[.string s, .bool b, .int .i64 c]) ∧ AppP (K.numL lm) (K.numL la) (K.numL ld) (K.numL ln) s b c ∧ Ext w w') := by
  obtain ⟨t0, f0⟩ := K.txt_numL lm v0
  obtain ⟨t1, f1⟩ := K.txt_numL la v1
  obtain ⟨t2, f2⟩ := K.txt_numL ld v2
  obtain ⟨t3, f3⟩ := K.txt_numL ln v3
  by_cases hd : 0 < K.numL ld
  · by_cases hf : K.fits (K.numL lm * K.numL ln + K.numL la)
    · by_cases hr : (K.numL lm * K.numL ln + K.numL la) % K.numL ld = 0
      · have h := apply_yes (K.numL lm) (K.numL la) (K.numL ld) (K.numL ln) w (hid f0) (hid f1) (hid f2) (hid f3) ht hd (hid hf) hr
        rw [t0, t1, t2, t3] at h
        refine h.mono ?_
        rintro e w' ⟨rfl, h2⟩
        exact ⟨_, _, _, rfl, ⟨fun h => by omega, fun _ h => absurd hf h, fun _ _ h => absurd hr h, fun _ _ _ => ⟨rfl, rfl, rfl⟩⟩, h2⟩
      · have h := apply_frac (K.numL lm) (K.numL la) (K.numL ld) (K.numL ln) w (hid f0) (hid f1) (hid f2) (hid f3) ht hd (hid hf) hr
        rw [t0, t1, t2, t3] at h
        refine h.mono ?_
        rintro e w' ⟨rfl, h2⟩
        exact ⟨_, _, _, rfl, ⟨fun h => by omega, fun _ h => absurd hf h, fun _ _ _ => ⟨rfl, rfl, rfl⟩, fun _ _ h => absurd h hr⟩, h2⟩
    · have h := apply_size (K.numL lm) (K.numL la) (K.numL ld) (K.numL ln) w (hid f0) (hid f1) (hid f2) (hid f3) ht hd (hid hf)
      rw [t0, t1, t2, t3] at h
      refine h.mono ?_
      rintro e w' ⟨rfl, h2⟩
      exact ⟨_, _, _, rfl, ⟨fun h => by omega, fun _ _ => ⟨rfl, rfl, rfl⟩, fun _ h => absurd h hf, fun _ h => absurd h hf⟩, h2⟩
  · have h := apply_arg (K.numL lm) (K.numL la) (K.numL ld) (K.numL ln) w (hid f0) (hid f1) (hid f2) (hid f3) ht (by omega)
    rw [t0, t1, t2, t3] at h
    refine h.mono ?_
    rintro e w' ⟨rfl, h2⟩
    exact ⟨_, _, _, rfl, ⟨fun _ => ⟨rfl, rfl, rfl⟩, fun h => absurd h hd, fun h => absurd h hd, fun h => absurd h hd⟩, h2⟩
end Go.Proofs.YtimokpcopeldfaaGreatDoor
/- the reference's Rest of layer 3 -/
namespace Go.Proofs.YtimokpcopeldfaaGreatDoor
open Go.RowKit
theorem NB.lt {B g : Nat} {w : World} (h : NB B w g) : g < w.heap.size := h.2.lt
theorem NB.ne {B g : Nat} {w : World} (h : NB B w g) : ¬ (g = w.heap.size) := by have := h.lt; omega
theorem NB.ne' {B g : Nat} {w : World} (h : NB B w g) : ¬ (w.heap.size = g) := by have := h.lt; omega
theorem NB.row {B g : Nat} {w : World} (h : NB B w g) : Row w g 47 [.bool false, .slice none 0 0] := h.2
theorem NB.ge {B g : Nat} {w : World} (h : NB B w g) : B ≤ g := h.1
theorem NB.two_lt {B : Nat} {w : World} (_ : B ≤ w.heap.size) : w.heap.size < w.heap.size + 1 := Nat.lt_succ_self _
theorem NB.two1 {B : Nat} {w : World} (h : B ≤ w.heap.size) : NB B ((w.alloc (.cells #[.bool false, .slice none 0 0] 47)).alloc (.cells #[.bool false, .slice none 0 0] 47)) w.heap.size := ⟨h, (Row.new w 47 [.bool false, .slice none 0 0]).alloc _⟩
theorem NB.two2 {B : Nat} {w : World} (h : B ≤ w.heap.size) : NB B ((w.alloc (.cells #[.bool false, .slice none 0 0] 47)).alloc (.cells #[.bool false, .slice none 0 0] 47)) (w.heap.size + 1) := by
  refine ⟨by omega, ?_⟩
  have := Row.new (w.alloc (.cells #[.bool false, .slice none 0 0] 47)) 47 [.bool false, .slice none 0 0]
  rwa [World.size_alloc] at this
theorem NB.two1D {B : Nat} {w : World} (h : B ≤ w.heap.size) : NB B ((w.drew.alloc (.cells #[.bool false, .slice none 0 0] 47)).alloc (.cells #[.bool false, .slice none 0 0] 47)) w.heap.size := ⟨h, (Row.new w.drew 47 [.bool false, .slice none 0 0]).alloc _⟩
theorem NB.two2D {B : Nat} {w : World} (h : B ≤ w.heap.size) : NB B ((w.drew.alloc (.cells #[.bool false, .slice none 0 0] 47)).alloc (.cells #[.bool false, .slice none 0 0] 47)) (w.heap.size + 1) := by
  refine ⟨by omega, ?_⟩
  have := Row.new (w.drew.alloc (.cells #[.bool false, .slice none 0 0] 47)) 47 [.bool false, .slice none 0 0]
  rwa [World.size_alloc] at this
theorem no_int2 (b : Bool) (P : Option Addr) (q c : Nat) : NoInt [.bool b, .slice P q c] := by
  intro v hv k x e
  subst e
  simp at hv
theorem NB.noInt {B g : Nat} {w : World} (h : NB B w g) : NoIntB w g := ⟨_, _, _, h.2, by simpa using no_int2 false none 0 0⟩
theorem KeepRd.rfl' (w : World) : KeepRd w w := fun _ _ h => h
theorem KeepRd.allocN {w w1 : World} {o : Obj} (h : KeepRd w w1) : KeepRd w (w1.alloc o) := h.trans (KeepRd.of_ext ((Ext.rfl' w1).alloc' o))
theorem KeepRd.setN {w w1 : World} {g i : Nat} {u : Value} (h : KeepRd w w1) (hn : NoIntB w1 g) : KeepRd w (w1.setCell ⟨g, i, none⟩ u) :=
  h.trans (KeepRd.but hn (by rw [World.size_setCell]; exact Nat.le_refl _) (fun j _ hj => Below.heap_setCell w1 ⟨g, i, none⟩ u j hj))
theorem NoIntB.newN (w : World) (t : TypeId) (b : Bool) (P : Option Addr) (q c : Nat) : NoIntB (w.alloc (.cells #[.bool b, .slice P q c] t)) w.heap.size := ⟨_, _, _, Row.new w t [.bool b, .slice P q c], by simpa using no_int2 b P q c⟩
theorem NoIntB.allocN {w : World} {g : Nat} {o : Obj} (h : NoIntB w g) : NoIntB (w.alloc o) g := by
  refine h.keep (Below.heap_alloc w o g ?_)
  obtain ⟨cs, t, fr, h1, -⟩ := h
  rcases Nat.lt_or_ge g w.heap.size with hl | hl
  · exact hl
  · rw [Array.getElem?_eq_none hl] at h1; cases h1
theorem NoIntB.setN {w : World} {g h i : Nat} {u : Value} (hn : NoIntB w g) (hu : ∀ k x, u ≠ .int k x) : NoIntB (w.setCell ⟨h, i, none⟩ u) g := by
  by_cases hg : g = h
  · subst hg
    obtain ⟨cs, t, fr, h1, h2⟩ := hn
    refine ⟨cs.setIfInBounds i u, t, fr, by simp [World.setCell, Array.getElem?_modify, h1], fun v hv k x => ?_⟩
    rw [Array.toList_setIfInBounds] at hv
    rcases List.mem_or_eq_of_mem_set hv with h3 | h3
    · exact h2 v h3 k x
    · rw [h3]; exact hu k x
  · exact hn.keep (Below.heap_setCell w ⟨h, i, none⟩ u g hg)
theorem NoIntB.setB {w : World} {g h i : Nat} {b : Bool} (hn : NoIntB w g) : NoIntB (w.setCell ⟨h, i, none⟩ (.bool b)) g := hn.setN (fun k x => by simp)
theorem NoIntB.setS {w : World} {g h i : Nat} {P : Option Addr} {q c : Nat} (hn : NoIntB w g) : NoIntB (w.setCell ⟨h, i, none⟩ (.slice P q c)) g := hn.setN (fun k x => by simp)
theorem Row.new2 (w : World) (o : Obj) (t : TypeId) (vs : List Value) : Row ((w.alloc o).alloc (.cells vs.toArray t)) (w.heap.size + 1) t vs := by
  have := Row.new (w.alloc o) t vs
  rwa [World.size_alloc] at this
theorem Row.put2 {w : World} {H : Nat} {t : TypeId} {a b a' b' : Value} (h : Row w H t [a, b]) : Row ((w.setCell ⟨H, 0, none⟩ a').setCell ⟨H, 1, none⟩ b') H t [a', b'] := (h.set 0 a').set 1 b'
theorem Row.far2 {w : World} {H g : Nat} {t : TypeId} {vs : List Value} {a' b' : Value} (h : Row w g t vs) (hne : g ≠ H) : Row ((w.setCell ⟨H, 0, none⟩ a').setCell ⟨H, 1, none⟩ b') g t vs := (h.far (by exact hne) a').far (by exact hne) b'
theorem pair_put {w wr : World} {Ha Hb : Nat} (ra : Row wr Ha 47 [.bool false, .slice none 0 0]) (rb : Row wr Hb 47 [.bool false, .slice none 0 0]) (hne : Hb ≠ Ha) (hx : Ext w wr) (ha : w.heap.size ≤ Ha) (hb : w.heap.size ≤ Hb) {V1 V2 : Value} {X Y : Int} (h1 : RefV wr V1 X) (h2 : RefV wr V2 Y) (a b c d : Value) :
    RefV ((((wr.setCell ⟨Ha, 0, none⟩ a).setCell ⟨Ha, 1, none⟩ b).setCell ⟨Hb, 0, none⟩ c).setCell ⟨Hb, 1, none⟩ d) V1 X ∧ RefV ((((wr.setCell ⟨Ha, 0, none⟩ a).setCell ⟨Ha, 1, none⟩ b).setCell ⟨Hb, 0, none⟩ c).setCell ⟨Hb, 1, none⟩ d) V2 Y ∧
      Ext w ((((wr.setCell ⟨Ha, 0, none⟩ a).setCell ⟨Ha, 1, none⟩ b).setCell ⟨Hb, 0, none⟩ c).setCell ⟨Hb, 1, none⟩ d) := by
  have rb2 := Row.far2 (a' := a) (b' := b) rb hne
  exact ⟨(h1.box ra).box rb2, (h2.box ra).box rb2, (((hx.set' (by show _ ≤ Ha; omega) _).set' (by show _ ≤ Ha; omega) _).set' (by show _ ≤ Hb; omega) _).set' (by show _ ≤ Hb; omega) _⟩
theorem rest2_s (v vn : Value) (m x : Int) (us ad : List Int) (w : World) (hv : MapV w v m us ad) (hn : RefV w vn x) (lx : x.natAbs ≤ BIG) (h1 : 1 ≤ m) (h2 : m ≤ 2147483647) {q : Int} (hq : Hid (x % m = q)) :
    Calls Tryz.prog 30 #[v, vn] w (fun e w' => e = .returned (.int .i64 q) ∧ Ext w w') := by
  rw [← hq.out]; exact rest2_any v vn m x us ad w hv hn lx h1 h2
/-- the rest after j rounds -/
def RestAt (m : Int) (us ad : List Int) (ws : List Int) (j : Nat) (T : Int) : Prop := 0 ≤ T ∧ T < m ^ j ∧ IsWord m us ad (ws.take j) T
theorem fits_pow {m : Int} {us ad ws : List Int} (hM : mapP m us ad) (hW : wordB m ws = true) {j : Nat} (hj : j ≤ ws.length) : K.fits (m ^ j) := by
  have hB := take_B (us := us) (ad := ad) hM hW hj
  have h200 := (wordB_iff.1 hW).1
  have hm := hM.1
  have h := (hB.fits hM (by omega) (r := 0) (by omega) (by omega)).2.2.1
  rw [lineI_div, List.length_take, Nat.min_eq_left hj] at h
  exact h
/-- what a place of the search knows -/
def Spot (m : Int) (M A0 D : Int) (T0 : Int) (a o r : Int) (t0 : Nat) : Prop := ∀ t : Nat, t ≤ t0 → M * (T0 + (t : Int) * D) + A0 = D * (o + (t : Int) * a) ∧ K.fits (T0 + (t : Int) * D) ∧ K.fits (T0 + (t : Int) * D + D)
theorem spot_of {m : Int} {us ad ws : List Int} (hM : mapP m us ad) (hR : regB m us = true) (hW : wordB m ws = true) {j : Nat} (hj : j < ws.length) {T0 : Int} (h : RestAt m us ad ws j T0) :
    ∃ t0 : Nat, (t0 : Int) < m ∧ (orbN m us ad j T0 + (t0 : Int) * (lineI m us ad (ws.take j)).1) % m = ws.getD j 0 ∧
      (∀ t : Nat, (t : Int) < m → (lineI m us ad (ws.take j)).1 * (T0 + (t : Int) * m ^ j) + (lineI m us ad (ws.take j)).2.1 = m ^ j * (orbN m us ad j T0 + (t : Int) * (lineI m us ad (ws.take j)).1) ∧
        0 ≤ T0 + (t : Int) * m ^ j ∧ T0 + (t : Int) * m ^ j < m ^ (j + 1)) ∧
      (∀ t : Nat, (t : Int) < m → (orbN m us ad j T0 + (t : Int) * (lineI m us ad (ws.take j)).1) % m = ws.getD j 0 → RestAt m us ad ws (j + 1) (T0 + (t : Int) * m ^ j)) := by
  have hm := hM.1
  have hm2 := hM.2.1
  have hp : 0 < m ^ j := Int.pow_pos (by omega)
  have hlen : (ws.take j).length = j := by rw [List.length_take]; omega
  have hwt : ∀ r ∈ ws.take j, 0 ≤ r ∧ r < m := fun r hr => (wordB_iff.1 hW).2 r (List.mem_of_mem_take hr)
  have hcop := line_cop hM hR (ws.take j) hwt
  have hrr := word_at hW hj
  obtain ⟨t0, h1, h2⟩ := sol_int (m := m) (a := (lineI m us ad (ws.take j)).1) (x := orbN m us ad j T0) (r := ws.getD j 0) (by omega) (by omega) (by omega) hcop.1 hrr.1 hrr.2
  have hbd : ∀ t : Nat, (t : Int) < m → 0 ≤ T0 + (t : Int) * m ^ j ∧ T0 + (t : Int) * m ^ j < m ^ (j + 1) := fun t ht => by
    have e1 : 0 ≤ (t : Int) * m ^ j := Int.mul_nonneg (by omega) (by omega)
    have e2 : (t : Int) * m ^ j ≤ (m - 1) * m ^ j := Int.mul_le_mul_of_nonneg_right (by omega) (by omega)
    have e3 : m ^ (j + 1) = m ^ j * m := Int.pow_succ m j
    have e4 : (m - 1) * m ^ j = m ^ j * m - m ^ j := by rw [Int.sub_mul, Int.one_mul, Int.mul_comm]
    have := h.1
    have := h.2.1
    omega
  refine ⟨t0, h1, h2, fun t ht => ⟨?_, hbd t ht⟩, fun t ht e => ?_⟩
  · have hw : IsWord m us ad (ws.take j) (T0 + (t : Int) * m ^ (ws.take j).length) := word_mod (by omega) h.2.2
    rw [hlen] at hw
    have e1 := lin_orb hM (T0 + (t : Int) * m ^ j) j
    have e2 : wordI m us ad j (T0 + (t : Int) * m ^ j) = ws.take j := by
      have := (wordI_iff (ws := ws.take j)).2 hw
      rwa [hlen] at this
    rw [e2, lineI_div, hlen] at e1
    rw [e1, alike_orb (by omega) j T0 t j (Nat.le_refl _), Nat.sub_self, Int.pow_zero, Int.mul_one, growN_line j (ws.take j) hlen h.2.2]
  · have hn := IsWord.next (ws := ws.take j) (x := T0) (t := t) (r := ws.getD j 0) (by omega) h.2.2 (by rw [hlen]; exact e)
    rw [hlen, ← take_next hj] at hn
    exact ⟨(hbd t ht).1, (hbd t ht).2, hn.1⟩
end Go.Proofs.YtimokpcopeldfaaGreatDoor
