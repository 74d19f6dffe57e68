/- the law WordApplies -/
import Derived.Test.YtflgkijmbpcnfaaGreatDoorJG26
import Derived.Test.YtflgkijmbpcnfaaGreatDoorJG29
set_option linter.unusedSimpArgs false
set_option linter.unusedVariables false
namespace Go.Proofs.YtflgkijmbpcnfaaGreatDoor
open Go.RowKit
theorem lin_big {M N A : Int} (h1 : K.fits M) (h2 : K.fits N) (h3 : K.fits A) : (M * N + A).natAbs ≤ BIG := by
  have a1 := fits_top h1
  have a2 := fits_top h2
  have a3 := fits_top h3
  have a4 := mul_top a1 a2
  have a5 : (M * N).natAbs = M.natAbs * N.natAbs := Int.natAbs_mul _ _
  have a6 := Int.natAbs_add_le (M * N) A
  have e1 : TOP (223 + 223) = TOP 223 * TOP 223 := TOP_add _ _
  have e2 : TOP (223 + 223 + 1) = TOP (223 + 223) * TOP 1 := TOP_add _ _
  have e3 : TOP 1 = 1000000000 := rfl
  have e4 := TOP_pos 223
  have e5 : TOP 223 * 1 ≤ TOP 223 * TOP 223 := Nat.mul_le_mul_left _ e4
  refine le_big (a := 223 + 223 + 1) ?_ (by omega)
  rw [e2, e3]
  generalize TOP (223 + 223) = P at *
  generalize TOP 223 = Q at *
  omega
/-- what Apply tells -/
def AppP (M A D N : Int) (s : ByteArray) (b : Bool) (c : Int) : Prop :=
  (D ≤ 0 → s = ⟨#[]⟩ ∧ b = false ∧ c = 2) ∧ (0 < D → ¬ K.fits (M * N + A) → s = ⟨#[]⟩ ∧ b = false ∧ c = 3) ∧ (0 < D → K.fits (M * N + A) → (M * N + A) % D ≠ 0 → s = ⟨#[]⟩ ∧ b = false ∧ c = 0) ∧
    (0 < D → K.fits (M * N + A) → (M * N + A) % D = 0 → s = Str (K.txt ((M * N + A) / D)) ∧ b = true ∧ c = 0)
theorem apply_any (lm la ld ln : List UInt8) (w : World) (v0 : K.validL lm = true) (v1 : K.validL la = true) (v2 : K.validL ld = true) (v3 : K.validL ln = true) (ht : Tab w) :
    Calls Tryz.prog 49 #[.agg #[.string (Str lm), .string (Str la), .string (Str ld)], .string (Str ln)] w (fun e w' => ∃ s b c, e = .returned (.tuple #[.string s, .bool b, .int .i64 c]) ∧ AppP (K.numL lm) (K.numL la) (K.numL ld) (K.numL ln) s b c ∧ Ext w w') := by
  obtain ⟨t0, f0⟩ := K.txt_numL lm v0
  obtain ⟨t1, f1⟩ := K.txt_numL la v1
  obtain ⟨t2, f2⟩ := K.txt_numL ld v2
  obtain ⟨t3, f3⟩ := K.txt_numL ln v3
  by_cases hd : 0 < K.numL ld
  · by_cases hf : K.fits (K.numL lm * K.numL ln + K.numL la)
    · by_cases hr : (K.numL lm * K.numL ln + K.numL la) % K.numL ld = 0
      · have h := apply_yes (K.numL lm) (K.numL la) (K.numL ld) (K.numL ln) w (hid f0) (hid f1) (hid f2) (hid f3) ht hd (hid hf) hr
        rw [t0, t1, t2, t3] at h
        refine h.mono ?_
        rintro e w' ⟨rfl, h2⟩
        exact ⟨_, _, _, rfl, ⟨fun h => by omega, fun _ h => absurd hf h, fun _ _ h => absurd hr h, fun _ _ _ => ⟨rfl, rfl, rfl⟩⟩, h2⟩
      · have h := apply_frac (K.numL lm) (K.numL la) (K.numL ld) (K.numL ln) w (hid f0) (hid f1) (hid f2) (hid f3) ht hd (hid hf) hr
        rw [t0, t1, t2, t3] at h
        refine h.mono ?_
        rintro e w' ⟨rfl, h2⟩
        exact ⟨_, _, _, rfl, ⟨fun h => by omega, fun _ h => absurd hf h, fun _ _ _ => ⟨rfl, rfl, rfl⟩, fun _ _ h => absurd h hr⟩, h2⟩
    · have h := apply_size (K.numL lm) (K.numL la) (K.numL ld) (K.numL ln) w (hid f0) (hid f1) (hid f2) (hid f3) ht hd (hid hf)
      rw [t0, t1, t2, t3] at h
      refine h.mono ?_
      rintro e w' ⟨rfl, h2⟩
      exact ⟨_, _, _, rfl, ⟨fun h => by omega, fun _ _ => ⟨rfl, rfl, rfl⟩, fun _ h => absurd h hf, fun _ h => absurd h hf⟩, h2⟩
  · have h := apply_arg (K.numL lm) (K.numL la) (K.numL ld) (K.numL ln) w (hid f0) (hid f1) (hid f2) (hid f3) ht (by omega)
    rw [t0, t1, t2, t3] at h
    refine h.mono ?_
    rintro e w' ⟨rfl, h2⟩
    exact ⟨_, _, _, rfl, ⟨fun _ => ⟨rfl, rfl, rfl⟩, fun h => absurd h hd, fun h => absurd h hd, fun h => absurd h hd⟩, h2⟩
set_option maxRecDepth 100000 in
set_option maxHeartbeats 3200000 in
theorem applies_bad (lm la ld ln : List UInt8) (x0 x1 x2 x3 : Bool) (w : World) (z0 : lm.length ≤ 140737488351232) (z1 : la.length ≤ 140737488351232) (z2 : ld.length ≤ 140737488351232) (z3 : ln.length ≤ 140737488351232) (ht : Tab w)
    (v0 : Hid (K.validL lm = x0)) (v1 : Hid (K.validL la = x1)) (v2 : Hid (K.validL ld = x2)) (v3 : Hid (K.validL ln = x3)) (HB : Hid (¬ (x0 = true ∧ x1 = true ∧ x2 = true ∧ x3 = true))) :
    Calls Tryz.prog 9 #[.agg #[.string (Str lm), .string (Str la), .string (Str ld)], .string (Str ln)] w (TruePost w) := by
  have HT := hid ht
  have hx : Ext w (w.alloc (.cells #[.string (Str lm), .string (Str la), .string (Str ld)] 66)) := (Ext.rfl' w).alloc' _
  have hr1 : Row (w.alloc (.cells #[.string (Str lm), .string (Str la), .string (Str ld)] 66)) w.heap.size 66 [.string (Str lm), .string (Str la), .string (Str ld)] := Row.new w _ _
  obtain ⟨W1, hW1⟩ : ∃ W1, (w.alloc (.cells #[.string (Str lm), .string (Str la), .string (Str ld)] 66)) = W1 := ⟨_, rfl⟩
  rw [hW1] at hx hr1
  have HX := hid hx
  have HW1 := hid hW1
  have H1 := hid hr1
  obtain ⟨f0, f1, f2, -, -, -⟩ := row_facts3 hr1
  clear hW1 hx hr1
  go_enter Tryz.func9, Tryz.ntmps9
  go_upto_region 1 with fail
  rw [HW1.out]
  go_wp2_with fail
  refine (apply_bad lm la ld ln W1 z0 z1 z2 z3 (by rw [v0.out, v1.out, v2.out, v3.out]; exact HB.out)).mono ?_
  rintro e w2 ⟨rfl, hx2⟩
  have HE2 := hid hx2
  clear f0 f1 f2 hx2
  obtain ⟨f0, f1, f2, -, -, -⟩ := row_facts3 (H1.out.ext HE2.out)
  go_wp2_with fail
  refine (rvalid_at lm w2 v0 z0).mono ?_
  rintro e wz ⟨rfl, rfl⟩
  cases x0 with
  | false =>
    go_wp2_with fail
    refine (awake3_any w2 (HT.out.ext (HX.out.step HE2.out))).mono ?_
    rintro e wL ⟨rfl, hxL⟩
    have HL := hid (Ext.step (HX.out.step HE2.out) hxL)
    go_wp2
    go_ret
    exact ⟨rfl, HL.out⟩
  | true =>
    go_wp2_with fail
    refine (rvalid_at la w2 v1 z1).mono ?_
    rintro e wz ⟨rfl, rfl⟩
    cases x1 with
    | false =>
      go_wp2_with fail
      refine (awake3_any w2 (HT.out.ext (HX.out.step HE2.out))).mono ?_
      rintro e wL ⟨rfl, hxL⟩
      have HL := hid (Ext.step (HX.out.step HE2.out) hxL)
      go_wp2
      go_ret
      exact ⟨rfl, HL.out⟩
    | true =>
      go_wp2_with fail
      refine (rvalid_at ld w2 v2 z2).mono ?_
      rintro e wz ⟨rfl, rfl⟩
      cases x2 with
      | false =>
        go_wp2_with fail
        refine (awake3_any w2 (HT.out.ext (HX.out.step HE2.out))).mono ?_
        rintro e wL ⟨rfl, hxL⟩
        have HL := hid (Ext.step (HX.out.step HE2.out) hxL)
        go_wp2
        go_ret
        exact ⟨rfl, HL.out⟩
      | true =>
        go_wp2_with fail
        refine (rvalid_at ln w2 v3 z3).mono ?_
        rintro e wz ⟨rfl, rfl⟩
        obtain rfl : x3 = false := by
          cases x3 with
          | false => rfl
          | true => exact (HB.out (by simp)).elim
        go_wp2_with fail
        refine (awake3_any w2 (HT.out.ext (HX.out.step HE2.out))).mono ?_
        rintro e wL ⟨rfl, hxL⟩
        have HL := hid (Ext.step (HX.out.step HE2.out) hxL)
        go_wp2
        go_ret
        exact ⟨rfl, HL.out⟩

set_option maxRecDepth 100000 in
set_option maxHeartbeats 12800000 in
theorem applies_ok (lm la ld ln : List UInt8) (w : World) (z0 : lm.length ≤ 140737488351232) (z1 : la.length ≤ 140737488351232) (z2 : ld.length ≤ 140737488351232) (z3 : ln.length ≤ 140737488351232) (ht : Tab w)
    (v0 : Hid (K.validL lm = true)) (v1 : Hid (K.validL la = true)) (v2 : Hid (K.validL ld = true)) (v3 : Hid (K.validL ln = true)) :
    Calls Tryz.prog 9 #[.agg #[.string (Str lm), .string (Str la), .string (Str ld)], .string (Str ln)] w (TruePost w) := by
  have F0 := hid (K.txt_numL lm v0.out).2
  have F1 := hid (K.txt_numL la v1.out).2
  have F2 := hid (K.txt_numL ld v2.out).2
  have F3 := hid (K.txt_numL ln v3.out).2
  have HBV : Hid ((K.numL lm).natAbs ≤ BIG ∧ (K.numL ln).natAbs ≤ BIG ∧ (K.numL lm * K.numL ln).natAbs ≤ BIG ∧ (K.numL la).natAbs ≤ BIG) := hid ⟨fits_big F0.out, fits_big F3.out, by rw [Int.natAbs_mul]; exact le_big (mul_top (fits_top F0.out) (fits_top F3.out)) (by omega), fits_big F1.out⟩
  have HBT : Hid ((K.numL lm * K.numL ln + K.numL la).natAbs ≤ BIG) := hid (lin_big F0.out F3.out F1.out)
  have HT := hid ht
  have hx : Ext w (w.alloc (.cells #[.string (Str lm), .string (Str la), .string (Str ld)] 66)) := (Ext.rfl' w).alloc' _
  have hr1 : Row (w.alloc (.cells #[.string (Str lm), .string (Str la), .string (Str ld)] 66)) w.heap.size 66 [.string (Str lm), .string (Str la), .string (Str ld)] := Row.new w _ _
  obtain ⟨W1, hW1⟩ : ∃ W1, (w.alloc (.cells #[.string (Str lm), .string (Str la), .string (Str ld)] 66)) = W1 := ⟨_, rfl⟩
  rw [hW1] at hx hr1
  have HX := hid hx
  have HW1 := hid hW1
  have H1 := hid hr1
  obtain ⟨f0, f1, f2, -, -, -⟩ := row_facts3 hr1
  clear hW1 hx hr1
  go_enter Tryz.func9, Tryz.ntmps9
  go_upto_region 1 with fail
  rw [HW1.out]
  go_wp2_with fail
  refine (apply_any lm la ld ln W1 v0.out v1.out v2.out v3.out (HT.out.ext HX.out)).mono ?_
  rintro e w2 ⟨s, b, c, rfl, hp, hx2⟩
  have HP := hid hp
  have HE2 := hid hx2
  clear f0 f1 f2 hx2 hp
  obtain ⟨f0, f1, f2, -, -, -⟩ := row_facts3 (H1.out.ext HE2.out)
  go_wp2_with fail
  refine (rvalid_at lm w2 v0 z0).mono ?_
  rintro e wz ⟨rfl, rfl⟩
  go_wp2_with fail
  refine (rvalid_at la w2 v1 z1).mono ?_
  rintro e wz ⟨rfl, rfl⟩
  go_wp2_with fail
  refine (rvalid_at ld w2 v2 z2).mono ?_
  rintro e wz ⟨rfl, rfl⟩
  go_wp2_with fail
  refine (rvalid_at ln w2 v3 z3).mono ?_
  rintro e wz ⟨rfl, rfl⟩
  go_wp2_with fail
  refine (parse_any ld w2 v2.out).mono ?_
  rintro e w5 ⟨v5, rfl, hv5, hx5⟩
  have hv5' := hv5
  obtain ⟨A5, k5, c5, xs5, b5, rfl, -⟩ := hv5
  have hy5 := hx5.alloc' (.cells #[.bool b5, .slice A5 k5 c5] 34)
  have hu5 := hv5'.ext ((Ext.rfl' w5).alloc' (.cells #[.bool b5, .slice A5 k5 c5] 34))
  have r5 := Row.new w5 34 [.bool b5, .slice A5 k5 c5]
  obtain ⟨W5, hW5⟩ : ∃ W5, w5.alloc (.cells #[.bool b5, .slice A5 k5 c5] 34) = W5 := ⟨_, rfl⟩
  rw [hW5] at hy5 hu5
  have r5 : Row W5 w5.heap.size 34 [.bool b5, .slice A5 k5 c5] := by rw [← hW5]; exact r5
  have HE5 := hid (HE2.out.step hy5)
  have HV5 := hid hu5
  have R5 := hid r5
  have HW5 := hid hW5
  clear f0 f1 f2 hx5 hv5' hy5 hu5 hW5
  obtain ⟨f0, f1, f2, -, -, -⟩ := row_facts3 (H1.out.ext HE5.out)
  obtain ⟨e0, e1, -, -⟩ := row_facts r5
  clear r5
  obtain ⟨sg, hsg⟩ : ∃ sg, sgn0 (K.numL ld) = sg := ⟨_, rfl⟩
  have HSG := hid hsg
  go_upto_region 5 with fail
  rw [HW5.out]
  go_wp2_with fail
  refine (rsign_at0 _ HV5.out HSG).mono ?_
  rintro e w6 ⟨rfl, hx6⟩
  have HE6 := hid (HE5.out.step hx6)
  have H56 := hid hx6
  clear f0 f1 f2 e0 e1 hx6
  by_cases hd : 0 < K.numL ld
  case neg =>
    have q0 : sg ≤ 0 := by rw [← hsg]; unfold sgn0; split <;> (try split) <;> omega
    obtain ⟨rfl, rfl, rfl⟩ := HP.out.1 (by omega)
    clear hsg
    go_wp2_with fail
    refine (awake3_any w6 (HT.out.ext (HX.out.step HE6.out))).mono ?_
    rintro e wL ⟨rfl, hxL⟩
    have HL := hid (Ext.step (HX.out.step HE6.out) hxL)
    go_wp2
    go_ret
    exact ⟨rfl, HL.out⟩
  case pos =>
    have q0 : ¬ sg ≤ 0 := by rw [← hsg]; unfold sgn0; split <;> (try split) <;> omega
    clear hsg
    have HD := hid hd
    clear hd
    have HV56 := hid (HV5.out.ext H56.out)
    have R56 := hid (R5.out.ext H56.out)
    have HS : Hid (∀ W', Ext w6 W' → W'.cell? ⟨w.heap.size, 0, none⟩ = some (.string (Str lm)) ∧ W'.cell? ⟨w.heap.size, 1, none⟩ = some (.string (Str la)) ∧ W'.cell? ⟨w.heap.size, 2, none⟩ = some (.string (Str ld)) ∧ W'.cell? ⟨w5.heap.size, 0, none⟩ = some (.bool b5) ∧ W'.cell? ⟨w5.heap.size, 1, none⟩ = some (.slice A5 k5 c5)) := hid (by
      intro W' e
      obtain ⟨p0, p1, p2, -, -, -⟩ := row_facts3 (H1.out.ext (HE6.out.step e))
      obtain ⟨q0, q1, -, -⟩ := row_facts (R56.out.ext e)
      exact ⟨p0, p1, p2, q0, q1⟩)
    have hcur : Ext w6 w6 := Ext.rfl' _
    go_upto_region 7 with fail
    go_cut [9] (fun s9 wx => ∃ (g : Nat) (b : Bool) (P : Option Addr) (k c : Nat), s9 = .pointer (some ⟨g, 0, none⟩) ∧ Row wx g 34 [.bool b, .slice P k c] ∧ RefV wx (.agg #[.bool b, .slice P k c]) (K.numL lm * K.numL ln + K.numL la) ∧ Ext w6 wx)
    case first =>
      go_region_held3 (fun W' => W'.cell? ⟨w.heap.size, 0, none⟩ = some (.string (Str lm)) ∧ W'.cell? ⟨w.heap.size, 1, none⟩ = some (.string (Str la)) ∧ W'.cell? ⟨w.heap.size, 2, none⟩ = some (.string (Str ld)) ∧ W'.cell? ⟨w5.heap.size, 0, none⟩ = some (.bool b5) ∧ W'.cell? ⟨w5.heap.size, 1, none⟩ = some (.slice A5 k5 c5))
        (first | exact HS.out _ hcur | exact HS.out _ hcur.drew' | exact HS.out _ (hcur.alloc' _) | exact HS.out _ (hcur.drew'.alloc' _) | exact HS.out _ ((hcur.set' HB2.out.1 _).set' HB2.out.1 _) | go_keep)
        (first
          | (go_at_call_of 20 (Value.string (Str lm)); refine (parse_any lm _ v0.out).mono ?_; rintro e w7 ⟨v6, rfl, hv6, hx⟩; (first | have HB2 := hid (HB2.out.ext hx) | have HB2 := hid ((NB.new hcur.size).ext hx) | have HB2 := hid ((NB.newD hcur.size).ext hx) | skip); have hcur := Ext.step hcur (by first | exact hx | exact Ext.undrew hx | exact Ext.step ((Ext.rfl' _).alloc' _) hx | exact Ext.step ((Ext.rfl' _).drew'.alloc' _) hx); have HV6 := hid hv6; obtain ⟨A6, k6, c6, xs6, b6, rfl, -⟩ := hv6; (first | (have hyy := row_facts HB2.out.2; obtain ⟨y0, y1, y2, y3⟩ := hyy) | skip))
          | (go_at_call_of 20 (Value.string (Str la)); refine (parse_any la _ v1.out).mono ?_; rintro e w8 ⟨v7, rfl, hv7, hx⟩; (first | have HB2 := hid (HB2.out.ext hx) | have HB2 := hid ((NB.new hcur.size).ext hx) | have HB2 := hid ((NB.newD hcur.size).ext hx) | skip); have HV6 := hid (by first | exact HV6.out.ext hx | exact HV6.out.ext (Ext.undrew hx) | exact HV6.out.ext (Ext.step ((Ext.rfl' _).alloc' _) hx)); have hcur := Ext.step hcur (by first | exact hx | exact Ext.undrew hx | exact Ext.step ((Ext.rfl' _).alloc' _) hx | exact Ext.step ((Ext.rfl' _).drew'.alloc' _) hx); have HV7 := hid hv7; obtain ⟨A7, k7, c7, xs7, b7, rfl, -⟩ := hv7; (first | (have hyy := row_facts HB2.out.2; obtain ⟨y0, y1, y2, y3⟩ := hyy) | skip))
          | (go_at_call_of 20 (Value.string (Str ln)); refine (parse_any ln _ v3.out).mono ?_; rintro e w10 ⟨v8, rfl, hv8, hx⟩; (first | have HB2 := hid (HB2.out.ext hx) | have HB2 := hid ((NB.new hcur.size).ext hx) | have HB2 := hid ((NB.newD hcur.size).ext hx) | skip); have HV6 := hid (by first | exact HV6.out.ext hx | exact HV6.out.ext (Ext.undrew hx) | exact HV6.out.ext (Ext.step ((Ext.rfl' _).alloc' _) hx)); have HV7 := hid (by first | exact HV7.out.ext hx | exact HV7.out.ext (Ext.undrew hx) | exact HV7.out.ext (Ext.step ((Ext.rfl' _).alloc' _) hx)); have hcur := Ext.step hcur (by first | exact hx | exact Ext.undrew hx | exact Ext.step ((Ext.rfl' _).alloc' _) hx | exact Ext.step ((Ext.rfl' _).drew'.alloc' _) hx); have HV8 := hid hv8; obtain ⟨A8, k8, c8, xs8, b8, rfl, -⟩ := hv8; (first | (have hyy := row_facts HB2.out.2; obtain ⟨y0, y1, y2, y3⟩ := hyy) | skip))
          | (go_at_call 51; refine (value_any b6 b7 b5 b8 A6 A7 A5 A8 k6 k7 k5 k8 c6 c7 c5 c8 (K.numL lm) (K.numL la) (K.numL ln) _ (HV6.out.ext ?_) (HV7.out.ext ?_) (HV8.out.ext ?_) HBV).mono ?_; (first | exact Ext.rfl' _ | exact (Ext.rfl' _).drew' | exact (Ext.rfl' _).alloc' _ | exact (Ext.rfl' _).drew'.alloc' _); (first | exact Ext.rfl' _ | exact (Ext.rfl' _).drew' | exact (Ext.rfl' _).alloc' _ | exact (Ext.rfl' _).drew'.alloc' _); (first | exact Ext.rfl' _ | exact (Ext.rfl' _).drew' | exact (Ext.rfl' _).alloc' _ | exact (Ext.rfl' _).drew'.alloc' _); rintro e w9 ⟨v9, rfl, hv9, hx⟩; (first | have HB2 := hid (HB2.out.ext hx) | have HB2 := hid ((NB.new hcur.size).ext hx) | have HB2 := hid ((NB.newD hcur.size).ext hx) | skip); have hcur := Ext.step hcur (by first | exact hx | exact Ext.undrew hx | exact Ext.step ((Ext.rfl' _).alloc' _) hx | exact Ext.step ((Ext.rfl' _).drew'.alloc' _) hx); have HV9 := hid hv9; obtain ⟨A9, k9, c9, xs9, b9, rfl, -⟩ := hv9; (first | (have hyy := row_facts HB2.out.2; obtain ⟨y0, y1, y2, y3⟩ := hyy) | skip)))
      all_goals
        go_wp2_with fail
        go_meet
        first
          | exact ⟨_, b9, A9, k9, c9, rfl, (HB2.out.2.set 0 _).set 1 _, HV9.out.box HB2.out.2, (hcur.set' HB2.out.1 _).set' HB2.out.1 _⟩
          | exact ⟨_, b9, A9, k9, c9, rfl, Row.new _ _ [.bool b9, .slice A9 k9 c9], HV9.out.ext ((Ext.rfl' _).alloc' _), hcur.alloc' _⟩
    case rest =>
      obtain ⟨g, bt, P, k, ct, rfl, hrow, hv, hex⟩ := hcut
      clear hcur
      have HR := hid hrow
      have HV := hid hv
      have HE := hid hex
      obtain ⟨t0, t1, -, -⟩ := row_facts hrow
      obtain ⟨bf, hbf⟩ : ∃ bf : Bool, bf = true ↔ K.fits (K.numL lm * K.numL ln + K.numL la) := ⟨decide (K.fits (K.numL lm * K.numL ln + K.numL la)), decide_eq_true_iff⟩
      have HBF := hid hbf
      clear hrow hv hex
      go_wp2_with fail
      refine (rfits_any _ _ _ HV.out HBT.out bf HBF).mono ?_
      rintro e w12 ⟨rfl, hx12⟩
      have HE12 := hid (HE.out.step hx12)
      have HV12 := hid (HV.out.ext hx12)
      have HR12 := hid (HR.out.ext hx12)
      clear t0 t1 hx12
      cases bf with
      | false =>
        obtain ⟨rfl, rfl, rfl⟩ := HP.out.2.1 HD.out (fun h => by have := HBF.out.2 h; cases this)
        clear hbf
        go_wp2_with fail
        refine (awake3_any w12 (HT.out.ext (HX.out.step (HE6.out.step HE12.out)))).mono ?_
        rintro e wL ⟨rfl, hxL⟩
        have HL := hid (Ext.step (HX.out.step (HE6.out.step HE12.out)) hxL)
        go_wp2
        go_ret
        exact ⟨rfl, HL.out⟩
      | true =>
        have HF := hid (hbf.1 rfl)
        clear hbf
        obtain ⟨q0, q1, -, -⟩ := row_facts (R56.out.ext HE12.out)
        obtain ⟨t0, t1, -, -⟩ := row_facts HR12.out
        obtain ⟨dn, hdn⟩ := Int.eq_ofNat_of_zero_le (show 0 ≤ K.numL ld by have := HD.out; omega)
        have HDN := hid hdn
        have HD0 := hid (show 0 < dn by have := HD.out; omega)
        have HDB := hid (show dn ≤ BIG by have := fits_big F2.out; omega)
        have HV5N := hid (show RefV w12 (.agg #[.bool b5, .slice A5 k5 c5]) (dn : Int) by rw [← hdn]; exact HV56.out.ext HE12.out)
        clear hdn
        go_wp2_with fail
        refine (rdiv_any _ _ _ dn w12 HV12.out HV5N.out HBT.out HDB.out HD0.out).mono ?_
        rintro e w13 ⟨v13, v14, rfl, hq, hr, hx13⟩
        rw [← HDN.out] at hq hr
        have HQ := hid hq
        have HRM := hid hr
        obtain ⟨A13, k13, c13, xs13, n13, rfl, -⟩ := hq
        obtain ⟨A14, k14, c14, xs14, n14, rfl, -⟩ := hr
        have hW14 : Ext w13 ((w13.alloc (.cells #[.bool n13, .slice A13 k13 c13] 34)).alloc (.cells #[.bool n14, .slice A14 k14 c14] 34)) := ((Ext.rfl' w13).alloc' _).alloc' _
        have hk2 : ∀ w', Ext ((w13.alloc (.cells #[.bool n13, .slice A13 k13 c13] 34)).alloc (.cells #[.bool n14, .slice A14 k14 c14] 34)) w' →
            w'.cell? ⟨w13.heap.size, 0, none⟩ = some (.bool n13) ∧ w'.cell? ⟨w13.heap.size, 1, none⟩ = some (.slice A13 k13 c13) ∧ w'.cell? ⟨w13.heap.size + 1, 0, none⟩ = some (.bool n14) ∧ w'.cell? ⟨w13.heap.size + 1, 1, none⟩ = some (.slice A14 k14 c14) := fun w' e => boxes e
        obtain ⟨W14, hW14e⟩ : ∃ W14, ((w13.alloc (.cells #[.bool n13, .slice A13 k13 c13] 34)).alloc (.cells #[.bool n14, .slice A14 k14 c14] 34)) = W14 := ⟨_, rfl⟩
        rw [hW14e] at hW14 hk2
        have HWE2 := hid hW14e
        have HK2 := hid hk2
        have HQ4 := hid (HQ.out.ext hW14)
        have HR4 := hid (HRM.out.ext hW14)
        have HE14 := hid (HE12.out.step (hx13.step hW14))
        clear hW14e hW14 hk2 hx13 q0 q1 t0 t1
        obtain ⟨sr, hsr⟩ : ∃ sr, sgn0 ((K.numL lm * K.numL ln + K.numL la) % K.numL ld) = sr := ⟨_, rfl⟩
        have HSR := hid hsr
        go_upto_region 11 with fail
        rw [HWE2.out]
        obtain ⟨u0, u1, u2, u3⟩ := HK2.out _ (Ext.rfl' _)
        go_wp2_with fail
        refine (rsign_at0 _ HR4.out HSR).mono ?_
        rintro e w15 ⟨rfl, hx15⟩
        have HE15 := hid (HE14.out.step hx15)
        clear u0 u1 u2 u3
        obtain ⟨u0, u1, u2, u3⟩ := HK2.out _ hx15
        have HQ15 := hid (HQ4.out.ext hx15)
        clear hx15
        by_cases hz : (K.numL lm * K.numL ln + K.numL la) % K.numL ld = 0
        case neg =>
          have q0 : ¬ sr = 0 := by rw [← hsr]; unfold sgn0; rw [if_neg hz]; split <;> omega
          have q1 : (sr == 0) = false := beq_eq_false_iff_ne.2 q0
          have q2 : (sr != 0) = true := by rw [bne, q1]; rfl
          obtain ⟨rfl, rfl, rfl⟩ := HP.out.2.2.1 HD.out HF.out hz
          clear hsr
          go_wp2_with fail
          refine (awake3_any w15 (HT.out.ext (HX.out.step (HE6.out.step HE15.out)))).mono ?_
          rintro e wL ⟨rfl, hxL⟩
          have HL := hid (Ext.step (HX.out.step (HE6.out.step HE15.out)) hxL)
          go_wp2
          go_ret
          exact ⟨rfl, HL.out⟩
        case pos =>
          obtain rfl : sr = 0 := by rw [← hsr]; unfold sgn0; rw [if_pos hz]
          obtain ⟨hs, rfl, rfl⟩ := HP.out.2.2.2 HD.out HF.out hz
          have HSS := hid hs
          have HQB := hid (show ((K.numL lm * K.numL ln + K.numL la) / K.numL ld).natAbs ≤ BIG from Nat.le_trans (Int.natAbs_ediv_le_natAbs _ _) HBT.out)
          clear hsr hs
          go_wp2_with fail
          refine (rtext_any _ _ w15 HQ15.out HQB.out).mono ?_
          rintro e w16 ⟨rfl, hx16⟩
          rw [← HSS.out]
          have HE16 := hid (HE15.out.step hx16)
          clear hx16
          go_wp2_with fail
          refine (awake3_any w16 (HT.out.ext (HX.out.step (HE6.out.step HE16.out)))).mono ?_
          rintro e wL ⟨rfl, hxL⟩
          have HL := hid (Ext.step (HX.out.step (HE6.out.step HE16.out)) hxL)
          go_wp2
          go_ret
          exact ⟨rfl, HL.out⟩
theorem law_WordApplies (lm la ld ln : List UInt8) (w : World) (z0 : lm.length ≤ 140737488351232) (z1 : la.length ≤ 140737488351232) (z2 : ld.length ≤ 140737488351232) (z3 : ln.length ≤ 140737488351232) (ht : Tab w) :
    Calls Tryz.prog 9 #[.agg #[.string (Str lm), .string (Str la), .string (Str ld)], .string (Str ln)] w (TruePost w) := by
  by_cases h : K.validL lm = true ∧ K.validL la = true ∧ K.validL ld = true ∧ K.validL ln = true
  · exact applies_ok lm la ld ln w z0 z1 z2 z3 ht (hid h.1) (hid h.2.1) (hid h.2.2.1) (hid h.2.2.2)
  · exact applies_bad lm la ld ln _ _ _ _ w z0 z1 z2 z3 ht (hid rfl) (hid rfl) (hid rfl) (hid rfl) (hid h)
end Go.Proofs.YtflgkijmbpcnfaaGreatDoor
