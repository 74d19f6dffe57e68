/- the law SieveLeft -/
import Derived.Test.YtleccblkafcidaaGreatDoorJG22
set_option linter.unusedSimpArgs false
set_option linter.unusedVariables false
namespace Go.Proofs.YtleccblkafcidaaGreatDoor
open Go.RowKit
theorem box_three (w : World) (t1 t2 t3 : TypeId) (a b c : List Value) : Ext w (((w.alloc (.cells a.toArray t1)).alloc (.cells b.toArray t2)).alloc (.cells c.toArray t3)) ∧ Row (((w.alloc (.cells a.toArray t1)).alloc (.cells b.toArray t2)).alloc (.cells c.toArray t3)) w.heap.size t1 a ∧ Row (((w.alloc (.cells a.toArray t1)).alloc (.cells b.toArray t2)).alloc (.cells c.toArray t3)) (w.heap.size + 1) t2 b ∧ Row (((w.alloc (.cells a.toArray t1)).alloc (.cells b.toArray t2)).alloc (.cells c.toArray t3)) (w.heap.size + 1 + 1) t3 c := by
  refine ⟨(((Ext.rfl' w).alloc' _).alloc' _).alloc' _, ((Row.new w t1 a).alloc _).alloc _, ?_, ?_⟩
  · have := (Row.new (w.alloc (.cells a.toArray t1)) t2 b).alloc (.cells c.toArray t3)
    rwa [World.size_alloc] at this
  · have := Row.new ((w.alloc (.cells a.toArray t1)).alloc (.cells b.toArray t2)) t3 c
    rwa [World.size_alloc, World.size_alloc] at this
/-- a number's box, written -/
theorem put_one {w : World} {H : Nat} {t : TypeId} {b b' : Bool} {P P' : Option Addr} {q c q' c' : Nat} (r : Row w H t [.bool b, .slice P q c]) : ∀ w', w' = ((w.setCell ⟨H, 0, none⟩ (.bool b')).setCell ⟨H, 1, none⟩ (.slice P' q' c')) →
    Row w' H t [.bool b', .slice P' q' c'] ∧ KeepRd w w' ∧ (∀ g t vs, g ≠ H → Row w g t vs → Row w' g t vs) ∧ (∀ W, Ext W w → W.heap.size ≤ H → Ext W w') := by
  rintro w' rfl
  have ho : Off w ((w.setCell ⟨H, 0, none⟩ (.bool b')).setCell ⟨H, 1, none⟩ (.slice P' q' c')) H := ((Off.rfl' w H).set 0 _).set 1 _
  exact ⟨r.put2, ho.keep r (no_int2 b P q c), fun g t vs hg hr => ho.row hr hg, fun W e h => (e.set' h _).set' h _⟩
theorem put_three {w : World} {H : Nat} {t t2 t3 : TypeId} {b1 b2 b3 e1 e2 e3 : Bool} {P1 P2 P3 R1 R2 R3 : Option Addr} {q1 c1 q2 c2 q3 c3 l1 d1 l2 d2 l3 d3 : Nat} (r1 : Row w H t [.bool b1, .slice P1 q1 c1]) (r2 : Row w (H + 1) t2 [.bool b2, .slice P2 q2 c2]) (r3 : Row w (H + 1 + 1) t3 [.bool b3, .slice P3 q3 c3]) :
    ∀ w', w' = ((((((w.setCell ⟨H, 0, none⟩ (.bool e1)).setCell ⟨H, 1, none⟩ (.slice R1 l1 d1)).setCell ⟨H + 1, 0, none⟩ (.bool e2)).setCell ⟨H + 1, 1, none⟩ (.slice R2 l2 d2)).setCell ⟨H + 1 + 1, 0, none⟩ (.bool e3)).setCell ⟨H + 1 + 1, 1, none⟩ (.slice R3 l3 d3)) →
    Row w' H t [.bool e1, .slice R1 l1 d1] ∧ Row w' (H + 1) t2 [.bool e2, .slice R2 l2 d2] ∧ Row w' (H + 1 + 1) t3 [.bool e3, .slice R3 l3 d3] ∧ KeepRd w w' ∧ (∀ g t vs, g ≠ H → g ≠ H + 1 → g ≠ H + 1 + 1 → Row w g t vs → Row w' g t vs) ∧ (∀ W, Ext W w → W.heap.size ≤ H → Ext W w') := by
  rintro w' rfl
  obtain ⟨a1, a2, a3, a4⟩ := put_one (b' := e1) (P' := R1) (q' := l1) (c' := d1) r1 _ rfl
  have r2' := a3 _ _ _ (by omega) r2
  have r3' := a3 _ _ _ (by omega) r3
  obtain ⟨b1, b2, b3, b4⟩ := put_one (b' := e2) (P' := R2) (q' := l2) (c' := d2) r2' _ rfl
  have r3'' := b3 _ _ _ (by omega) r3'
  obtain ⟨c1, c2, c3, c4⟩ := put_one (b' := e3) (P' := R3) (q' := l3) (c' := d3) r3'' _ rfl
  exact ⟨c3 _ _ _ (by omega) (b3 _ _ _ (by omega) a1), c3 _ _ _ (by omega) b1, c1, (a2.trans b2).trans c2, fun g t vs h1 h2 h3 hr => c3 _ _ _ h3 (b3 _ _ _ h2 (a3 _ _ _ h1 hr)), fun W e h => c4 W (b4 W (a4 W e h) (by omega)) (by omega)⟩
set_option maxRecDepth 100000 in
set_option maxHeartbeats 3200000 in
theorem left_no (v : Value) (m : Int) (us ad : List Int) (l : List UInt8) (k : Int) (w : World) (hv : MapV w v m us ad) (hlen : l.length ≤ 140737488351232) (hk : -9223372036854775808 ≤ k) (hk2 : k ≤ 9223372036854775807) (ht : Tab w) (x1 x2 : Bool) (hb1 : Hid (x1 = true ↔ (mapP m us ad ∧ SuitP m us k))) (hb2 : Hid (K.validL l = x2)) (HN : Hid (¬ (x1 = true ∧ x2 = true))) :
    Calls Tryz.prog 6 #[v, .string (Str l), .int .i64 k] w (TruePost w) := by
  have HV := hid hv
  have HT := hid ht
  obtain ⟨A, n, cc, B, n2, d2, rfl, -⟩ := hv
  have hx : Ext w (w.alloc (.cells #[.int .i64 m, .slice A n cc, .slice B n2 d2] 24)) := (Ext.rfl' w).alloc' _
  have hr1 : Row (w.alloc (.cells #[.int .i64 m, .slice A n cc, .slice B n2 d2] 24)) w.heap.size 24 [.int .i64 m, .slice A n cc, .slice B n2 d2] := Row.new w _ _
  obtain ⟨w1, hw1⟩ : ∃ w1, w.alloc (.cells #[.int .i64 m, .slice A n cc, .slice B n2 d2] 24) = w1 := ⟨_, rfl⟩
  rw [hw1] at hx hr1
  have HW1 := hid hw1
  have EX := hid hx
  have RM := hid hr1
  replace HV := hid (HV.out.ext hx)
  replace HT := hid (HT.out.ext hx)
  clear hw1 hx hr1
  go_enter Tryz.func6, Tryz.ntmps6
  go_upto_region 1 with fail
  rw [HW1.out]
  obtain ⟨f0, f1, f2, -, -, -⟩ := row_facts3 RM.out
  go_wp2_with fail
  refine (may_any _ m us ad k w1 HV.out hk hk2 hb1).mono ?_
  rintro e w2 ⟨rfl, hx⟩
  replace HV := hid (HV.out.ext hx)
  replace RM := hid (RM.out.ext hx)
  replace HT := hid (HT.out.ext hx)
  replace EX := hid (EX.out.step hx)
  clear hx f0 f1 f2
  cases x1 with
  | false =>
    go_wp2_with fail
    refine (awake4_any w2 HT.out).mono ?_
    rintro e wL ⟨rfl, hx⟩
    have EL := hid (EX.out.step hx)
    go_wp2
    go_ret
    exact ⟨rfl, EL.out⟩
  | true =>
    go_wp2_with fail
    refine (rvalid_at l w2 hb2 hlen).mono ?_
    rintro e wz ⟨rfl, rfl⟩
    cases x2 with
    | false =>
      go_wp2_with fail
      refine (awake4_any w2 HT.out).mono ?_
      rintro e wL ⟨rfl, hx⟩
      have EL := hid (EX.out.step hx)
      go_wp2
      go_ret
      exact ⟨rfl, EL.out⟩
    | true => exact (HN.out (by simp)).elim
set_option maxRecDepth 100000 in
set_option maxHeartbeats 12800000 in
theorem left_yes (v : Value) (m : Int) (us ad : List Int) (l : List UInt8) (q : Nat) (w : World) (hv : MapV w v m us ad) (hlen : l.length ≤ 140737488351232) (hqq : (q : Int) ≤ 9223372036854775807) (ht : Tab w) (hM : Hid (mapP m us ad)) (hS : Hid (SuitP m us (q : Int))) (hb2 : Hid (K.validL l = true)) :
    Calls Tryz.prog 6 #[v, .string (Str l), .int .i64 (q : Int)] w (TruePost w) := by
  have hm0 : 0 < m := by have := hM.out.1; omega
  have HV := hid hv
  have HT := hid ht
  obtain ⟨A, n, cc, B, n2, d2, rfl, hl1, hl2, hl3, hl4, hrda, hrdb, hl5, hl6⟩ := hv
  obtain ⟨ba, oa, eA, -, -⟩ := hrda.atI (k := 0) (by have := hM.out.1; have := hM.out.2.2.1; omega)
  subst eA
  obtain ⟨bb, ob, eB, -, -⟩ := hrdb.atI (k := 0) (by have := hM.out.1; have := hM.out.2.2.2.1; omega)
  subst eB
  have RA := hid hrda
  have RB := hid hrdb
  have HL12 : Hid ((n : Int) = m ∧ (n2 : Int) = m ∧ us.length = n ∧ ad.length = n2 ∧ n ≤ 140737488351232 ∧ n2 ≤ 140737488351232) := hid ⟨by have := hM.out.2.2.1; omega, by have := hM.out.2.2.2.1; omega, hl1, hl3, hl5, hl6⟩
  clear hl1 hl2 hl3 hl4 hl5 hl6 hrda hrdb
  have hx : Ext w (w.alloc (.cells #[.int .i64 m, .slice (some ⟨ba, oa, none⟩) n cc, .slice (some ⟨bb, ob, none⟩) n2 d2] 24)) := (Ext.rfl' w).alloc' _
  have hr1 : Row (w.alloc (.cells #[.int .i64 m, .slice (some ⟨ba, oa, none⟩) n cc, .slice (some ⟨bb, ob, none⟩) n2 d2] 24)) w.heap.size 24 [.int .i64 m, .slice (some ⟨ba, oa, none⟩) n cc, .slice (some ⟨bb, ob, none⟩) n2 d2] := Row.new w _ _
  obtain ⟨w1, hw1⟩ : ∃ w1, w.alloc (.cells #[.int .i64 m, .slice (some ⟨ba, oa, none⟩) n cc, .slice (some ⟨bb, ob, none⟩) n2 d2] 24) = w1 := ⟨_, rfl⟩
  rw [hw1] at hx hr1
  have HW1 := hid hw1
  have EX := hid hx
  have RM := hid hr1
  replace HV := hid (HV.out.ext hx)
  replace HT := hid (HT.out.ext hx)
  replace RA := hid (RA.out.ext hx)
  replace RB := hid (RB.out.ext hx)
  clear hw1 hx hr1
  go_enter Tryz.func6, Tryz.ntmps6
  go_upto_region 1 with fail
  rw [HW1.out]
  obtain ⟨f0, f1, f2, -, -, -⟩ := row_facts3 RM.out
  go_wp2_with fail
  refine (may_any _ m us ad (q : Int) w1 HV.out (by omega) hqq (b := true) (hid ⟨fun _ => ⟨hM.out, hS.out⟩, fun _ => rfl⟩)).mono ?_
  rintro e w2 ⟨rfl, hx⟩
  replace HV := hid (HV.out.ext hx)
  replace RM := hid (RM.out.ext hx)
  replace HT := hid (HT.out.ext hx)
  replace RA := hid (RA.out.ext hx)
  replace RB := hid (RB.out.ext hx)
  replace EX := hid (EX.out.step hx)
  clear hx f0 f1 f2
  go_wp2_with fail
  refine (rvalid_at l w2 hb2 hlen).mono ?_
  rintro e wz ⟨rfl, rfl⟩
  obtain ⟨X, hX⟩ : ∃ X, K.numL l = X := ⟨_, rfl⟩
  have HX := hid hX
  have HFX : Hid (K.fits X) := hid (by rw [← hX]; exact (K.txt_numL l hb2.out).2)
  clear hX
  obtain ⟨f0, f1, f2, -, -, -⟩ := row_facts3 RM.out
  go_wp2_with fail
  refine (find_ok _ m us ad l X q w2 HV.out hM hlen hb2 HX hS hqq HT.out).mono ?_
  rintro e w3 ⟨fv, b, rfl, hfc, hx⟩
  replace HV := hid (HV.out.ext hx)
  replace RM := hid (RM.out.ext hx)
  replace HT := hid (HT.out.ext hx)
  replace RA := hid (RA.out.ext hx)
  replace RB := hid (RB.out.ext hx)
  replace EX := hid (EX.out.step hx)
  clear hx f0 f1 f2
  obtain ⟨rfl, i, hi1, hi2, hi3, -, rfl⟩ | ⟨rfl, rfl, hnf⟩ := hfc
  case inl =>
    unfold FaV
    obtain ⟨su, hsu⟩ : ∃ su, Str (K.txt (lnX m us ad X i).1) = su := ⟨_, rfl⟩
    obtain ⟨sa, hsa⟩ : ∃ sa, Str (K.txt (lnX m us ad X i).2.1) = sa := ⟨_, rfl⟩
    obtain ⟨sb, hsb⟩ : ∃ sb, Str (K.txt ((lnX m us ad X i).2.1 / (m ^ i - (lnX m us ad X i).1))) = sb := ⟨_, rfl⟩
    obtain ⟨sd, hsd⟩ : ∃ sd, Str (K.txt (m ^ i)) = sd := ⟨_, rfl⟩
    obtain ⟨R, hR⟩ : ∃ R, X % m ^ i = R := ⟨_, rfl⟩
    rw [hsu, hsa, hsb, hsd, hR]
    clear hsu hsa hsd hsb hR hi3
    have ha := (Ext.rfl' w3).alloc' (.cells #[.int .i64 (i : Int), .int .i64 R, .string su, .string sa, .string sd, .string sb] 40)
    have hq : Row (w3.alloc (.cells #[.int .i64 (i : Int), .int .i64 R, .string su, .string sa, .string sd, .string sb] 40)) w3.heap.size 40 [.int .i64 (i : Int), .int .i64 R, .string su, .string sa, .string sd, .string sb] := Row.new w3 _ _
    obtain ⟨w4, hw4⟩ : ∃ w4, w3.alloc (.cells #[.int .i64 (i : Int), .int .i64 R, .string su, .string sa, .string sd, .string sb] 40) = w4 := ⟨_, rfl⟩
    rw [hw4] at ha hq
    have Ew4 := hid hw4
    have B8 := hid hq
    replace HV := hid (HV.out.ext ha)
    replace RM := hid (RM.out.ext ha)
    replace HT := hid (HT.out.ext ha)
    replace RA := hid (RA.out.ext ha)
    replace RB := hid (RB.out.ext ha)
    replace EX := hid (EX.out.step ha)
    have ha8 := ha
    clear ha hq hw4
    go_upto_region 4 with fail
    rw [Ew4.out]
    clear Ew4
    obtain ⟨H8, hH8⟩ : ∃ H8, w3.heap.size = H8 := ⟨_, rfl⟩
    rw [hH8] at B8
    rw [hH8]
    have HH8 := hid hH8
    have HA8 := hid ha8
    clear hH8 ha8
    go_wp2_with fail
    refine (awake4_any w4 HT.out).mono ?_
    rintro e wL ⟨rfl, hx⟩
    have EL := hid (EX.out.step hx)
    go_wp2
    go_ret
    exact ⟨rfl, EL.out⟩
  case inr =>
    have HNF := hid hnf
    clear hnf
    have HQ : Hid (q ≤ 16) := hid (by
      have hkq : m ^ q ≤ 65536 := by have := hS.out.2.2; rwa [Int.toNat_natCast] at this
      rcases Nat.lt_or_ge 16 q with h | h
      · exfalso
        have h2 : m ^ 17 ≤ m ^ q := pow_grow hM.out.1 h
        have h3 : (2 : Int) ^ 17 ≤ m ^ 17 := two_pow hM.out.1 17
        have h4 : (2 : Int) ^ 17 = 131072 := by decide
        omega
      · exact h)
    have ha := (Ext.rfl' w3).alloc' (.cells #[.int .i64 0, .int .i64 0, .string ⟨#[]⟩, .string ⟨#[]⟩, .string ⟨#[]⟩, .string ⟨#[]⟩] 40)
    have hq : Row (w3.alloc (.cells #[.int .i64 0, .int .i64 0, .string ⟨#[]⟩, .string ⟨#[]⟩, .string ⟨#[]⟩, .string ⟨#[]⟩] 40)) w3.heap.size 40 [.int .i64 0, .int .i64 0, .string ⟨#[]⟩, .string ⟨#[]⟩, .string ⟨#[]⟩, .string ⟨#[]⟩] := Row.new w3 _ _
    obtain ⟨w4, hw4⟩ : ∃ w4, w3.alloc (.cells #[.int .i64 0, .int .i64 0, .string ⟨#[]⟩, .string ⟨#[]⟩, .string ⟨#[]⟩, .string ⟨#[]⟩] 40) = w4 := ⟨_, rfl⟩
    rw [hw4] at ha hq
    have Ew4 := hid hw4
    have B8 := hid hq
    replace HV := hid (HV.out.ext ha)
    replace RM := hid (RM.out.ext ha)
    replace HT := hid (HT.out.ext ha)
    replace RA := hid (RA.out.ext ha)
    replace RB := hid (RB.out.ext ha)
    replace EX := hid (EX.out.step ha)
    have ha8 := ha
    clear ha hq hw4
    go_upto_region 4 with fail
    rw [Ew4.out]
    clear Ew4
    obtain ⟨H8, hH8⟩ : ∃ H8, w3.heap.size = H8 := ⟨_, rfl⟩
    rw [hH8] at B8
    rw [hH8]
    have HH8 := hid hH8
    have HA8 := hid ha8
    clear hH8 ha8
    go_wp2_with fail
    refine (parse_any l w4 hb2.out).mono ?_
    rintro e w5 ⟨v10, rfl, hv10, hx⟩
    replace HV := hid (HV.out.ext hx)
    replace RM := hid (RM.out.ext hx)
    replace HT := hid (HT.out.ext hx)
    replace RA := hid (RA.out.ext hx)
    replace RB := hid (RB.out.ext hx)
    replace B8 := hid (B8.out.ext hx)
    replace EX := hid (EX.out.step hx)
    rw [HX.out] at hv10
    clear hx
    have HV10 := hid hv10
    obtain ⟨A10, k10, c10, xs10, b10, rfl, -⟩ := hv10
    have ha := (Ext.rfl' w5).alloc' (.cells #[.bool b10, .slice A10 k10 c10] 47)
    have hq : Row (w5.alloc (.cells #[.bool b10, .slice A10 k10 c10] 47)) w5.heap.size 47 [.bool b10, .slice A10 k10 c10] := Row.new w5 _ _
    obtain ⟨w6, hw6⟩ : ∃ w6, w5.alloc (.cells #[.bool b10, .slice A10 k10 c10] 47) = w6 := ⟨_, rfl⟩
    rw [hw6] at ha hq
    have Ew6 := hid hw6
    have B10 := hid hq
    replace HV := hid (HV.out.ext ha)
    replace RM := hid (RM.out.ext ha)
    replace HT := hid (HT.out.ext ha)
    replace RA := hid (RA.out.ext ha)
    replace RB := hid (RB.out.ext ha)
    replace B8 := hid (B8.out.ext ha)
    replace HV10 := hid (HV10.out.ext ha)
    replace EX := hid (EX.out.step ha)
    have ha10 := ha
    clear ha hq hw6
    go_upto_region 7 with fail
    rw [Ew6.out]
    clear Ew6
    obtain ⟨H10, hH10⟩ : ∃ H10, w5.heap.size = H10 := ⟨_, rfl⟩
    rw [hH10] at B10
    rw [hH10]
    have HH10 := hid hH10
    have HA10 := hid ha10
    clear hH10 ha10
    obtain ⟨p0, p1, -, -⟩ := row_facts B10.out
    have HV6 := HV
    have HT6 := HT
    have RM6 := RM
    have RA6 := RA
    have RB6 := RB
    have B106 := B10
    have HV106 := HV10
    have EX6 := EX
    have ha := (Ext.rfl' w6).alloc' (.cells #[.bool b10, .slice A10 k10 c10] 47)
    have hq : Row (w6.alloc (.cells #[.bool b10, .slice A10 k10 c10] 47)) w6.heap.size 47 [.bool b10, .slice A10 k10 c10] := Row.new w6 _ _
    obtain ⟨w7, hw7⟩ : ∃ w7, w6.alloc (.cells #[.bool b10, .slice A10 k10 c10] 47) = w7 := ⟨_, rfl⟩
    rw [hw7] at ha hq
    have Ew7 := hid hw7
    have B11 := hid hq
    replace HV := hid (HV.out.ext ha)
    replace RM := hid (RM.out.ext ha)
    replace HT := hid (HT.out.ext ha)
    replace RA := hid (RA.out.ext ha)
    replace RB := hid (RB.out.ext ha)
    replace B8 := hid (B8.out.ext ha)
    replace HV10 := hid (HV10.out.ext ha)
    replace B10 := hid (B10.out.ext ha)
    replace EX := hid (EX.out.step ha)
    have ha11 := ha
    clear ha hq hw7
    go_upto_region 8 with fail
    rw [Ew7.out]
    clear Ew7
    obtain ⟨H11, hH11⟩ : ∃ H11, w6.heap.size = H11 := ⟨_, rfl⟩
    rw [hH11] at B11
    rw [hH11]
    have HH11 := hid hH11
    have HA11 := hid ha11
    clear hH11 ha11
    clear p0 p1
    have EF0 := HA11
    clear HA11
    go_wp2_with fail
    refine (of_any 1 w7 (by decide)).mono ?_
    rintro e w8 ⟨v12, rfl, hv12, hx⟩
    replace HV := hid (HV.out.ext hx)
    replace RM := hid (RM.out.ext hx)
    replace HT := hid (HT.out.ext hx)
    replace RA := hid (RA.out.ext hx)
    replace RB := hid (RB.out.ext hx)
    replace B8 := hid (B8.out.ext hx)
    replace HV10 := hid (HV10.out.ext hx)
    replace B10 := hid (B10.out.ext hx)
    replace B11 := hid (B11.out.ext hx)
    replace EX := hid (EX.out.step hx)
    replace EF0 := hid (EF0.out.step hx)
    clear hx
    have HV12 := hid hv12
    obtain ⟨A12, k12, c12, xs12, b12, rfl, -⟩ := hv12
    go_wp2_with fail
    refine (of_any 1 w8 (by decide)).mono ?_
    rintro e w9 ⟨v14, rfl, hv14, hx⟩
    replace HV := hid (HV.out.ext hx)
    replace RM := hid (RM.out.ext hx)
    replace HT := hid (HT.out.ext hx)
    replace RA := hid (RA.out.ext hx)
    replace RB := hid (RB.out.ext hx)
    replace B8 := hid (B8.out.ext hx)
    replace HV10 := hid (HV10.out.ext hx)
    replace B10 := hid (B10.out.ext hx)
    replace B11 := hid (B11.out.ext hx)
    replace HV12 := hid (HV12.out.ext hx)
    replace EX := hid (EX.out.step hx)
    replace EF0 := hid (EF0.out.step hx)
    clear hx
    have HV14 := hid hv14
    obtain ⟨A14, k14, c14, xs14, b14, rfl, -⟩ := hv14
    obtain ⟨e3, t12, t13, t14⟩ := box_three w9 47 47 47 [.bool b12, .slice A12 k12 c12] [.bool false, .slice none 0 0] [.bool b14, .slice A14 k14 c14]
    obtain ⟨wL, hwL⟩ : ∃ wL, ((((w9.alloc (.cells #[.bool b12, .slice A12 k12 c12] 47)).alloc (.cells #[.bool false, .slice none 0 0] 47)).alloc (.cells #[.bool b14, .slice A14 k14 c14] 47))) = wL := ⟨_, rfl⟩
    rw [hwL] at e3 t12 t13 t14
    have hwL2 := hid hwL
    clear hwL
    go_upto_region 9 with fail
    rw [hwL2.out]
    obtain ⟨HB, hHB⟩ : ∃ HB, w9.heap.size = HB := ⟨_, rfl⟩
    rw [hHB] at t12 t13 t14
    rw [hHB]
    have HHB : Hid (H11 < HB ∧ w6.heap.size ≤ HB ∧ w6.heap.size ≤ H11) := hid ⟨by rw [← hHB]; exact B11.out.lt, by rw [← hHB]; exact EF0.out.size, by have := HH11.out; omega⟩
    have B12 := hid t12
    have B13 := hid t13
    have B14 := hid t14
    replace HV := hid (HV.out.ext e3)
    replace RM := hid (RM.out.ext e3)
    replace HT := hid (HT.out.ext e3)
    replace RA := hid (RA.out.ext e3)
    replace RB := hid (RB.out.ext e3)
    replace B8 := hid (B8.out.ext e3)
    replace HV10 := hid (HV10.out.ext e3)
    replace B10 := hid (B10.out.ext e3)
    replace B11 := hid (B11.out.ext e3)
    replace HV12 := hid (HV12.out.ext e3)
    replace HV14 := hid (HV14.out.ext e3)
    replace EX := hid (EX.out.step e3)
    replace EF0 := hid (EF0.out.step e3)
    clear e3 t12 t13 t14 hwL2 hHB
    have E6 : Hid (Ext wL wL) := hid (Ext.rfl' _)
    go_wp2_with fail
    go_loopw [15] (fun iz wr => ∃ (j : Nat) (x1 : Bool) (P1 : Option Addr) (q1 d1 : Nat) (x2 : Bool) (P2 : Option Addr) (q2 d2' : Nat) (x3 : Bool) (P3 : Option Addr) (q3 d3 : Nat) (x4 : Bool) (P4 : Option Addr) (q4 d4 : Nat), j ≤ q ∧ iz = .int .i64 (j : Int) ∧ Row wr H11 47 [.bool x1, .slice P1 q1 d1] ∧ Row wr HB 47 [.bool x2, .slice P2 q2 d2'] ∧ Row wr (HB + 1) 47 [.bool x3, .slice P3 q3 d3] ∧ Row wr (HB + 1 + 1) 47 [.bool x4, .slice P4 q4 d4] ∧ RefV wr (.agg #[.bool x1, .slice P1 q1 d1]) (orbN m us ad j X) ∧ RefV wr (.agg #[.bool x2, .slice P2 q2 d2']) (lnX m us ad X j).1 ∧ RefV wr (.agg #[.bool x3, .slice P3 q3 d3]) (lnX m us ad X j).2.1 ∧ RefV wr (.agg #[.bool x4, .slice P4 q4 d4]) (m ^ j) ∧ Ext w6 wr) (fun iz _ => q - (intOf iz).toNat)
    case atStart => exact ⟨0, b10, A10, k10, c10, b12, A12, k12, c12, false, none, 0, 0, b14, A14, k14, c14, by omega, rfl, B11.out, B12.out, B13.out, B14.out, HV10.out, HV12.out, ref_nil _, by rw [Int.pow_zero]; exact HV14.out, EF0.out⟩
    case round =>
      clear HV HT RM RA RB B10 HV10 B11 B12 B13 B14 HV12 HV14 EX EF0
      obtain ⟨j, x1, P1, q1, d1, x2, P2, q2, d2', x3, P3, q3, d3, x4, P4, q4, d4, hj, rfl, r1, r2, r3, r4, v1, v2, v3, v4, hex⟩ := hrel
      have B11 := hid r1
      have B12 := hid r2
      have B13 := hid r3
      have B14 := hid r4
      have V1 := hid v1
      have V2 := hid v2
      have V3 := hid v3
      have V4 := hid v4
      have EF := hid hex
      have HV := hid (HV6.out.ext hex)
      have HT := hid (HT6.out.ext hex)
      have RM := hid (RM6.out.ext hex)
      have RA := hid (RA6.out.ext hex)
      have RB := hid (RB6.out.ext hex)
      have B10 := hid (B106.out.ext hex)
      have HV10 := hid (HV106.out.ext hex)
      have EX := hid (EX6.out.step hex)
      clear r1 r2 r3 r4 v1 v2 v3 v4 hex
      by_cases hlt : j < q
      ·
        have hlt2 : (j : Int) < (q : Int) := by omega
        have hln := left_nums hM.out HFX.out (us := us) (ad := ad) (j := j) (by have := HQ.out; omega)
        have hls := left_step hM.out hS.out.1 (HNF.out (j + 1) (by omega) (by omega))
        obtain ⟨hr0, hr1⟩ := rest_ok2 hm0 (orbN m us ad j X)
        obtain ⟨r, hr⟩ : ∃ r : Nat, orbN m us ad j X % m = (r : Int) := ⟨(orbN m us ad j X % m).toNat, by omega⟩
        have hst : orbN m us ad (j + 1) X = stepI m us ad (orbN m us ad j X) := rfl
        rw [hr] at hr1 hln
        simp only [Int.toNat_natCast] at hln
        obtain ⟨M0, hM0⟩ : ∃ t, (lnX m us ad X j).1 = t := ⟨_, rfl⟩
        obtain ⟨A0, hA0⟩ : ∃ t, (lnX m us ad X j).2.1 = t := ⟨_, rfl⟩
        obtain ⟨D0, hD0⟩ : ∃ t, m ^ j = t := ⟨_, rfl⟩
        obtain ⟨Y0, hY0⟩ : ∃ t, orbN m us ad j X = t := ⟨_, rfl⟩
        obtain ⟨M1, hM1⟩ : ∃ t, (lnX m us ad X (j + 1)).1 = t := ⟨_, rfl⟩
        obtain ⟨A1, hA1⟩ : ∃ t, (lnX m us ad X (j + 1)).2.1 = t := ⟨_, rfl⟩
        obtain ⟨D1, hD1⟩ : ∃ t, m ^ (j + 1) = t := ⟨_, rfl⟩
        obtain ⟨Y1, hY1⟩ : ∃ t, orbN m us ad (j + 1) X = t := ⟨_, rfl⟩
        obtain ⟨u, hu⟩ : ∃ t, us.getD r 0 = t := ⟨_, rfl⟩
        obtain ⟨a, ha⟩ : ∃ t, ad.getD r 0 = t := ⟨_, rfl⟩
        have HYB : Hid (Y0.natAbs ≤ BIG) := hid (by rw [← hY0]; exact exact_orb hM.out HFX.out (by have := HQ.out; omega))
        have HSB : Hid (Y0.natAbs ≤ BIG ∧ (mulAt m us Y0 * Y0).natAbs ≤ BIG ∧ (mulAt m us Y0 * Y0 + ad.getD (rOf m Y0) 0).natAbs ≤ BIG) := hid (by
          have SX : Sm 224 X := by have := fits_top HFX.out; have := top_step 223 224 (by omega); have := TOP_pos 223; unfold Sm; omega
          rw [← hY0]; exact exact_big hM.out (SX.orb hM.out (k := j) (by have := HQ.out; omega) (f := 238) (by omega)))
        rw [hM0, hA0, hD0, hM1, hA1, hD1, hY1, hu, ha] at hln
        rw [hM1, hA1, hD1, hY1] at hls
        rw [hY0] at hr hst
        rw [hY1] at hst
        rw [hM0] at V2
        rw [hA0] at V3
        rw [hD0] at V4
        rw [hY0] at V1
        have HLN := hid hln
        have HLS := hid hls
        have HRR := hid hr
        have HST := hid hst
        have HEQ : Hid ((lnX m us ad X (j + 1)).1 = M1 ∧ (lnX m us ad X (j + 1)).2.1 = A1 ∧ m ^ (j + 1) = D1 ∧ orbN m us ad (j + 1) X = Y1) := hid ⟨hM1, hA1, hD1, hY1⟩
        have hra : ∀ W', Ext wr W' → W'.cell? ⟨ba, oa + r, none⟩ = some (.int .i64 u) := fun W' e => by
          obtain ⟨b', o', e1, -, e2⟩ := (RA.out.ext e).atI (k := r) (by have := HL12.out; omega)
          cases e1
          rw [← hu]; exact e2
        have hrb : ∀ W', Ext wr W' → W'.cell? ⟨bb, ob + r, none⟩ = some (.int .i64 a) := fun W' e => by
          obtain ⟨b', o', e1, -, e2⟩ := (RB.out.ext e).atI (k := r) (by have := HL12.out; omega)
          cases e1
          rw [← ha]; exact e2
        have HRA2 := hid hra
        have HRB2 := hid hrb
        have i0 : (0 : Int) ≤ (r : Int) := by omega
        have i1 : (r : Int) < (n : Int) := by have := HL12.out; omega
        have i2 : (r : Int) < (n2 : Int) := by have := HL12.out; omega
        clear hln hls hr hst hM0 hA0 hD0 hY0 hM1 hA1 hD1 hY1 hu ha hra hrb hr0 hr1
        obtain ⟨f0, f1, f2, -, -, -⟩ := row_facts3 RM.out
        obtain ⟨p0, p1, -, -⟩ := row_facts B11.out
        go_wp2_with fail
        refine (rest2_s _ _ m Y0 us ad wr HV.out V1.out HYB.out (by omega) (by have := hM.out.2.1; omega) HRR).mono ?_
        rintro e w20 ⟨rfl, hx⟩
        replace HRA2 : Hid (∀ W', Ext w20 W' → W'.cell? ⟨ba, oa + r, none⟩ = some (.int .i64 u)) := hid (fun W' e => HRA2.out W' (hx.step e))
        replace HRB2 : Hid (∀ W', Ext w20 W' → W'.cell? ⟨bb, ob + r, none⟩ = some (.int .i64 a)) := hid (fun W' e => HRB2.out W' (hx.step e))
        replace HV := hid (HV.out.ext hx)
        replace HT := hid (HT.out.ext hx)
        replace RM := hid (RM.out.ext hx)
        replace RA := hid (RA.out.ext hx)
        replace RB := hid (RB.out.ext hx)
        replace B10 := hid (B10.out.ext hx)
        replace HV10 := hid (HV10.out.ext hx)
        replace B11 := hid (B11.out.ext hx)
        replace B12 := hid (B12.out.ext hx)
        replace B13 := hid (B13.out.ext hx)
        replace B14 := hid (B14.out.ext hx)
        replace V1 := hid (V1.out.ext hx)
        replace V2 := hid (V2.out.ext hx)
        replace V3 := hid (V3.out.ext hx)
        replace V4 := hid (V4.out.ext hx)
        replace EX := hid (EX.out.step hx)
        replace EF := hid (EF.out.step hx)
        clear hx f0 f1 f2 p0 p1
        go_upto_region 13 with fail
        have HS : Hid (∀ W', Ext w20 W' → W'.cell? ⟨w.heap.size, 0, none⟩ = some (.int .i64 m) ∧ W'.cell? ⟨w.heap.size, 1, none⟩ = some (.slice (some ⟨ba, oa, none⟩) n cc) ∧ W'.cell? ⟨w.heap.size, 2, none⟩ = some (.slice (some ⟨bb, ob, none⟩) n2 d2) ∧ W'.cell? ⟨HB, 0, none⟩ = some (.bool x2) ∧ W'.cell? ⟨HB, 1, none⟩ = some (.slice P2 q2 d2') ∧ W'.cell? ⟨HB + 1, 0, none⟩ = some (.bool x3) ∧ W'.cell? ⟨HB + 1, 1, none⟩ = some (.slice P3 q3 d3) ∧ W'.cell? ⟨HB + 1 + 1, 0, none⟩ = some (.bool x4) ∧ W'.cell? ⟨HB + 1 + 1, 1, none⟩ = some (.slice P4 q4 d4) ∧ W'.cell? ⟨ba, oa + r, none⟩ = some (.int .i64 u) ∧ W'.cell? ⟨bb, ob + r, none⟩ = some (.int .i64 a)) := hid (by
          intro W' e
          obtain ⟨x0, y0, z0, -, -, -⟩ := row_facts3 (RM.out.ext e)
          obtain ⟨x1, y1, -, -⟩ := row_facts (B12.out.ext e)
          obtain ⟨x2, y2, -, -⟩ := row_facts (B13.out.ext e)
          obtain ⟨x3, y3, -, -⟩ := row_facts (B14.out.ext e)
          exact ⟨x0, y0, z0, x1, y1, x2, y2, x3, y3, HRA2.out W' e, HRB2.out W' e⟩)
        have hcur : Ext w20 w20 := Ext.rfl' _
        refine wp_region_split 30 (fun W' => W'.cell? ⟨w.heap.size, 0, none⟩ = some (.int .i64 m) ∧ W'.cell? ⟨w.heap.size, 1, none⟩ = some (.slice (some ⟨ba, oa, none⟩) n cc) ∧ W'.cell? ⟨w.heap.size, 2, none⟩ = some (.slice (some ⟨bb, ob, none⟩) n2 d2) ∧ W'.cell? ⟨HB, 0, none⟩ = some (.bool x2) ∧ W'.cell? ⟨HB, 1, none⟩ = some (.slice P2 q2 d2') ∧ W'.cell? ⟨HB + 1, 0, none⟩ = some (.bool x3) ∧ W'.cell? ⟨HB + 1, 1, none⟩ = some (.slice P3 q3 d3) ∧ W'.cell? ⟨HB + 1 + 1, 0, none⟩ = some (.bool x4) ∧ W'.cell? ⟨HB + 1 + 1, 1, none⟩ = some (.slice P4 q4 d4) ∧ W'.cell? ⟨ba, oa + r, none⟩ = some (.int .i64 u) ∧ W'.cell? ⟨bb, ob + r, none⟩ = some (.int .i64 a)) (by kernel_rfl) (by kernel_rfl) ?shh (fun hh0 => ?_)
        case shh => (try dsimp only); (first | (with_reducible exact HS.out _ hcur) | (with_reducible exact HS.out _ hcur.drew') | (with_reducible exact HS.out _ (hcur.alloc' _)) | go_keep)
        simp only [List.take_succ_cons, List.take_zero, List.drop_succ_cons, List.drop_zero]
        refine takeH (i := 0) (v := ?vhh0) rfl (by kernel_rfl) (fun _ _ _ h => h) ⟨by rfl, ?yhh0⟩ (by assumption) ?_
        case yhh0 => intro w hSw; (try dsimp only at hSw); go_simp; (try with_reducible rfl)
        try simp only [Act.put, List.setIfInBounds_toArray, List.set_cons_zero, List.set_cons_succ]
        refine takeH (i := 1) (v := ?vhh1) rfl (by kernel_rfl) (fun _ _ _ h => h) ⟨by rfl, ?yhh1⟩ (by assumption) ?_
        case yhh1 => intro w hSw; (try dsimp only at hSw); go_simp; (try with_reducible rfl)
        try simp only [Act.put, List.setIfInBounds_toArray, List.set_cons_zero, List.set_cons_succ]
        refine takeH (i := 2) (v := ?vhh2) rfl (by kernel_rfl) (fun _ _ _ h => h) ⟨by rfl, ?yhh2⟩ (by assumption) ?_
        case yhh2 => intro w hSw; (try dsimp only at hSw); go_simp; (try with_reducible rfl)
        try simp only [Act.put, List.setIfInBounds_toArray, List.set_cons_zero, List.set_cons_succ]
        refine takeH (i := 3) (v := ?vhh3) rfl (by kernel_rfl) (fun _ _ _ h => h) ⟨by rfl, ?yhh3⟩ (by assumption) ?_
        case yhh3 => intro w hSw; (try dsimp only at hSw); go_simp; (try with_reducible rfl)
        try simp only [Act.put, List.setIfInBounds_toArray, List.set_cons_zero, List.set_cons_succ]
        refine takeH (i := 4) (v := ?vhh4) rfl (by kernel_rfl) (fun _ _ _ h => h) ⟨by rfl, ?yhh4⟩ (by assumption) ?_
        case yhh4 => intro w hSw; (try dsimp only at hSw); go_simp; (try with_reducible rfl)
        try simp only [Act.put, List.setIfInBounds_toArray, List.set_cons_zero, List.set_cons_succ]
        refine takeH (i := 6) (v := ?vhh6) rfl (by kernel_rfl) (fun _ _ _ h => h) ⟨by rfl, ?yhh6⟩ (by assumption) ?_
        case yhh6 => intro w hSw; (try dsimp only at hSw); go_simp; (try with_reducible rfl)
        try simp only [Act.put, List.setIfInBounds_toArray, List.set_cons_zero, List.set_cons_succ]
        refine takeH (i := 8) (v := ?vhh8) rfl (by kernel_rfl) (fun _ _ _ h => h) ⟨by rfl, ?yhh8⟩ (by assumption) ?_
        case yhh8 => intro w hSw; (try dsimp only at hSw); go_simp; (try with_reducible rfl)
        try simp only [Act.put, List.setIfInBounds_toArray, List.set_cons_zero, List.set_cons_succ]
        refine takeH (i := 9) (v := ?vhh9) rfl (by kernel_rfl) (fun _ _ _ h => h) ⟨by rfl, ?yhh9⟩ (by assumption) ?_
        case yhh9 => intro w hSw; (try dsimp only at hSw); go_simp; (try with_reducible rfl)
        try simp only [Act.put, List.setIfInBounds_toArray, List.set_cons_zero, List.set_cons_succ]
        refine takeH (i := 10) (v := ?vhh10) rfl (by kernel_rfl) (fun _ _ _ h => h) ⟨by rfl, ?yhh10⟩ (by assumption) ?_
        case yhh10 => intro w hSw; (try dsimp only at hSw); go_simp; (try with_reducible rfl)
        try simp only [Act.put, List.setIfInBounds_toArray, List.set_cons_zero, List.set_cons_succ]
        refine takeH (i := 11) (v := ?vhh11) rfl (by kernel_rfl) (fun _ _ _ h => h) ⟨by rfl, ?yhh11⟩ (by assumption) ?_
        case yhh11 => intro w hSw; (try dsimp only at hSw); go_simp; (try with_reducible rfl)
        try simp only [Act.put, List.setIfInBounds_toArray, List.set_cons_zero, List.set_cons_succ]
        refine takeH (i := 12) (v := ?vhh12) rfl (by kernel_rfl) (fun _ _ _ h => h) ⟨by rfl, ?yhh12⟩ (by assumption) ?_
        case yhh12 => intro w hSw; (try dsimp only at hSw); go_simp; (try with_reducible rfl)
        try simp only [Act.put, List.setIfInBounds_toArray, List.set_cons_zero, List.set_cons_succ]
        refine takeH (i := 14) (v := ?vhh14) rfl (by kernel_rfl) (fun _ _ _ h => h) ⟨by rfl, ?yhh14⟩ (by assumption) ?_
        case yhh14 => intro w hSw; (try dsimp only at hSw); go_simp; (try with_reducible rfl)
        try simp only [Act.put, List.setIfInBounds_toArray, List.set_cons_zero, List.set_cons_succ]
        refine takeH (i := 16) (v := ?vhh16) rfl (by kernel_rfl) (fun _ _ _ h => h) ⟨by rfl, ?yhh16⟩ (by assumption) ?_
        case yhh16 => intro w hSw; (try dsimp only at hSw); go_simp; (try with_reducible rfl)
        try simp only [Act.put, List.setIfInBounds_toArray, List.set_cons_zero, List.set_cons_succ]
        refine takeH (i := 17) (v := ?vhh17) rfl (by kernel_rfl) (fun _ _ _ h => h) ⟨by rfl, ?yhh17⟩ (by assumption) ?_
        case yhh17 => intro w hSw; (try dsimp only at hSw); go_simp; (try with_reducible rfl)
        try simp only [Act.put, List.setIfInBounds_toArray, List.set_cons_zero, List.set_cons_succ]
        refine takeH (i := 18) (v := ?vhh18) rfl (by kernel_rfl) (fun _ _ _ h => h) ⟨by rfl, ?yhh18⟩ (by assumption) ?_
        case yhh18 => intro w hSw; (try dsimp only at hSw); go_simp; (try with_reducible rfl)
        try simp only [Act.put, List.setIfInBounds_toArray, List.set_cons_zero, List.set_cons_succ]
        refine takeH (i := 19) (v := ?vhh19) rfl (by kernel_rfl) (fun _ _ _ h => h) ⟨by rfl, ?yhh19⟩ (by assumption) ?_
        case yhh19 => intro w hSw; (try dsimp only at hSw); go_simp; (try with_reducible rfl)
        try simp only [Act.put, List.setIfInBounds_toArray, List.set_cons_zero, List.set_cons_succ]
        refine takeH (i := 20) (v := ?vhh20) rfl (by kernel_rfl) (fun _ _ _ h => h) ⟨by rfl, ?yhh20⟩ (by assumption) ?_
        case yhh20 => intro w hSw; (try dsimp only at hSw); go_simp; (try with_reducible rfl)
        try simp only [Act.put, List.setIfInBounds_toArray, List.set_cons_zero, List.set_cons_succ]
        refine takeH (i := 22) (v := ?vhh22) rfl (by kernel_rfl) (fun _ _ _ h => h) ⟨by rfl, ?yhh22⟩ (by assumption) ?_
        case yhh22 => intro w hSw; (try dsimp only at hSw); go_simp; (try with_reducible rfl)
        try simp only [Act.put, List.setIfInBounds_toArray, List.set_cons_zero, List.set_cons_succ]
        refine takeH (i := 25) (v := ?vhh25) rfl (by kernel_rfl) (fun _ _ _ h => h) ⟨by rfl, ?yhh25⟩ (by assumption) ?_
        case yhh25 => intro w hSw; (try dsimp only at hSw); go_simp; (try with_reducible rfl)
        try simp only [Act.put, List.setIfInBounds_toArray, List.set_cons_zero, List.set_cons_succ]
        refine takeH (i := 26) (v := ?vhh26) rfl (by kernel_rfl) (fun _ _ _ h => h) ⟨by rfl, ?yhh26⟩ (by assumption) ?_
        case yhh26 => intro w hSw; (try dsimp only at hSw); go_simp; (try with_reducible rfl)
        try simp only [Act.put, List.setIfInBounds_toArray, List.set_cons_zero, List.set_cons_succ]
        refine takeH (i := 28) (v := ?vhh28) rfl (by kernel_rfl) (fun _ _ _ h => h) ⟨by rfl, ?yhh28⟩ (by assumption) ?_
        case yhh28 => intro w hSw; (try dsimp only at hSw); go_simp; (try with_reducible rfl)
        try simp only [Act.put, List.setIfInBounds_toArray, List.set_cons_zero, List.set_cons_succ]
        refine stepH (i := 5) rfl (by kernel_rfl) (fun K hK => ?_)
        go_simp
        go_at_call 28
        refine (of_any u _ HLN.out.2.2.2.2.1).mono ?_
        rintro e w31 ⟨v31, rfl, hv31, hx⟩
        have hcur := Ext.step hcur (by first | exact hx | exact Ext.undrew hx | exact Ext.step ((Ext.rfl' _).alloc' _) hx | exact Ext.step ((Ext.rfl' _).drew'.alloc' _) hx)
        have HV31 := hid hv31
        obtain ⟨A31, k31, c31, xs31, b31, rfl, -⟩ := hv31
        refine hK.out _ _ ?_ (fun hh1 => ?_)
        · (try dsimp only); (first | (with_reducible exact HS.out _ hcur) | (with_reducible exact HS.out _ hcur.drew') | (with_reducible exact HS.out _ (hcur.alloc' _)) | go_keep)
        clear hK K hh0
        try simp only [Act.put, List.setIfInBounds_toArray, List.set_cons_zero, List.set_cons_succ]
        refine stepH (i := 7) rfl (by kernel_rfl) (fun K hK => ?_)
        go_simp
        go_at_call 30
        refine (rmul_any _ _ u M0 _ (HV31.out.ext ?_) (V2.out.ext ?_) HLN.out.1.2.2.2.1 HLN.out.1.1).mono ?_
        · (first | exact Ext.rfl' _ | exact (Ext.rfl' _).drew' | exact (Ext.rfl' _).alloc' _ | exact (Ext.rfl' _).drew'.alloc' _)
        · (first | exact hcur | exact hcur.drew' | exact hcur.alloc' _ | exact hcur.drew'.alloc' _ | exact (hcur.alloc' _).drew')
        rintro e w32 ⟨v32, rfl, hv32, hx⟩
        have hcur := Ext.step hcur (by first | exact hx | exact Ext.undrew hx | exact Ext.step ((Ext.rfl' _).alloc' _) hx | exact Ext.step ((Ext.rfl' _).drew'.alloc' _) hx)
        have HV32 := hid hv32
        obtain ⟨A32, k32, c32, xs32, b32, rfl, -⟩ := hv32
        refine hK.out _ _ ?_ (fun hh2 => ?_)
        · (try dsimp only); (first | (with_reducible exact HS.out _ hcur) | (with_reducible exact HS.out _ hcur.drew') | (with_reducible exact HS.out _ (hcur.alloc' _)) | go_keep)
        clear hK K hh1
        try simp only [Act.put, List.setIfInBounds_toArray, List.set_cons_zero, List.set_cons_succ]
        refine stepH (i := 13) rfl (by kernel_rfl) (fun K hK => ?_)
        go_simp
        go_at_call 28
        refine (of_any u _ HLN.out.2.2.2.2.1).mono ?_
        rintro e w33 ⟨v33, rfl, hv33, hx⟩
        have HV32 := hid (by first | exact HV32.out.ext hx | exact HV32.out.ext (Ext.undrew hx) | exact HV32.out.ext (Ext.step ((Ext.rfl' _).alloc' _) hx))
        have hcur := Ext.step hcur (by first | exact hx | exact Ext.undrew hx | exact Ext.step ((Ext.rfl' _).alloc' _) hx | exact Ext.step ((Ext.rfl' _).drew'.alloc' _) hx)
        have HV33 := hid hv33
        obtain ⟨A33, k33, c33, xs33, b33, rfl, -⟩ := hv33
        refine hK.out _ _ ?_ (fun hh3 => ?_)
        · (try dsimp only); (first | (with_reducible exact HS.out _ hcur) | (with_reducible exact HS.out _ hcur.drew') | (with_reducible exact HS.out _ (hcur.alloc' _)) | go_keep)
        clear hK K hh2
        try simp only [Act.put, List.setIfInBounds_toArray, List.set_cons_zero, List.set_cons_succ]
        refine stepH (i := 15) rfl (by kernel_rfl) (fun K hK => ?_)
        go_simp
        go_at_call 30
        refine (rmul_any _ _ u A0 _ (HV33.out.ext ?_) (V3.out.ext ?_) HLN.out.1.2.2.2.1 HLN.out.1.2.1).mono ?_
        · (first | exact Ext.rfl' _ | exact (Ext.rfl' _).drew' | exact (Ext.rfl' _).alloc' _ | exact (Ext.rfl' _).drew'.alloc' _)
        · (first | exact hcur | exact hcur.drew' | exact hcur.alloc' _ | exact hcur.drew'.alloc' _ | exact (hcur.alloc' _).drew')
        rintro e w34 ⟨v34, rfl, hv34, hx⟩
        have HV32 := hid (by first | exact HV32.out.ext hx | exact HV32.out.ext (Ext.undrew hx) | exact HV32.out.ext (Ext.step ((Ext.rfl' _).alloc' _) hx))
        have hcur := Ext.step hcur (by first | exact hx | exact Ext.undrew hx | exact Ext.step ((Ext.rfl' _).alloc' _) hx | exact Ext.step ((Ext.rfl' _).drew'.alloc' _) hx)
        have HV34 := hid hv34
        obtain ⟨A34, k34, c34, xs34, b34, rfl, -⟩ := hv34
        refine hK.out _ _ ?_ (fun hh4 => ?_)
        · (try dsimp only); (first | (with_reducible exact HS.out _ hcur) | (with_reducible exact HS.out _ hcur.drew') | (with_reducible exact HS.out _ (hcur.alloc' _)) | go_keep)
        clear hK K hh3
        try simp only [Act.put, List.setIfInBounds_toArray, List.set_cons_zero, List.set_cons_succ]
        refine stepH (i := 21) rfl (by kernel_rfl) (fun K hK => ?_)
        go_simp
        go_at_call 28
        refine (of_any a _ HLN.out.2.2.2.2.2.1).mono ?_
        rintro e w35 ⟨v35, rfl, hv35, hx⟩
        have HV32 := hid (by first | exact HV32.out.ext hx | exact HV32.out.ext (Ext.undrew hx) | exact HV32.out.ext (Ext.step ((Ext.rfl' _).alloc' _) hx))
        have HV34 := hid (by first | exact HV34.out.ext hx | exact HV34.out.ext (Ext.undrew hx) | exact HV34.out.ext (Ext.step ((Ext.rfl' _).alloc' _) hx))
        have hcur := Ext.step hcur (by first | exact hx | exact Ext.undrew hx | exact Ext.step ((Ext.rfl' _).alloc' _) hx | exact Ext.step ((Ext.rfl' _).drew'.alloc' _) hx)
        have HV35 := hid hv35
        obtain ⟨A35, k35, c35, xs35, b35, rfl, -⟩ := hv35
        refine hK.out _ _ ?_ (fun hh5 => ?_)
        · (try dsimp only); (first | (with_reducible exact HS.out _ hcur) | (with_reducible exact HS.out _ hcur.drew') | (with_reducible exact HS.out _ (hcur.alloc' _)) | go_keep)
        clear hK K hh4
        try simp only [Act.put, List.setIfInBounds_toArray, List.set_cons_zero, List.set_cons_succ]
        refine stepH (i := 23) rfl (by kernel_rfl) (fun K hK => ?_)
        go_simp
        go_at_call 30
        refine (rmul_any _ _ a D0 _ (HV35.out.ext ?_) (V4.out.ext ?_) HLN.out.1.2.2.2.2.1 HLN.out.1.2.2.1).mono ?_
        · (first | exact Ext.rfl' _ | exact (Ext.rfl' _).drew' | exact (Ext.rfl' _).alloc' _ | exact (Ext.rfl' _).drew'.alloc' _)
        · (first | exact hcur | exact hcur.drew' | exact hcur.alloc' _ | exact hcur.drew'.alloc' _ | exact (hcur.alloc' _).drew')
        rintro e w36 ⟨v36, rfl, hv36, hx⟩
        have HV32 := hid (by first | exact HV32.out.ext hx | exact HV32.out.ext (Ext.undrew hx) | exact HV32.out.ext (Ext.step ((Ext.rfl' _).alloc' _) hx))
        have HV34 := hid (by first | exact HV34.out.ext hx | exact HV34.out.ext (Ext.undrew hx) | exact HV34.out.ext (Ext.step ((Ext.rfl' _).alloc' _) hx))
        have hcur := Ext.step hcur (by first | exact hx | exact Ext.undrew hx | exact Ext.step ((Ext.rfl' _).alloc' _) hx | exact Ext.step ((Ext.rfl' _).drew'.alloc' _) hx)
        have HV36 := hid hv36
        obtain ⟨A36, k36, c36, xs36, b36, rfl, -⟩ := hv36
        refine hK.out _ _ ?_ (fun hh6 => ?_)
        · (try dsimp only); (first | (with_reducible exact HS.out _ hcur) | (with_reducible exact HS.out _ hcur.drew') | (with_reducible exact HS.out _ (hcur.alloc' _)) | go_keep)
        clear hK K hh5
        try simp only [Act.put, List.setIfInBounds_toArray, List.set_cons_zero, List.set_cons_succ]
        refine stepH (i := 24) rfl (by kernel_rfl) (fun K hK => ?_)
        go_simp
        go_at_call 31
        refine (radd_any _ _ (u * A0) (a * D0) _ (HV34.out.ext ?_) (HV36.out.ext ?_) HLN.out.2.2.1.1 HLN.out.2.2.1.2).mono ?_
        · (first | exact Ext.rfl' _ | exact (Ext.rfl' _).drew' | exact (Ext.rfl' _).alloc' _ | exact (Ext.rfl' _).drew'.alloc' _)
        · (first | exact Ext.rfl' _ | exact (Ext.rfl' _).drew' | exact (Ext.rfl' _).alloc' _ | exact (Ext.rfl' _).drew'.alloc' _)
        rintro e w37 ⟨v37, rfl, hv37, hx⟩
        have HV32 := hid (by first | exact HV32.out.ext hx | exact HV32.out.ext (Ext.undrew hx) | exact HV32.out.ext (Ext.step ((Ext.rfl' _).alloc' _) hx))
        have hcur := Ext.step hcur (by first | exact hx | exact Ext.undrew hx | exact Ext.step ((Ext.rfl' _).alloc' _) hx | exact Ext.step ((Ext.rfl' _).drew'.alloc' _) hx)
        have HV37 := hid hv37
        obtain ⟨A37, k37, c37, xs37, b37, rfl, -⟩ := hv37
        refine hK.out _ _ ?_ (fun hh7 => ?_)
        · (try dsimp only); (first | (with_reducible exact HS.out _ hcur) | (with_reducible exact HS.out _ hcur.drew') | (with_reducible exact HS.out _ (hcur.alloc' _)) | go_keep)
        clear hK K hh6
        try simp only [Act.put, List.setIfInBounds_toArray, List.set_cons_zero, List.set_cons_succ]
        refine stepH (i := 27) rfl (by kernel_rfl) (fun K hK => ?_)
        go_simp
        go_at_call 28
        refine (of_any m _ HLN.out.2.2.2.2.2.2).mono ?_
        rintro e w38 ⟨v38, rfl, hv38, hx⟩
        have HV32 := hid (by first | exact HV32.out.ext hx | exact HV32.out.ext (Ext.undrew hx) | exact HV32.out.ext (Ext.step ((Ext.rfl' _).alloc' _) hx))
        have HV37 := hid (by first | exact HV37.out.ext hx | exact HV37.out.ext (Ext.undrew hx) | exact HV37.out.ext (Ext.step ((Ext.rfl' _).alloc' _) hx))
        have hcur := Ext.step hcur (by first | exact hx | exact Ext.undrew hx | exact Ext.step ((Ext.rfl' _).alloc' _) hx | exact Ext.step ((Ext.rfl' _).drew'.alloc' _) hx)
        have HV38 := hid hv38
        obtain ⟨A38, k38, c38, xs38, b38, rfl, -⟩ := hv38
        refine hK.out _ _ ?_ (fun hh8 => ?_)
        · (try dsimp only); (first | (with_reducible exact HS.out _ hcur) | (with_reducible exact HS.out _ hcur.drew') | (with_reducible exact HS.out _ (hcur.alloc' _)) | go_keep)
        clear hK K hh7
        try simp only [Act.put, List.setIfInBounds_toArray, List.set_cons_zero, List.set_cons_succ]
        refine stepH (i := 29) rfl (by kernel_rfl) (fun K hK => ?_)
        go_simp
        go_at_call 30
        refine (rmul_any _ _ m D0 _ (HV38.out.ext ?_) (V4.out.ext ?_) HLN.out.1.2.2.2.2.2.1 HLN.out.1.2.2.1).mono ?_
        · (first | exact Ext.rfl' _ | exact (Ext.rfl' _).drew' | exact (Ext.rfl' _).alloc' _ | exact (Ext.rfl' _).drew'.alloc' _)
        · (first | exact hcur | exact hcur.drew' | exact hcur.alloc' _ | exact hcur.drew'.alloc' _ | exact (hcur.alloc' _).drew')
        rintro e w39 ⟨v39, rfl, hv39, hx⟩
        have HV32 := hid (by first | exact HV32.out.ext hx | exact HV32.out.ext (Ext.undrew hx) | exact HV32.out.ext (Ext.step ((Ext.rfl' _).alloc' _) hx))
        have HV37 := hid (by first | exact HV37.out.ext hx | exact HV37.out.ext (Ext.undrew hx) | exact HV37.out.ext (Ext.step ((Ext.rfl' _).alloc' _) hx))
        have hcur := Ext.step hcur (by first | exact hx | exact Ext.undrew hx | exact Ext.step ((Ext.rfl' _).alloc' _) hx | exact Ext.step ((Ext.rfl' _).drew'.alloc' _) hx)
        have HV39 := hid hv39
        obtain ⟨A39, k39, c39, xs39, b39, rfl, -⟩ := hv39
        refine hK.out _ _ ?_ (fun hh9 => ?_)
        · (try dsimp only); (first | (with_reducible exact HS.out _ hcur) | (with_reducible exact HS.out _ hcur.drew') | (with_reducible exact HS.out _ (hcur.alloc' _)) | go_keep)
        clear hK K hh8
        try simp only [Act.put, List.setIfInBounds_toArray, List.set_cons_zero, List.set_cons_succ]
        refine wpAnyH_done (by kernel_rfl) ?_ _
        change wpList _ _ _ _ _ _
        clear hh9
        have hx := hcur
        rw [HLN.out.2.1.1] at HV32
        rw [HLN.out.2.1.2.1] at HV37
        rw [HLN.out.2.1.2.2] at HV39
        replace HV := hid (HV.out.ext hx)
        replace HT := hid (HT.out.ext hx)
        replace RM := hid (RM.out.ext hx)
        replace RA := hid (RA.out.ext hx)
        replace RB := hid (RB.out.ext hx)
        replace B10 := hid (B10.out.ext hx)
        replace HV10 := hid (HV10.out.ext hx)
        replace B11 := hid (B11.out.ext hx)
        replace B12 := hid (B12.out.ext hx)
        replace B13 := hid (B13.out.ext hx)
        replace B14 := hid (B14.out.ext hx)
        replace V1 := hid (V1.out.ext hx)
        replace V2 := hid (V2.out.ext hx)
        replace V3 := hid (V3.out.ext hx)
        replace V4 := hid (V4.out.ext hx)
        replace EX := hid (EX.out.step hx)
        replace EF := hid (EF.out.step hx)
        clear hcur HS hx HRA2 HRB2 i0 i1 i2
        obtain ⟨y0, y1, y2, y3⟩ := row_facts B12.out
        obtain ⟨z0, z1, z2, z3⟩ := row_facts B13.out
        obtain ⟨t0, t1, t2, t3⟩ := row_facts B14.out
        go_upto_region 14 with fail
        clear y0 y1 y2 y3 z0 z1 z2 z3 t0 t1 t2 t3
        obtain ⟨w40, hw40⟩ : ∃ w40, ((((((w39.setCell ⟨HB, 0, none⟩ (.bool b32)).setCell ⟨HB, 1, none⟩ (.slice A32 k32 c32)).setCell ⟨HB + 1, 0, none⟩ (.bool b37)).setCell ⟨HB + 1, 1, none⟩ (.slice A37 k37 c37)).setCell ⟨HB + 1 + 1, 0, none⟩ (.bool b39)).setCell ⟨HB + 1 + 1, 1, none⟩ (.slice A39 k39 c39)) = w40 := ⟨_, rfl⟩
        obtain ⟨s12, s13, s14, hkp, hfr, hex⟩ := put_three B12.out B13.out B14.out w40 hw40.symm
        rw [hw40]
        have e6 := hex _ EF.out HHB.out.2.1
        replace EF := hid e6
        replace HV := hid (HV6.out.ext e6)
        replace HT := hid (HT6.out.ext e6)
        replace RM := hid (RM6.out.ext e6)
        replace RA := hid (RA6.out.ext e6)
        replace RB := hid (RB6.out.ext e6)
        replace B10 := hid (B106.out.ext e6)
        replace HV10 := hid (HV106.out.ext e6)
        replace EX := hid (EX6.out.step e6)
        replace B11 := hid (hfr _ _ _ (by have := HHB.out; omega) (by have := HHB.out; omega) (by have := HHB.out; omega) B11.out)
        replace V1 := hid (V1.out.kept hkp)
        replace V2 := hid (HV32.out.kept hkp)
        replace V3 := hid (HV37.out.kept hkp)
        replace V4 := hid (HV39.out.kept hkp)
        replace B12 := hid s12
        replace B13 := hid s13
        replace B14 := hid s14
        clear s12 s13 s14 hkp hfr hex e6 hw40 HV32 HV37 HV39
        obtain ⟨f0, f1, f2, -, -, -⟩ := row_facts3 RM.out
        obtain ⟨p0, p1, -, -⟩ := row_facts B11.out
        go_wp2_with fail
        refine (step2_any _ _ m Y0 us ad w40 HV.out hM V1.out HSB).mono ?_
        rintro e w41 ⟨v41, rfl, hv41, hx⟩
        rw [← HST.out] at hv41
        have HV41 := hid hv41
        obtain ⟨A41, k41, c41, xs41, b41, rfl, -⟩ := hv41
        replace HV := hid (HV.out.ext hx)
        replace HT := hid (HT.out.ext hx)
        replace RM := hid (RM.out.ext hx)
        replace RA := hid (RA.out.ext hx)
        replace RB := hid (RB.out.ext hx)
        replace B10 := hid (B10.out.ext hx)
        replace HV10 := hid (HV10.out.ext hx)
        replace B11 := hid (B11.out.ext hx)
        replace B12 := hid (B12.out.ext hx)
        replace B13 := hid (B13.out.ext hx)
        replace B14 := hid (B14.out.ext hx)
        replace V1 := hid (V1.out.ext hx)
        replace V2 := hid (V2.out.ext hx)
        replace V3 := hid (V3.out.ext hx)
        replace V4 := hid (V4.out.ext hx)
        replace EX := hid (EX.out.step hx)
        replace EF := hid (EF.out.step hx)
        clear hx f0 f1 f2 p0 p1
        obtain ⟨p0, p1, p2, p3⟩ := row_facts B11.out
        go_upto_region 15 with fail
        clear p0 p1 p2 p3
        obtain ⟨w42, hw42⟩ : ∃ w42, ((w41.setCell ⟨H11, 0, none⟩ (.bool b41)).setCell ⟨H11, 1, none⟩ (.slice A41 k41 c41)) = w42 := ⟨_, rfl⟩
        obtain ⟨s11, hkp, hfr, hex⟩ := put_one B11.out w42 hw42.symm
        rw [hw42]
        have e6 := hex _ EF.out HHB.out.2.2
        replace EF := hid e6
        replace HV := hid (HV6.out.ext e6)
        replace HT := hid (HT6.out.ext e6)
        replace RM := hid (RM6.out.ext e6)
        replace RA := hid (RA6.out.ext e6)
        replace RB := hid (RB6.out.ext e6)
        replace B10 := hid (B106.out.ext e6)
        replace HV10 := hid (HV106.out.ext e6)
        replace EX := hid (EX6.out.step e6)
        replace B12 := hid (hfr _ _ _ (by have := HHB.out; omega) B12.out)
        replace B13 := hid (hfr _ _ _ (by have := HHB.out; omega) B13.out)
        replace B14 := hid (hfr _ _ _ (by have := HHB.out; omega) B14.out)
        replace V1 := hid (HV41.out.kept hkp)
        replace V2 := hid (V2.out.kept hkp)
        replace V3 := hid (V3.out.kept hkp)
        replace V4 := hid (V4.out.kept hkp)
        replace B11 := hid s11
        clear s11 hkp hfr hex e6 hw42 HV41
        have HS : Hid (∀ W', Ext w42 W' → W'.cell? ⟨HB, 0, none⟩ = some (.bool b32) ∧ W'.cell? ⟨HB, 1, none⟩ = some (.slice A32 k32 c32) ∧ W'.cell? ⟨HB + 1, 0, none⟩ = some (.bool b37) ∧ W'.cell? ⟨HB + 1, 1, none⟩ = some (.slice A37 k37 c37) ∧ W'.cell? ⟨HB + 1 + 1, 0, none⟩ = some (.bool b39) ∧ W'.cell? ⟨HB + 1 + 1, 1, none⟩ = some (.slice A39 k39 c39) ∧ W'.cell? ⟨H10, 0, none⟩ = some (.bool b10) ∧ W'.cell? ⟨H10, 1, none⟩ = some (.slice A10 k10 c10)) := hid (by
          intro W' e
          obtain ⟨x0, y0, -, -⟩ := row_facts (B12.out.ext e)
          obtain ⟨x1, y1, -, -⟩ := row_facts (B13.out.ext e)
          obtain ⟨x2, y2, -, -⟩ := row_facts (B14.out.ext e)
          obtain ⟨x3, y3, -, -⟩ := row_facts (B10.out.ext e)
          exact ⟨x0, y0, x1, y1, x2, y2, x3, y3⟩)
        have hcur : Ext w42 w42 := Ext.rfl' _
        go_cut [17] (fun sx wx => ∃ (WN : World) (H17 : Nat) (b52 : Bool) (A52 : Option Addr) (k52 c52 : Nat), WN = wx ∧ sx = .pointer (some ⟨H17, 0, none⟩) ∧ Row wx H17 47 [.bool b52, .slice A52 k52 c52] ∧ RefV wx (.agg #[.bool b52, .slice A52 k52 c52]) ((M1 - D1) * X + A1) ∧ Ext w42 wx)
        case first =>
          clear HT HV RM RA RB EX EF HV6 HT6 RM6 RA6 RB6 B106 HV106 EX6 B11 B12 B13 B14 B10 HL12 HNF HQ HHB HH11 HH8 HH10 HA8 HA10 hlt hlt2 hj HYB HSB HRR HST HLS
          go_region_held3 (fun W' => W'.cell? ⟨HB, 0, none⟩ = some (.bool b32) ∧ W'.cell? ⟨HB, 1, none⟩ = some (.slice A32 k32 c32) ∧ W'.cell? ⟨HB + 1, 0, none⟩ = some (.bool b37) ∧ W'.cell? ⟨HB + 1, 1, none⟩ = some (.slice A37 k37 c37) ∧ W'.cell? ⟨HB + 1 + 1, 0, none⟩ = some (.bool b39) ∧ W'.cell? ⟨HB + 1 + 1, 1, none⟩ = some (.slice A39 k39 c39) ∧ W'.cell? ⟨H10, 0, none⟩ = some (.bool b10) ∧ W'.cell? ⟨H10, 1, none⟩ = some (.slice A10 k10 c10))
            (first | (with_reducible exact HS.out _ hcur) | (with_reducible exact HS.out _ hcur.drew') | (with_reducible exact HS.out _ (hcur.alloc' _)) | (with_reducible exact HS.out _ (hcur.drew'.alloc' _)) | (with_reducible exact HS.out _ (hcur.alloc' _).drew') | exact HS.out _ ((hcur.set' HB2.out.1 _).set' HB2.out.1 _) | go_keep)
            (first
              | (go_at_call 33; refine (rsub_any _ _ M1 D1 _ (V2.out.ext ?_) (V4.out.ext ?_) HLN.out.2.2.2.1.1 HLN.out.2.2.2.1.2.2.1).mono ?_; (first | exact hcur | exact hcur.drew' | exact hcur.alloc' _ | exact hcur.drew'.alloc' _ | exact (hcur.alloc' _).drew'); (first | exact hcur | exact hcur.drew' | exact hcur.alloc' _ | exact hcur.drew'.alloc' _ | exact (hcur.alloc' _).drew'); rintro e w50 ⟨v50, rfl, hv50, hx⟩; (first | have HB2 := hid (HB2.out.ext hx) | have HB2 := hid ((NB.new hcur.size).ext hx) | have HB2 := hid ((NB.newD hcur.size).ext hx) | skip); have hcur := Ext.step hcur (by first | exact hx | exact Ext.undrew hx | exact Ext.step ((Ext.rfl' _).alloc' _) hx | exact Ext.step ((Ext.rfl' _).drew'.alloc' _) hx); have HV50 := hid hv50; obtain ⟨A50, k50, c50, xs50, b50, rfl, -⟩ := hv50; (first | (have hyy := row_facts HB2.out.2; obtain ⟨y0, y1, y2, y3⟩ := hyy) | skip))
              | (go_at_call 30; refine (rmul_any _ _ (M1 - D1) X _ (HV50.out.ext ?_) (HV10.out.ext ?_) HLN.out.2.2.2.1.2.2.2.1 HLN.out.1.2.2.2.2.2.2).mono ?_; (first | exact Ext.rfl' _ | exact (Ext.rfl' _).drew' | exact (Ext.rfl' _).alloc' _ | exact (Ext.rfl' _).drew'.alloc' _); (first | exact hcur | exact hcur.drew' | exact hcur.alloc' _ | exact hcur.drew'.alloc' _ | exact (hcur.alloc' _).drew'); rintro e w51 ⟨v51, rfl, hv51, hx⟩; (first | have HB2 := hid (HB2.out.ext hx) | have HB2 := hid ((NB.new hcur.size).ext hx) | have HB2 := hid ((NB.newD hcur.size).ext hx) | skip); have hcur := Ext.step hcur (by first | exact hx | exact Ext.undrew hx | exact Ext.step ((Ext.rfl' _).alloc' _) hx | exact Ext.step ((Ext.rfl' _).drew'.alloc' _) hx); have HV51 := hid hv51; obtain ⟨A51, k51, c51, xs51, b51, rfl, -⟩ := hv51; (first | (have hyy := row_facts HB2.out.2; obtain ⟨y0, y1, y2, y3⟩ := hyy) | skip))
              | (go_at_call 31; refine (radd_any _ _ ((M1 - D1) * X) A1 _ (HV51.out.ext ?_) (V3.out.ext ?_) HLN.out.2.2.2.1.2.2.2.2.1 HLN.out.2.2.2.1.2.1).mono ?_; (first | exact Ext.rfl' _ | exact (Ext.rfl' _).drew' | exact (Ext.rfl' _).alloc' _ | exact (Ext.rfl' _).drew'.alloc' _); (first | exact hcur | exact hcur.drew' | exact hcur.alloc' _ | exact hcur.drew'.alloc' _ | exact (hcur.alloc' _).drew'); rintro e w52 ⟨v52, rfl, hv52, hx⟩; (first | have HB2 := hid (HB2.out.ext hx) | have HB2 := hid ((NB.new hcur.size).ext hx) | have HB2 := hid ((NB.newD hcur.size).ext hx) | skip); have hcur := Ext.step hcur (by first | exact hx | exact Ext.undrew hx | exact Ext.step ((Ext.rfl' _).alloc' _) hx | exact Ext.step ((Ext.rfl' _).drew'.alloc' _) hx); have HV52 := hid hv52; obtain ⟨A52, k52, c52, xs52, b52, rfl, -⟩ := hv52; (first | (have hyy := row_facts HB2.out.2; obtain ⟨y0, y1, y2, y3⟩ := hyy) | skip)))
          all_goals
            go_wp2_with fail
            go_meet
            first
              | exact ⟨_, _, b52, A52, k52, c52, rfl, rfl, (HB2.out.2.set 0 _).set 1 _, HV52.out.box HB2.out.2, (hcur.set' HB2.out.1 _).set' HB2.out.1 _⟩
              | exact ⟨_, _, b52, A52, k52, c52, rfl, rfl, Row.new _ _ [.bool b52, .slice A52 k52 c52], HV52.out.ext ((Ext.rfl' _).alloc' _), hcur.alloc' _⟩
        case rest =>
          obtain ⟨w53, H17, b52, A52, k52, c52, rfl, rfl, hr17, hn17, hx⟩ := hcut
          have B17 := hid hr17
          have V17 := hid hn17
          replace HV := hid (HV.out.ext hx)
          replace HT := hid (HT.out.ext hx)
          replace RM := hid (RM.out.ext hx)
          replace RA := hid (RA.out.ext hx)
          replace RB := hid (RB.out.ext hx)
          replace B10 := hid (B10.out.ext hx)
          replace HV10 := hid (HV10.out.ext hx)
          replace B11 := hid (B11.out.ext hx)
          replace B12 := hid (B12.out.ext hx)
          replace B13 := hid (B13.out.ext hx)
          replace B14 := hid (B14.out.ext hx)
          replace V1 := hid (V1.out.ext hx)
          replace V2 := hid (V2.out.ext hx)
          replace V3 := hid (V3.out.ext hx)
          replace V4 := hid (V4.out.ext hx)
          replace EX := hid (EX.out.step hx)
          replace EF := hid (EF.out.step hx)
          clear hr17 hn17 hx hcur HS
          obtain ⟨dd, hdd⟩ : ∃ dd, sgnI Y1 X = dd := ⟨_, rfl⟩
          have HC1 : Hid (sgnI M1 D1 = 1) := hid HLS.out.1
          have HC2 := hid hdd
          have HC3 : Hid (sgn0 ((M1 - D1) * X + A1) = dd) := hid (by rw [← hdd]; exact HLS.out.2)
          have hcc := sgnI_cases Y1 X
          rw [hdd] at hcc
          clear hdd
          have HS : Hid (∀ W', Ext w53 W' → W'.cell? ⟨HB, 0, none⟩ = some (.bool b32) ∧ W'.cell? ⟨HB, 1, none⟩ = some (.slice A32 k32 c32) ∧ W'.cell? ⟨HB + 1 + 1, 0, none⟩ = some (.bool b39) ∧ W'.cell? ⟨HB + 1 + 1, 1, none⟩ = some (.slice A39 k39 c39) ∧ W'.cell? ⟨H11, 0, none⟩ = some (.bool b41) ∧ W'.cell? ⟨H11, 1, none⟩ = some (.slice A41 k41 c41) ∧ W'.cell? ⟨H10, 0, none⟩ = some (.bool b10) ∧ W'.cell? ⟨H10, 1, none⟩ = some (.slice A10 k10 c10) ∧ W'.cell? ⟨H17, 0, none⟩ = some (.bool b52) ∧ W'.cell? ⟨H17, 1, none⟩ = some (.slice A52 k52 c52)) := hid (by
            intro W' e
            obtain ⟨x0, y0, -, -⟩ := row_facts (B12.out.ext e)
            obtain ⟨x1, y1, -, -⟩ := row_facts (B14.out.ext e)
            obtain ⟨x2, y2, -, -⟩ := row_facts (B11.out.ext e)
            obtain ⟨x3, y3, -, -⟩ := row_facts (B10.out.ext e)
            obtain ⟨x4, y4, -, -⟩ := row_facts (B17.out.ext e)
            exact ⟨x0, y0, x1, y1, x2, y2, x3, y3, x4, y4⟩)
          have hcur : Ext w53 w53 := Ext.rfl' _
          have HFIN : Hid (∀ WF, Ext w53 WF → ∃ (j' : Nat) (x1 : Bool) (P1 : Option Addr) (q1 d1 : Nat) (x2 : Bool) (P2 : Option Addr) (q2 d2' : Nat) (x3 : Bool) (P3 : Option Addr) (q3 d3 : Nat) (x4 : Bool) (P4 : Option Addr) (q4 d4 : Nat), j' ≤ q ∧ Value.int .i64 ((j : Int) + 1) = .int .i64 (j' : Int) ∧ Row WF H11 47 [.bool x1, .slice P1 q1 d1] ∧ Row WF HB 47 [.bool x2, .slice P2 q2 d2'] ∧ Row WF (HB + 1) 47 [.bool x3, .slice P3 q3 d3] ∧ Row WF (HB + 1 + 1) 47 [.bool x4, .slice P4 q4 d4] ∧ RefV WF (.agg #[.bool x1, .slice P1 q1 d1]) (orbN m us ad j' X) ∧ RefV WF (.agg #[.bool x2, .slice P2 q2 d2']) (lnX m us ad X j').1 ∧ RefV WF (.agg #[.bool x3, .slice P3 q3 d3]) (lnX m us ad X j').2.1 ∧ RefV WF (.agg #[.bool x4, .slice P4 q4 d4]) (m ^ j') ∧ Ext w6 WF) := hid (by
            intro WF e
            exact ⟨j + 1, b41, A41, k41, c41, b32, A32, k32, c32, b37, A37, k37, c37, b39, A39, k39, c39, by omega, by simp, B11.out.ext e, B12.out.ext e, B13.out.ext e, B14.out.ext e, by rw [HEQ.out.2.2.2]; exact V1.out.ext e, by rw [HEQ.out.1]; exact V2.out.ext e, by rw [HEQ.out.2.1]; exact V3.out.ext e, by rw [HEQ.out.2.2.1]; exact V4.out.ext e, EF.out.step e⟩)
          clear HT HV RM RA RB EX EF HV6 HT6 RM6 RA6 RB6 B106 HV106 EX6 B11 B12 B13 B14 B10 B17 HL12 HNF HQ HHB HH11 HH8 HH10 HA8 HA10 HYB HSB HRR HST HLS HEQ
          rcases hcc with rfl | rfl | rfl
          all_goals
            go_upto_region 16 with fail
            go_region_held3 (fun W' => W'.cell? ⟨HB, 0, none⟩ = some (.bool b32) ∧ W'.cell? ⟨HB, 1, none⟩ = some (.slice A32 k32 c32) ∧ W'.cell? ⟨HB + 1 + 1, 0, none⟩ = some (.bool b39) ∧ W'.cell? ⟨HB + 1 + 1, 1, none⟩ = some (.slice A39 k39 c39) ∧ W'.cell? ⟨H11, 0, none⟩ = some (.bool b41) ∧ W'.cell? ⟨H11, 1, none⟩ = some (.slice A41 k41 c41) ∧ W'.cell? ⟨H10, 0, none⟩ = some (.bool b10) ∧ W'.cell? ⟨H10, 1, none⟩ = some (.slice A10 k10 c10) ∧ W'.cell? ⟨H17, 0, none⟩ = some (.bool b52) ∧ W'.cell? ⟨H17, 1, none⟩ = some (.slice A52 k52 c52))
              (first | (with_reducible exact HS.out _ hcur) | (with_reducible exact HS.out _ hcur.drew') | (with_reducible exact HS.out _ (hcur.alloc' _)) | go_keep)
              (first
                | (go_at_call_of 34 (Value.agg #[Value.bool b32, Value.slice A32 k32 c32]); refine (rcmp_s _ _ M1 D1 _ (V2.out.ext ?_) (V4.out.ext ?_) HLN.out.2.2.2.1.1 HLN.out.2.2.2.1.2.2.1 HC1).mono ?_; (first | exact hcur | exact hcur.drew' | exact hcur.alloc' _ | exact hcur.drew'.alloc' _ | exact (hcur.alloc' _).drew'); (first | exact hcur | exact hcur.drew' | exact hcur.alloc' _ | exact hcur.drew'.alloc' _ | exact (hcur.alloc' _).drew'); rintro e w60 ⟨rfl, hx⟩; have hcur := Ext.step hcur (by first | exact hx | exact Ext.undrew hx | exact Ext.step ((Ext.rfl' _).alloc' _) hx | exact Ext.step ((Ext.rfl' _).drew'.alloc' _) hx))
                | (go_at_call_of 34 (Value.agg #[Value.bool b41, Value.slice A41 k41 c41]); refine (rcmp_s _ _ Y1 X _ (V1.out.ext ?_) (HV10.out.ext ?_) HLN.out.2.2.2.1.2.2.2.2.2 HLN.out.1.2.2.2.2.2.2 HC2).mono ?_; (first | exact hcur | exact hcur.drew' | exact hcur.alloc' _ | exact hcur.drew'.alloc' _ | exact (hcur.alloc' _).drew'); (first | exact hcur | exact hcur.drew' | exact hcur.alloc' _ | exact hcur.drew'.alloc' _ | exact (hcur.alloc' _).drew'); rintro e w61 ⟨rfl, hx⟩; have hcur := Ext.step hcur (by first | exact hx | exact Ext.undrew hx | exact Ext.step ((Ext.rfl' _).alloc' _) hx | exact Ext.step ((Ext.rfl' _).drew'.alloc' _) hx))
                | (go_at_call 35; refine (rsign_at0 _ (V17.out.ext ?_) HC3).mono ?_; (first | exact hcur | exact hcur.drew' | exact hcur.alloc' _ | exact hcur.drew'.alloc' _ | exact (hcur.alloc' _).drew'); rintro e w62 ⟨rfl, hx⟩; have hcur := Ext.step hcur (by first | exact hx | exact Ext.undrew hx | exact Ext.step ((Ext.rfl' _).alloc' _) hx | exact Ext.step ((Ext.rfl' _).drew'.alloc' _) hx)))
            go_wp2_with fail
            go_roundw
            case rel => exact HFIN.out _ hcur
            case measure => first | (simp [intOf]; done) | (simp [intOf]; omega)
      ·
        obtain rfl : j = q := by omega
        go_wp2_with fail
        refine (awake4_any wr HT.out).mono ?_
        rintro e wL ⟨rfl, hx⟩
        have EL := hid (EX.out.step hx)
        go_wp2
        go_ret
        exact ⟨rfl, EL.out⟩
theorem law_SieveLeft (v : Value) (m : Int) (us ad : List Int) (l : List UInt8) (k : Int) (w : World) (hv : MapV w v m us ad) (hlen : l.length ≤ 140737488351232) (hk : -9223372036854775808 ≤ k) (hk2 : k ≤ 9223372036854775807) (ht : Tab w) : Calls Tryz.prog 6 #[v, .string (Str l), .int .i64 k] w (TruePost w) := by
  by_cases h : (mapP m us ad ∧ SuitP m us k) ∧ K.validL l = true
  · obtain ⟨q, rfl⟩ := Int.eq_ofNat_of_zero_le (show 0 ≤ k by have := h.1.2.2.1; omega)
    exact left_yes v m us ad l q w hv hlen hk2 ht (hid h.1.1) (hid h.1.2) (hid h.2)
  · by_cases h1 : mapP m us ad ∧ SuitP m us k
    · exact left_no v m us ad l k w hv hlen hk hk2 ht true _ (hid ⟨fun _ => h1, fun _ => rfl⟩) (hid rfl) (hid (fun h2 => h ⟨h1, h2.2⟩))
    · exact left_no v m us ad l k w hv hlen hk hk2 ht false _ (hid ⟨fun h2 => Bool.noConfusion h2, fun h2 => absurd h2 h1⟩) (hid rfl) (hid (fun h2 => Bool.noConfusion h2.1))
end Go.Proofs.YtleccblkafcidaaGreatDoor
