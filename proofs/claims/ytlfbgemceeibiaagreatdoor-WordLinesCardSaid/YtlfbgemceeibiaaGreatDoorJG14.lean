/- Joined texts: step.commonDivisor, step.Regular; the reference's Prime, Regular; num.Sub, num.Gcd by contract; the reckoner of package word; words and their linear maps: plain mathematics; word.check; the reference's Valid, of a map; the reference's Is of layer 3. -/
import Derived.Test.YtlfbgemceeibiaaGreatDoorJG13
import Derived.Test.YtlfbgemceeibiaaGreatDoorJG11
import Derived.Deep.LoopGhost
import Derived.IntWalk
import Derived.Test.YtlfbgemceeibiaaGreatDoorJG05
import Derived.Test.YtlfbgemceeibiaaGreatDoorJG04
import Derived.Test.YtlfbgemceeibiaaGreatDoorJG10
set_option linter.unusedSimpArgs false
set_option linter.unusedVariables false
/- step.commonDivisor, step.Regular; the reference's Prime, Regular -/
namespace Go.Proofs.YtlfbgemceeibiaaGreatDoor
open Go.RowKit
/-- a regular map -/
def regB (m : Int) (us : List Int) : Bool := us.all fun u => decide (Nat.gcd u.natAbs m.natAbs ≤ 1)
theorem tmod_nat (x y : Nat) : (x : Int).tmod (y : Int) = ((x % y : Nat) : Int) := by rw [Int.tmod_eq_emod_of_nonneg (by omega)]; rfl
set_option maxRecDepth 100000 in
set_option maxHeartbeats 1600000 in
theorem commonDivisor_any (a b : Nat) (w : World) (ha : a ≤ 1000000) (hb : b ≤ 1000000) :
    Calls Tryz.prog 116 #[.int .i64 (a : Int), .int .i64 (b : Int)] w (fun e w' => e = .returned (.int .i64 ((Nat.gcd a b : Nat) : Int)) ∧ Ext w w') := by
  go_enter Tryz.func116, Tryz.ntmps116
  go_wp2_with fail
  go_loopg [0, 1] b (fun g av bv wr => ∃ x y : Nat, y = g ∧ x ≤ 1000000 ∧ y ≤ 1000000 ∧ av = .int .i64 (x : Int) ∧ bv = .int .i64 (y : Int) ∧ Hid (Nat.gcd x y = Nat.gcd a b) ∧ Ext w wr)
  case atStart => exact ⟨a, b, rfl, ha, hb, rfl, rfl, hid rfl, Ext.rfl' _⟩
  case round =>
    obtain ⟨x, y, rfl, hx, hy, rfl, rfl, HG, hex⟩ := hrel
    have HEX := hid hex
    clear hex
    by_cases hy0 : y = 0
    · subst hy0
      have HGX : Hid (x = Nat.gcd a b) := hid (by rw [← HG.out, Nat.gcd_zero_right])
      go_wp2
      go_ret
      exact ⟨by rw [← HGX.out]; rfl, HEX.out⟩
    · have hyp : (0 : Int) < (y : Int) := by omega
      have hyne : (y : Int) ≠ 0 := by omega
      have hyb : ((y : Int) == 0) = false := by rw [beq_eq_false_iff_ne]; exact hyne
      have HMD := hid (tmod_nat x y)
      have HLT : Hid (x % y < y) := hid (Nat.mod_lt _ (by omega))
      have HNX : Hid (Nat.gcd y (x % y) = Nat.gcd a b) := hid (by rw [← HG.out, Nat.gcd_comm y, Nat.gcd_comm x y]; exact (Nat.gcd_rec y x).symm)
      go_wp2_with fail
      first | (go_quiet (fail)) | (go_region)
      all_goals
        have HE2 := hid (HEX.out.drewN nq)
        go_wp2
        go_roundg (x % y)
        case measure => exact HLT.out
        case rel => exact ⟨y, x % y, rfl, hy, by have := HLT.out; omega, rfl, by rw [Int.natCast_emod], HNX, HE2.out⟩
set_option maxRecDepth 100000 in
set_option maxHeartbeats 1600000 in
theorem prime_any (a b : Nat) (w : World) (ha : a ≤ 1000000) (hb : b ≤ 1000000) (ha0 : 0 < a) (hb0 : 0 < b) :
    Calls Tryz.prog 79 #[.int .i64 (a : Int), .int .i64 (b : Int)] w (fun e w' => e = .returned (.bool (decide (Nat.gcd a b ≤ 1))) ∧ Ext w w') := by
  have hfin : ∀ dd : Nat, 2 ≤ dd → (∀ e, 2 ≤ e → e < dd → ¬ (a % e = 0 ∧ b % e = 0)) → (a < dd ∨ b < dd) → decide (Nat.gcd a b ≤ 1) = true := fun dd h2 hall hend => decide_eq_true (by
    rcases Nat.lt_or_ge 1 (Nat.gcd a b) with h | h
    · exfalso
      have h3 := Nat.gcd_dvd_left a b
      have h4 := Nat.gcd_dvd_right a b
      have h5 := Nat.le_of_dvd ha0 h3
      have h6 := Nat.le_of_dvd hb0 h4
      exact hall _ (by omega) (by omega) ⟨Nat.mod_eq_zero_of_dvd h3, Nat.mod_eq_zero_of_dvd h4⟩
    · exact h)
  have hno : ∀ dd : Nat, 2 ≤ dd → a % dd = 0 → b % dd = 0 → decide (Nat.gcd a b ≤ 1) = false := fun dd h2 h3 h4 => decide_eq_false (by
    have h5 := Nat.dvd_gcd (Nat.dvd_of_mod_eq_zero h3) (Nat.dvd_of_mod_eq_zero h4)
    have h6 := Nat.le_of_dvd (Nat.gcd_pos_of_pos_left b ha0) h5
    omega)
  have HFIN := hid hfin
  have HNO := hid hno
  clear hfin hno
  obtain ⟨r, hr⟩ : ∃ r, decide (Nat.gcd a b ≤ 1) = r := ⟨_, rfl⟩
  rw [hr]
  have HR := hid hr
  clear hr
  go_enter Tryz.func79, Tryz.ntmps79
  go_wp2_with fail
  go_loopg [5] (a + 1 - 2) (fun g dv wr => ∃ dd : Nat, 2 ≤ dd ∧ dd ≤ 1000001 ∧ g = a + 1 - dd ∧ dv = .int .i64 (dd : Int) ∧ Hid (∀ e, 2 ≤ e → e < dd → ¬ (a % e = 0 ∧ b % e = 0)) ∧ Ext w wr)
  case atStart => exact ⟨2, by omega, by omega, by omega, rfl, hid (fun e h1 h2 => by omega), Ext.rfl' _⟩
  case round =>
    obtain ⟨dd, h2, hdb, rfl, rfl, HALL, hex⟩ := hrel
    have HEX := hid hex
    clear hex
    have hd0 : ((dd : Int) == 0) = false := by rw [beq_eq_false_iff_ne]; omega
    have hd1 : (dd : Int) ≠ 0 := by omega
    have m1 := tmod_nat a dd
    have m2 := tmod_nat b dd
    by_cases ha1 : dd ≤ a
    · by_cases hb1 : dd ≤ b
      · have ha2 : (dd : Int) ≤ (a : Int) := by omega
        have hb2 : (dd : Int) ≤ (b : Int) := by omega
        have hw : IntKind.i64.wrap ((dd : Int) + 1) = (dd : Int) + 1 := IntWalk.i64_in _ (by omega)
        by_cases ea : a % dd = 0
        · have ea1 : ((a : Int) % (dd : Int) == 0) = true := by rw [beq_iff_eq, ← Int.natCast_emod, ea]; rfl
          by_cases eb : b % dd = 0
          · have eb1 : ((b : Int) % (dd : Int) == 0) = true := by rw [beq_iff_eq, ← Int.natCast_emod, eb]; rfl
            have HF : Hid (r = false) := hid (by rw [← HR.out]; exact HNO.out dd h2 ea eb)
            clear m1 m2 ea eb
            go_wp2
            go_ret
            exact ⟨by rw [HF.out]; rfl, HEX.out⟩
          · have eb1 : ((b : Int) % (dd : Int) == 0) = false := by rw [beq_eq_false_iff_ne, ← Int.natCast_emod]; omega
            have HNX : Hid (∀ e, 2 ≤ e → e < dd + 1 → ¬ (a % e = 0 ∧ b % e = 0)) := hid (fun e h1 h3 h4 => by
              rcases Nat.lt_or_ge e dd with h | h
              · exact HALL.out e h1 h h4
              · obtain rfl : e = dd := by omega
                exact eb h4.2)
            clear m1 m2 ea eb
            go_wp2
            go_roundg (a + 1 - (dd + 1))
            case measure => omega
            case rel => exact ⟨dd + 1, by omega, by omega, by omega, by simp, HNX, HEX.out⟩
        · have ea1 : ((a : Int) % (dd : Int) == 0) = false := by rw [beq_eq_false_iff_ne, ← Int.natCast_emod]; omega
          have HNX : Hid (∀ e, 2 ≤ e → e < dd + 1 → ¬ (a % e = 0 ∧ b % e = 0)) := hid (fun e h1 h3 h4 => by
            rcases Nat.lt_or_ge e dd with h | h
            · exact HALL.out e h1 h h4
            · obtain rfl : e = dd := by omega
              exact ea h4.1)
          clear m1 m2 ea
          go_wp2
          go_roundg (a + 1 - (dd + 1))
          case measure => omega
          case rel => exact ⟨dd + 1, by omega, by omega, by omega, by simp, HNX, HEX.out⟩
      · have HF : Hid (r = true) := hid (by rw [← HR.out]; exact HFIN.out dd h2 HALL.out (.inr (by omega)))
        have ha2 : (dd : Int) ≤ (a : Int) := by omega
        have hb2 : ¬ (dd : Int) ≤ (b : Int) := by omega
        go_wp2
        go_ret
        exact ⟨by rw [HF.out]; rfl, HEX.out⟩
    · have HF : Hid (r = true) := hid (by rw [← HR.out]; exact HFIN.out dd h2 HALL.out (.inl (by omega)))
      have ha2 : ¬ (dd : Int) ≤ (a : Int) := by omega
      go_wp2
      go_ret
      exact ⟨by rw [HF.out]; rfl, HEX.out⟩
theorem commonDivisor_int (a b : Int) (w : World) (ha : 0 ≤ a) (ha2 : a ≤ 1000000) (hb : 0 ≤ b) (hb2 : b ≤ 1000000) :
    Calls Tryz.prog 116 #[.int .i64 a, .int .i64 b] w (fun e w' => e = .returned (.int .i64 ((Nat.gcd a.natAbs b.natAbs : Nat) : Int)) ∧ Ext w w') := by
  obtain ⟨x, rfl⟩ : ∃ x : Nat, a = (x : Int) := ⟨a.toNat, by omega⟩
  obtain ⟨y, rfl⟩ : ∃ y : Nat, b = (y : Int) := ⟨b.toNat, by omega⟩
  exact commonDivisor_any x y w (by omega) (by omega)
theorem prime_int (a b : Int) (w : World) (ha : 0 < a) (ha2 : a ≤ 1000000) (hb : 0 < b) (hb2 : b ≤ 1000000) :
    Calls Tryz.prog 79 #[.int .i64 a, .int .i64 b] w (fun e w' => e = .returned (.bool (decide (Nat.gcd a.natAbs b.natAbs ≤ 1))) ∧ Ext w w') := by
  obtain ⟨x, rfl⟩ : ∃ x : Nat, a = (x : Int) := ⟨a.toNat, by omega⟩
  obtain ⟨y, rfl⟩ : ∃ y : Nat, b = (y : Int) := ⟨b.toNat, by omega⟩
  exact prime_any x y w (by omega) (by omega) (by omega) (by omega)
theorem regB_no {m : Int} {us : List Int} {j : Nat} (hj : j < us.length) (h : ¬ Nat.gcd (us.getD j 0).natAbs m.natAbs ≤ 1) : regB m us = false := by
  unfold regB
  rw [List.all_eq_false]
  refine ⟨us.getD j 0, ?_, by simpa using h⟩
  rw [List.getD_eq_getElem?_getD, List.getElem?_eq_getElem hj]
  exact List.getElem_mem hj
theorem regB_yes {m : Int} {us : List Int} (h : ∀ j, j < us.length → Nat.gcd (us.getD j 0).natAbs m.natAbs ≤ 1) : regB m us = true := by
  unfold regB
  rw [List.all_eq_true]
  intro u hu
  obtain ⟨j, hj, rfl⟩ := List.getElem_of_mem hu
  have := h j hj
  rw [List.getD_eq_getElem?_getD, List.getElem?_eq_getElem hj] at this
  simpa using this
set_option maxRecDepth 100000 in
set_option maxHeartbeats 3200000 in
theorem regular_ok (v : Value) (m : Int) (us ad : List Int) (w : World) (hv : MapV w v m us ad) (hM : Hid (mapP m us ad)) :
    Calls Tryz.prog 76 #[v] w (fun e w' => e = .returned (.tuple #[.bool (regB m us), .int .i64 0]) ∧ Ext w w') := by
  have HV := hid hv
  obtain ⟨A, n, cc, B, n2, d, rfl, h1, h2, h3, h4, h5, h6, h7, h9⟩ := hv
  obtain ⟨dm, hdm⟩ : ∃ dm : Nat, m = (dm : Int) := ⟨m.toNat, by have := hM.out.1; omega⟩
  have HDM := hid hdm
  have HMB := hid (show 2 ≤ m ∧ m ≤ 12 from ⟨hM.out.1, hM.out.2.1⟩)
  have HNM : Hid ((n : Int) = m) := hid (by have := hM.out.2.2.1; omega)
  obtain ⟨r, hr⟩ : ∃ r, regB m us = r := ⟨_, rfl⟩
  rw [hr]
  have HRB := hid hr
  have hx : Ext w (w.alloc (.cells #[.int .i64 m, .slice A n cc, .slice B n2 d] 24)) := (Ext.rfl' w).alloc' _
  have hrw : Row (w.alloc (.cells #[.int .i64 m, .slice A n cc, .slice B n2 d] 24)) w.heap.size 24 [.int .i64 m, .slice A n cc, .slice B n2 d] := Row.new w _ _
  obtain ⟨W1, hW1⟩ : ∃ W1, (w.alloc (.cells #[.int .i64 m, .slice A n cc, .slice B n2 d] 24)) = W1 := ⟨_, rfl⟩
  rw [hW1] at hx hrw
  have HX := hid hx
  have HR := hid hrw
  have HW1 := hid hW1
  have HA := hid (h5.ext hx)
  have HL := hid h1
  obtain ⟨f0, f1, f2, -, -, -⟩ := row_facts3 hrw
  clear hW1 hx hrw h5 h6 h1 h3 hdm hr
  go_enter Tryz.func76, Tryz.ntmps76
  go_upto_region 1 with fail
  rw [HW1.out]
  go_wp2_with fail
  refine (stepvalid_any _ m us ad W1 (HV.out.ext HX.out) (hid ((mapB_iff m us ad).2 hM.out))).mono ?_
  rintro e w2 ⟨rfl, hx2⟩
  have HX2 := hid hx2
  clear f0 f1 f2 hx2
  obtain ⟨f0, f1, f2, -, -, -⟩ := row_facts3 (HR.out.ext HX2.out)
  go_wp2_with fail
  go_loopw [12] (fun iz wr => ∃ j : Nat, j ≤ n ∧ iz = .int .i64 (j : Int) ∧ Hid (∀ i, i < j → Nat.gcd (us.getD i 0).natAbs m.natAbs ≤ 1) ∧ Ext w2 wr) (fun iz _ => n - (intOf iz).toNat)
  case atStart => exact ⟨0, by omega, rfl, hid (fun i hi => by omega), Ext.rfl' _⟩
  case round =>
    obtain ⟨j, hj, rfl, HALL, hex⟩ := hrel
    have HEX := hid hex
    have HEW := hid (HX.out.step (HX2.out.step hex))
    clear f0 f1 f2
    obtain ⟨f0, f1, f2, -, -, -⟩ := row_facts3 (HR.out.ext (HX2.out.step HEX.out))
    clear hex
    by_cases hlt : j < n
    · obtain ⟨b1, o1, e1, -, hc1⟩ := (HA.out.ext (HX2.out.step HEX.out)).atI (k := j) (by rw [HL.out]; exact hlt)
      subst e1
      have hrule := hM.out.2.2.2.2 j (by rw [HL.out]; exact hlt)
      obtain ⟨u, hu⟩ : ∃ u, us.getD j 0 = u := ⟨_, rfl⟩
      rw [hu] at hc1 hrule
      have HU := hid hu
      have HRU := hid (show 1 ≤ u ∧ u ≤ 999 from ⟨hrule.1, hrule.2.1⟩)
      obtain ⟨gg, hgg⟩ : ∃ gg : Nat, Nat.gcd u.natAbs m.natAbs = gg := ⟨_, rfl⟩
      have HGG := hid hgg
      clear hu hrule hgg
      have hjn : (j : Int) < (n : Int) := by omega
      go_wp2_with fail
      refine (commonDivisor_int u m wr (by have := HRU.out; omega) (by have := HRU.out; omega) (by have := HMB.out; omega) (by have := HMB.out; omega)).mono ?_
      rintro e w5 ⟨rfl, hx5⟩
      rw [HGG.out]
      have HX5 := hid (HEX.out.step hx5)
      have HW5 := hid (HEW.out.step hx5)
      clear f0 f1 f2 hc1 hx5
      by_cases hg : gg ≤ 1
      · have hgi : ¬ (1 : Int) < (gg : Int) := by omega
        have HNX : Hid (∀ i, i < j + 1 → Nat.gcd (us.getD i 0).natAbs m.natAbs ≤ 1) := hid (fun i hi => by
          rcases Nat.lt_or_ge i j with h | h
          · exact HALL.out i h
          · obtain rfl : i = j := by omega
            rw [HU.out, HGG.out]; exact hg)
        go_wp2
        go_roundw
        case rel => exact ⟨j + 1, by omega, by simp, HNX, HX5.out⟩
        case measure => first | (simp [intOf]; done) | (simp [intOf]; omega)
      · have hgi : (1 : Int) < (gg : Int) := by omega
        have HF : Hid (r = false) := hid (by rw [← HRB.out]; exact regB_no (j := j) (by rw [HL.out]; exact hlt) (by rw [HU.out, HGG.out]; exact hg))
        go_wp2
        go_ret2
        exact ⟨by rw [HF.out]; rfl, HW5.out⟩
    · obtain rfl : j = n := by omega
      have HF : Hid (r = true) := hid (by rw [← HRB.out]; exact regB_yes (fun i hi => HALL.out i (by rw [HL.out] at hi; exact hi)))
      go_wp2
      go_ret2
      exact ⟨by rw [HF.out]; rfl, HEW.out⟩
set_option maxRecDepth 100000 in
set_option maxHeartbeats 1600000 in
theorem regular_bad (v : Value) (m : Int) (us ad : List Int) (w : World) (hv : MapV w v m us ad) (hM : Hid (mapB m us ad = false)) :
    Calls Tryz.prog 76 #[v] w (fun e w' => e = .returned (.tuple #[.bool false, .int .i64 1]) ∧ Ext w w') := by
  have HV := hid hv
  obtain ⟨A, n, cc, B, n2, d, rfl, -⟩ := hv
  have hx : Ext w (w.alloc (.cells #[.int .i64 m, .slice A n cc, .slice B n2 d] 24)) := (Ext.rfl' w).alloc' _
  obtain ⟨f0, f1, f2, -⟩ := three_facts (Ext.rfl' (w.alloc (.cells #[.int .i64 m, .slice A n cc, .slice B n2 d] 24))) rfl
  obtain ⟨W1, hW1⟩ : ∃ W1, (w.alloc (.cells #[.int .i64 m, .slice A n cc, .slice B n2 d] 24)) = W1 := ⟨_, rfl⟩
  rw [hW1] at hx f0 f1 f2
  have HX := hid hx
  have HW1 := hid hW1
  clear hW1 hx
  go_enter Tryz.func76, Tryz.ntmps76
  go_upto_region 1 with fail
  rw [HW1.out]
  go_wp2_with fail
  refine (stepvalid_any _ m us ad W1 (HV.out.ext HX.out) hM).mono ?_
  rintro e w2 ⟨rfl, hx2⟩
  have HY := hid (HX.out.step hx2)
  clear f0 f1 f2 hx2
  go_wp2
  go_ret2
  exact ⟨rfl, HY.out⟩
set_option maxRecDepth 100000 in
set_option maxHeartbeats 3200000 in
theorem rregular_any (v : Value) (m : Int) (us ad : List Int) (w : World) (hv : MapV w v m us ad) (hM : Hid (mapP m us ad)) :
    Calls Tryz.prog 28 #[v] w (fun e w' => e = .returned (.bool (regB m us)) ∧ Ext w w') := by
  obtain ⟨A, n, cc, B, n2, d, rfl, h1, h2, h3, h4, h5, h6, h7, h9⟩ := hv
  have HMB := hid (show 2 ≤ m ∧ m ≤ 12 from ⟨hM.out.1, hM.out.2.1⟩)
  have HNM : Hid ((n : Int) = m) := hid (by have := hM.out.2.2.1; omega)
  obtain ⟨r, hr⟩ : ∃ r, regB m us = r := ⟨_, rfl⟩
  rw [hr]
  have HRB := hid hr
  have hx : Ext w (w.alloc (.cells #[.int .i64 m, .slice A n cc, .slice B n2 d] 24)) := (Ext.rfl' w).alloc' _
  have hrw : Row (w.alloc (.cells #[.int .i64 m, .slice A n cc, .slice B n2 d] 24)) w.heap.size 24 [.int .i64 m, .slice A n cc, .slice B n2 d] := Row.new w _ _
  obtain ⟨W1, hW1⟩ : ∃ W1, (w.alloc (.cells #[.int .i64 m, .slice A n cc, .slice B n2 d] 24)) = W1 := ⟨_, rfl⟩
  rw [hW1] at hx hrw
  have HX := hid hx
  have HR := hid hrw
  have HW1 := hid hW1
  have HA := hid (h5.ext hx)
  have HL := hid h1
  clear hW1 hx hrw h5 h6 h1 h3 hr
  go_enter Tryz.func28, Tryz.ntmps28
  go_upto_region 1 with fail
  rw [HW1.out]
  go_wp2_with fail
  go_loopw [3] (fun iz wr => ∃ j : Nat, j ≤ n ∧ iz = .int .i64 (j : Int) ∧ Hid (∀ i, i < j → Nat.gcd (us.getD i 0).natAbs m.natAbs ≤ 1) ∧ Ext W1 wr) (fun iz _ => n - (intOf iz).toNat)
  case atStart => exact ⟨0, by omega, rfl, hid (fun i hi => by omega), Ext.rfl' _⟩
  case round =>
    obtain ⟨j, hj, rfl, HALL, hex⟩ := hrel
    have HEX := hid hex
    have HEW := hid (HX.out.step hex)
    obtain ⟨f0, f1, f2, -, -, -⟩ := row_facts3 (HR.out.ext HEX.out)
    clear hex
    by_cases hlt : j < n
    · obtain ⟨b1, o1, e1, -, hc1⟩ := (HA.out.ext HEX.out).atI (k := j) (by rw [HL.out]; exact hlt)
      subst e1
      have hrule := hM.out.2.2.2.2 j (by rw [HL.out]; exact hlt)
      obtain ⟨u, hu⟩ : ∃ u, us.getD j 0 = u := ⟨_, rfl⟩
      rw [hu] at hc1 hrule
      have HU := hid hu
      have HRU := hid (show 1 ≤ u ∧ u ≤ 999 from ⟨hrule.1, hrule.2.1⟩)
      have HCELL : Hid (∀ W', Ext wr W' → W'.cell? ⟨w.heap.size, 0, none⟩ = some (.int .i64 m) ∧ W'.cell? ⟨w.heap.size, 1, none⟩ = some (.slice (some ⟨b1, o1, none⟩) n cc) ∧ W'.cell? ⟨b1, o1 + j, none⟩ = some (.int .i64 u)) := hid (fun W' e => by
        obtain ⟨p0, p1, -, -, -, -⟩ := row_facts3 (HR.out.ext (HEX.out.step e))
        obtain ⟨b2, o2, e2, -, hc2⟩ := (HA.out.ext (HEX.out.step e)).atI (k := j) (by rw [HL.out]; exact hlt)
        cases e2
        rw [HU.out] at hc2
        exact ⟨p0, p1, hc2⟩)
      have hcur : Ext wr wr := Ext.rfl' _
      clear hu hrule hc1
      have hjn : (j : Int) < (n : Int) := by omega
      have hjm : (j : Int) < m := by have := HNM.out; omega
      have hj0 : (0 : Int) ≤ (j : Int) := by omega
      obtain ⟨gb, hgb⟩ : ∃ gb, decide (Nat.gcd u.natAbs m.natAbs ≤ 1) = gb := ⟨_, rfl⟩
      have HGB := hid hgb
      clear hgb
      go_wp2_with fail
      go_region_held3 (fun W' => W'.cell? ⟨w.heap.size, 0, none⟩ = some (.int .i64 m) ∧ W'.cell? ⟨w.heap.size, 1, none⟩ = some (.slice (some ⟨b1, o1, none⟩) n cc) ∧ W'.cell? ⟨b1, o1 + j, none⟩ = some (.int .i64 u))
        (first | exact HCELL.out _ hcur | exact HCELL.out _ hcur.drew' | exact HCELL.out _ (hcur.alloc' _) | exact HCELL.out _ (hcur.drew'.alloc' _) | exact HCELL.out _ ((hcur.set' HB2.out.1 _).set' HB2.out.1 _) | go_keep)
        (first
          | (go_at_call 79; refine (prime_int u m _ (by have := HRU.out; omega) (by have := HRU.out; omega) (by have := HMB.out; omega) (by have := HMB.out; omega)).mono ?_; rintro e w5 ⟨rfl, hx⟩; rw [HGB.out]; have hcur := Ext.step hcur (by first | exact hx | exact Ext.undrew hx | exact Ext.step ((Ext.rfl' _).alloc' _) hx | exact Ext.step ((Ext.rfl' _).drew'.alloc' _) hx)))
      all_goals
        have HX5 := hid (HEX.out.step hcur)
        have HW5 := hid (HEW.out.step hcur)
        clear f0 f1 f2 hcur
        cases gb with
        | true =>
          have HNX : Hid (∀ i, i < j + 1 → Nat.gcd (us.getD i 0).natAbs m.natAbs ≤ 1) := hid (fun i hi => by
            rcases Nat.lt_or_ge i j with h | h
            · exact HALL.out i h
            · obtain rfl : i = j := by omega
              rw [HU.out]; exact of_decide_eq_true HGB.out)
          go_wp2
          go_roundw
          case rel => exact ⟨j + 1, by omega, by simp, HNX, HX5.out⟩
          case measure => first | (simp [intOf]; done) | (simp [intOf]; omega)
        | false =>
          have HF : Hid (r = false) := hid (by rw [← HRB.out]; exact regB_no (j := j) (by rw [HL.out]; exact hlt) (by rw [HU.out]; exact of_decide_eq_false HGB.out))
          go_wp2
          go_ret
          exact ⟨by rw [HF.out]; rfl, HW5.out⟩
    · obtain rfl : j = n := by omega
      have hjm : ¬ (j : Int) < m := by have := HNM.out; omega
      have HF : Hid (r = true) := hid (by rw [← HRB.out]; exact regB_yes (fun i hi => HALL.out i (by rw [HL.out] at hi; exact hi)))
      go_wp2
      go_ret
      exact ⟨by rw [HF.out]; rfl, HEW.out⟩
end Go.Proofs.YtlfbgemceeibiaaGreatDoor
/- num.Sub, num.Gcd by contract -/
namespace Go.Proofs.YtlfbgemceeibiaaGreatDoor
open Go.RowKit
theorem gcd_le {a b c : Nat} (ha : a ≤ c) (hb : b ≤ c) : Nat.gcd a b ≤ c := by
  rcases Nat.eq_zero_or_pos a with h | h
  · subst h; rw [Nat.gcd_zero_left]; exact hb
  · exact Nat.le_trans (Nat.gcd_le_left b h) ha
set_option maxRecDepth 100000 in
theorem sub_ok (l1 l2 : List UInt8) (w : World) (h1 : l1.length ≤ 140737488351232) (h2 : l2.length ≤ 140737488351232) (v1 : K.validL l1 = true) (v2 : K.validL l2 = true) (ht : Tab w) :
    Calls Tryz.prog 154 #[.string (Str l1), .string (Str l2)] w (ToldPost (K.numL l1 - K.numL l2) w) := by
  have f1 := fits_top (K.txt_numL l1 v1).2
  have f2 := fits_top (K.txt_numL l2 v2).2
  have g1 := fits_big (K.txt_numL l1 v1).2
  have g2 := fits_big (K.txt_numL l2 v2).2
  have hc := combine_ok 186 (enter_of Tryz.func186 (by kernel_rfl) (by kernel_rfl)) (K.numL l1 - K.numL l2) l1 l2 w h1 h2 v1 v2 ht (hid fun W va vb ha hb => nminus_any va vb _ _ W ha hb g1 g2) (by refine le_big (a := 224) ?_ (by omega); rw [show (224 : Nat) = 223 + 1 from rfl, TOP_add]; have := TOP_pos 223; have : TOP 1 = 1000000000 := rfl; rw [this]; omega)
  have HC := hid hc
  clear hc f1 f2 g1 g2
  go_enter Tryz.func154, Tryz.ntmps154
  go_wp2_with fail
  refine HC.out.mono ?_
  intro e w1 hq
  by_cases hf : K.fits (K.numL l1 - K.numL l2)
  · have he := hq.1 hf
    subst he
    go_wp2
    go_ret2
    exact hq
  · have he := hq.2.1 hf
    subst he
    go_wp2
    go_ret2
    exact hq
set_option maxRecDepth 100000 in
theorem sub_bad (l1 l2 : List UInt8) (w : World) (h1 : l1.length ≤ 140737488351232) (h2 : l2.length ≤ 140737488351232) (v : K.validL l1 = false ∨ K.validL l2 = false) :
    Calls Tryz.prog 154 #[.string (Str l1), .string (Str l2)] w (BadStr w) := by
  go_enter Tryz.func154, Tryz.ntmps154
  go_wp2_with fail
  refine (combine_bad _ l1 l2 w h1 h2 v).mono ?_
  rintro e w1 ⟨rfl, hx⟩
  go_wp2
  go_ret2
  exact ⟨rfl, hx⟩
end Go.Proofs.YtlfbgemceeibiaaGreatDoor
/- the reckoner of package word -/
namespace Go.Proofs.YtlfbgemceeibiaaGreatDoor
open Go.RowKit
theorem Row.same {w : World} {g : Nat} {t : TypeId} {v : Value} (h : Row w g t [v]) : Ext w (w.setCell ⟨g, 0, none⟩ v) := by
  refine ⟨rfl, rfl, rfl, by rw [World.size_setCell]; exact Nat.le_refl _, fun j hj => ?_⟩
  by_cases e : j = g
  · subst e
    exact (h.set 0 v : Row _ _ _ [v]).trans h.symm
  · exact Below.heap_setCell w ⟨g, 0, none⟩ v j (by show j ≠ g; exact e)
def NoteW (g : Nat) (f c : Int) (w : World) : World := if f = 0 then w.setCell ⟨g, 0, none⟩ (.int .i64 c) else w
set_option maxRecDepth 100000 in
set_option maxHeartbeats 800000 in
theorem note_any (g : Nat) (s : ByteArray) (c f : Int) (w : World) (hr : Row w g 103 [.int .i64 f]) :
    Calls Tryz.prog 112 #[.pointer (some ⟨g, 0, none⟩), .string s, .int .i64 c] w (fun e w' => e = .returned (.string s) ∧ w' = NoteW g f c w) := by
  have c0 : w.cell? ⟨g, 0, none⟩ = some (.int .i64 f) := hr.cell 0
  have f0 := hr.free 0
  by_cases h : f = 0
  · subst h
    go_enter Tryz.func112, Tryz.ntmps112
    go_wp2
    go_ret
    exact ⟨rfl, rfl⟩
  · have hf : (f == 0) = false := by rw [beq_eq_false_iff_ne]; exact h
    have HN : Hid (NoteW g f c w = w) := hid (if_neg h)
    go_enter Tryz.func112, Tryz.ntmps112
    go_wp2
    go_ret
    exact ⟨rfl, HN.out.symm⟩
/-- what an operation of the reckoner leaves -/
def RecGen (r : Int) (f : Int) (g : Nat) (w0 : World) (e : Ending) (w' : World) : Prop :=
  ∃ (l : List UInt8) (f' : Int), e = .returned (.string (Str l)) ∧ Row w' g 103 [.int .i64 f'] ∧ (f' = 0 ∨ f' = 3) ∧ Hid (l.length ≤ 2001 ∧ (f = 0 → (K.fits r → f' = 0 ∧ l = K.txt r) ∧ (¬ K.fits r → f' = 3)) ∧ (f = 3 → f' = 3)) ∧ Ext w0 w'
def RecOk (r : Int) (w : World) (e : Ending) (w' : World) : Prop := e = .returned (.string (Str (K.txt r))) ∧ Ext w w'
theorem NoteW.row {g : Nat} {f c : Int} {w : World} (hr : Row w g 103 [.int .i64 f]) : Row (NoteW g f c w) g 103 [.int .i64 (if f = 0 then c else f)] := by
  unfold NoteW
  by_cases h : f = 0
  · rw [if_pos h, if_pos h]; exact hr.set 0 _
  · rw [if_neg h, if_neg h]; exact hr
theorem NoteW.ext {g : Nat} {f c : Int} {w w0 : World} (e : Ext w0 w) (hg : w0.heap.size ≤ g) : Ext w0 (NoteW g f c w) := by
  unfold NoteW
  by_cases h : f = 0
  · rw [if_pos h]; exact e.set' (by show _ ≤ g; exact hg) _
  · rw [if_neg h]; exact e
set_option maxRecDepth 100000 in
set_option maxHeartbeats 800000 in
theorem times_call (g : Nat) (a b : List UInt8) (f : Int) (w : World) (hr : Row w g 103 [.int .i64 f]) (s : ByteArray) (c : Int) {Q : World → Prop} (hc : Hid (Calls Tryz.prog 113 #[.string (Str a), .string (Str b)] w (fun e w' => e = .returned (.tuple #[.string s, .int .i64 c]) ∧ Ext w w'))) :
    Calls Tryz.prog 73 #[.pointer (some ⟨g, 0, none⟩), .string (Str a), .string (Str b)] w (fun e w' => e = .returned (.string s) ∧ ∃ w1, Ext w w1 ∧ w' = NoteW g f c w1) := by
  have HR := hid hr
  clear hr
  go_enter Tryz.func73, Tryz.ntmps73
  go_wp2_with fail
  refine hc.out.mono ?_
  rintro e w1 ⟨rfl, hx1⟩
  have HX := hid hx1
  clear hx1
  go_wp2_with fail
  refine (note_any g s c f w1 (HR.out.ext HX.out)).mono ?_
  rintro e w2 ⟨rfl, rfl⟩
  go_wp2
  go_ret
  exact ⟨rfl, w1, HX.out, rfl⟩
theorem times_ok (g : Nat) (a b : List UInt8) (w : World) (hr : Row w g 103 [.int .i64 0]) (va : K.validL a = true) (vb : K.validL b = true) (hf : K.fits (K.numL a * K.numL b)) (ht : Tab w) :
    Calls Tryz.prog 73 #[.pointer (some ⟨g, 0, none⟩), .string (Str a), .string (Str b)] w (RecOk (K.numL a * K.numL b) w) := by
  refine (times_call (Q := fun _ => True) g a b 0 w hr (Str (K.txt (K.numL a * K.numL b))) 0 (hid ((mul_ok a b w (len_of (valid_len va)) (len_of (valid_len vb)) va vb ht).mono fun e w' h => ⟨h.1 hf, h.2.2⟩))).mono ?_
  rintro e w' ⟨rfl, w1, hx, rfl⟩
  exact ⟨rfl, hx.step (by unfold NoteW; rw [if_pos rfl]; exact (hr.ext hx).same)⟩
theorem times_gen (g : Nat) (a b : List UInt8) (f : Int) (w0 w : World) (he : Ext w0 w) (hg : w0.heap.size ≤ g) (hr : Row w g 103 [.int .i64 f]) (hf : f = 0 ∨ f = 3) (la : a.length ≤ 2001) (lb : b.length ≤ 2001) (hv : Hid (f = 0 → K.validL a = true ∧ K.validL b = true)) (ht : Tab w) :
    Calls Tryz.prog 73 #[.pointer (some ⟨g, 0, none⟩), .string (Str a), .string (Str b)] w (RecGen (K.numL a * K.numL b) f g w0) := by
  have main : ∀ (l : List UInt8) (c : Int), Calls Tryz.prog 113 #[.string (Str a), .string (Str b)] w (fun e w' => e = .returned (.tuple #[.string (Str l), .int .i64 c]) ∧ Ext w w') →
      l.length ≤ 2001 → ((if f = 0 then c else f) = 0 ∨ (if f = 0 then c else f) = 3) → (f = 0 → (K.fits (K.numL a * K.numL b) → c = 0 ∧ l = K.txt (K.numL a * K.numL b)) ∧ (¬ K.fits (K.numL a * K.numL b) → c = 3)) →
      Calls Tryz.prog 73 #[.pointer (some ⟨g, 0, none⟩), .string (Str a), .string (Str b)] w (RecGen (K.numL a * K.numL b) f g w0) := by
    intro l c hc hl h3 h0
    refine (times_call (Q := fun _ => True) g a b f w hr (Str l) c (hid hc)).mono ?_
    rintro e w' ⟨rfl, w1, hx, rfl⟩
    refine ⟨l, _, rfl, NoteW.row (hr.ext hx), h3, hid ⟨hl, fun hz => ?_, fun hz => ?_⟩, NoteW.ext (he.step hx) hg⟩
    · rw [if_pos hz]; exact h0 hz
    · rw [if_neg (by omega)]; exact hz
  by_cases hval : K.validL a = true ∧ K.validL b = true
  · by_cases hfit : K.fits (K.numL a * K.numL b)
    · refine main (K.txt (K.numL a * K.numL b)) 0 ((mul_ok a b w (len_of la) (len_of lb) hval.1 hval.2 ht).mono fun e w' h => ⟨h.1 hfit, h.2.2⟩) (K.txt_len _ hfit) ?_ (fun _ => ⟨fun _ => ⟨rfl, rfl⟩, fun h => absurd hfit h⟩)
      split
      · exact .inl rfl
      · exact hf
    · refine main [] 3 ((mul_ok a b w (len_of la) (len_of lb) hval.1 hval.2 ht).mono fun e w' h => ⟨h.2.1 hfit, h.2.2⟩) (by simp) ?_ (fun _ => ⟨fun h => absurd h hfit, fun _ => rfl⟩)
      split
      · exact .inr rfl
      · exact hf
  · have hf0 : f ≠ 0 := fun e => hval (hv.out e)
    have hbad : K.validL a = false ∨ K.validL b = false := by
      cases h1 : K.validL a
      · exact .inl rfl
      · cases h2 : K.validL b
        · exact .inr rfl
        · exact absurd ⟨h1, h2⟩ hval
    refine main [] 1 ((mul_bad a b w (len_of la) (len_of lb) hbad).mono fun e w' h => h) (by simp) ?_ (fun e => absurd e hf0)
    rw [if_neg hf0]; exact hf
set_option maxRecDepth 100000 in
set_option maxHeartbeats 800000 in
theorem plus_call (g : Nat) (a b : List UInt8) (f : Int) (w : World) (hr : Row w g 103 [.int .i64 f]) (s : ByteArray) (c : Int) {Q : World → Prop} (hc : Hid (Calls Tryz.prog 114 #[.string (Str a), .string (Str b)] w (fun e w' => e = .returned (.tuple #[.string s, .int .i64 c]) ∧ Ext w w'))) :
    Calls Tryz.prog 74 #[.pointer (some ⟨g, 0, none⟩), .string (Str a), .string (Str b)] w (fun e w' => e = .returned (.string s) ∧ ∃ w1, Ext w w1 ∧ w' = NoteW g f c w1) := by
  have HR := hid hr
  clear hr
  go_enter Tryz.func74, Tryz.ntmps74
  go_wp2_with fail
  refine hc.out.mono ?_
  rintro e w1 ⟨rfl, hx1⟩
  have HX := hid hx1
  clear hx1
  go_wp2_with fail
  refine (note_any g s c f w1 (HR.out.ext HX.out)).mono ?_
  rintro e w2 ⟨rfl, rfl⟩
  go_wp2
  go_ret
  exact ⟨rfl, w1, HX.out, rfl⟩
theorem plus_ok (g : Nat) (a b : List UInt8) (w : World) (hr : Row w g 103 [.int .i64 0]) (va : K.validL a = true) (vb : K.validL b = true) (hf : K.fits (K.numL a + K.numL b)) (ht : Tab w) :
    Calls Tryz.prog 74 #[.pointer (some ⟨g, 0, none⟩), .string (Str a), .string (Str b)] w (RecOk (K.numL a + K.numL b) w) := by
  refine (plus_call (Q := fun _ => True) g a b 0 w hr (Str (K.txt (K.numL a + K.numL b))) 0 (hid ((add_ok a b w (len_of (valid_len va)) (len_of (valid_len vb)) va vb ht).mono fun e w' h => ⟨h.1 hf, h.2.2⟩))).mono ?_
  rintro e w' ⟨rfl, w1, hx, rfl⟩
  exact ⟨rfl, hx.step (by unfold NoteW; rw [if_pos rfl]; exact (hr.ext hx).same)⟩
theorem plus_gen (g : Nat) (a b : List UInt8) (f : Int) (w0 w : World) (he : Ext w0 w) (hg : w0.heap.size ≤ g) (hr : Row w g 103 [.int .i64 f]) (hf : f = 0 ∨ f = 3) (la : a.length ≤ 2001) (lb : b.length ≤ 2001) (hv : Hid (f = 0 → K.validL a = true ∧ K.validL b = true)) (ht : Tab w) :
    Calls Tryz.prog 74 #[.pointer (some ⟨g, 0, none⟩), .string (Str a), .string (Str b)] w (RecGen (K.numL a + K.numL b) f g w0) := by
  have main : ∀ (l : List UInt8) (c : Int), Calls Tryz.prog 114 #[.string (Str a), .string (Str b)] w (fun e w' => e = .returned (.tuple #[.string (Str l), .int .i64 c]) ∧ Ext w w') →
      l.length ≤ 2001 → ((if f = 0 then c else f) = 0 ∨ (if f = 0 then c else f) = 3) → (f = 0 → (K.fits (K.numL a + K.numL b) → c = 0 ∧ l = K.txt (K.numL a + K.numL b)) ∧ (¬ K.fits (K.numL a + K.numL b) → c = 3)) →
      Calls Tryz.prog 74 #[.pointer (some ⟨g, 0, none⟩), .string (Str a), .string (Str b)] w (RecGen (K.numL a + K.numL b) f g w0) := by
    intro l c hc hl h3 h0
    refine (plus_call (Q := fun _ => True) g a b f w hr (Str l) c (hid hc)).mono ?_
    rintro e w' ⟨rfl, w1, hx, rfl⟩
    refine ⟨l, _, rfl, NoteW.row (hr.ext hx), h3, hid ⟨hl, fun hz => ?_, fun hz => ?_⟩, NoteW.ext (he.step hx) hg⟩
    · rw [if_pos hz]; exact h0 hz
    · rw [if_neg (by omega)]; exact hz
  by_cases hval : K.validL a = true ∧ K.validL b = true
  · by_cases hfit : K.fits (K.numL a + K.numL b)
    · refine main (K.txt (K.numL a + K.numL b)) 0 ((add_ok a b w (len_of la) (len_of lb) hval.1 hval.2 ht).mono fun e w' h => ⟨h.1 hfit, h.2.2⟩) (K.txt_len _ hfit) ?_ (fun _ => ⟨fun _ => ⟨rfl, rfl⟩, fun h => absurd hfit h⟩)
      split
      · exact .inl rfl
      · exact hf
    · refine main [] 3 ((add_ok a b w (len_of la) (len_of lb) hval.1 hval.2 ht).mono fun e w' h => ⟨h.2.1 hfit, h.2.2⟩) (by simp) ?_ (fun _ => ⟨fun h => absurd h hfit, fun _ => rfl⟩)
      split
      · exact .inr rfl
      · exact hf
  · have hf0 : f ≠ 0 := fun e => hval (hv.out e)
    have hbad : K.validL a = false ∨ K.validL b = false := by
      cases h1 : K.validL a
      · exact .inl rfl
      · cases h2 : K.validL b
        · exact .inr rfl
        · exact absurd ⟨h1, h2⟩ hval
    refine main [] 1 ((add_bad a b w (len_of la) (len_of lb) hbad).mono fun e w' h => h) (by simp) ?_ (fun e => absurd e hf0)
    rw [if_neg hf0]; exact hf
set_option maxRecDepth 100000 in
set_option maxHeartbeats 800000 in
theorem minus_call (g : Nat) (a b : List UInt8) (f : Int) (w : World) (hr : Row w g 103 [.int .i64 f]) (s : ByteArray) (c : Int) {Q : World → Prop} (hc : Hid (Calls Tryz.prog 154 #[.string (Str a), .string (Str b)] w (fun e w' => e = .returned (.tuple #[.string s, .int .i64 c]) ∧ Ext w w'))) :
    Calls Tryz.prog 133 #[.pointer (some ⟨g, 0, none⟩), .string (Str a), .string (Str b)] w (fun e w' => e = .returned (.string s) ∧ ∃ w1, Ext w w1 ∧ w' = NoteW g f c w1) := by
  have HR := hid hr
  clear hr
  go_enter Tryz.func133, Tryz.ntmps133
  go_wp2_with fail
  refine hc.out.mono ?_
  rintro e w1 ⟨rfl, hx1⟩
  have HX := hid hx1
  clear hx1
  go_wp2_with fail
  refine (note_any g s c f w1 (HR.out.ext HX.out)).mono ?_
  rintro e w2 ⟨rfl, rfl⟩
  go_wp2
  go_ret
  exact ⟨rfl, w1, HX.out, rfl⟩
theorem minus_ok (g : Nat) (a b : List UInt8) (w : World) (hr : Row w g 103 [.int .i64 0]) (va : K.validL a = true) (vb : K.validL b = true) (hf : K.fits (K.numL a - K.numL b)) (ht : Tab w) :
    Calls Tryz.prog 133 #[.pointer (some ⟨g, 0, none⟩), .string (Str a), .string (Str b)] w (RecOk (K.numL a - K.numL b) w) := by
  refine (minus_call (Q := fun _ => True) g a b 0 w hr (Str (K.txt (K.numL a - K.numL b))) 0 (hid ((sub_ok a b w (len_of (valid_len va)) (len_of (valid_len vb)) va vb ht).mono fun e w' h => ⟨h.1 hf, h.2.2⟩))).mono ?_
  rintro e w' ⟨rfl, w1, hx, rfl⟩
  exact ⟨rfl, hx.step (by unfold NoteW; rw [if_pos rfl]; exact (hr.ext hx).same)⟩
theorem minus_gen (g : Nat) (a b : List UInt8) (f : Int) (w0 w : World) (he : Ext w0 w) (hg : w0.heap.size ≤ g) (hr : Row w g 103 [.int .i64 f]) (hf : f = 0 ∨ f = 3) (la : a.length ≤ 2001) (lb : b.length ≤ 2001) (hv : Hid (f = 0 → K.validL a = true ∧ K.validL b = true)) (ht : Tab w) :
    Calls Tryz.prog 133 #[.pointer (some ⟨g, 0, none⟩), .string (Str a), .string (Str b)] w (RecGen (K.numL a - K.numL b) f g w0) := by
  have main : ∀ (l : List UInt8) (c : Int), Calls Tryz.prog 154 #[.string (Str a), .string (Str b)] w (fun e w' => e = .returned (.tuple #[.string (Str l), .int .i64 c]) ∧ Ext w w') →
      l.length ≤ 2001 → ((if f = 0 then c else f) = 0 ∨ (if f = 0 then c else f) = 3) → (f = 0 → (K.fits (K.numL a - K.numL b) → c = 0 ∧ l = K.txt (K.numL a - K.numL b)) ∧ (¬ K.fits (K.numL a - K.numL b) → c = 3)) →
      Calls Tryz.prog 133 #[.pointer (some ⟨g, 0, none⟩), .string (Str a), .string (Str b)] w (RecGen (K.numL a - K.numL b) f g w0) := by
    intro l c hc hl h3 h0
    refine (minus_call (Q := fun _ => True) g a b f w hr (Str l) c (hid hc)).mono ?_
    rintro e w' ⟨rfl, w1, hx, rfl⟩
    refine ⟨l, _, rfl, NoteW.row (hr.ext hx), h3, hid ⟨hl, fun hz => ?_, fun hz => ?_⟩, NoteW.ext (he.step hx) hg⟩
    · rw [if_pos hz]; exact h0 hz
    · rw [if_neg (by omega)]; exact hz
  by_cases hval : K.validL a = true ∧ K.validL b = true
  · by_cases hfit : K.fits (K.numL a - K.numL b)
    · refine main (K.txt (K.numL a - K.numL b)) 0 ((sub_ok a b w (len_of la) (len_of lb) hval.1 hval.2 ht).mono fun e w' h => ⟨h.1 hfit, h.2.2⟩) (K.txt_len _ hfit) ?_ (fun _ => ⟨fun _ => ⟨rfl, rfl⟩, fun h => absurd hfit h⟩)
      split
      · exact .inl rfl
      · exact hf
    · refine main [] 3 ((sub_ok a b w (len_of la) (len_of lb) hval.1 hval.2 ht).mono fun e w' h => ⟨h.2.1 hfit, h.2.2⟩) (by simp) ?_ (fun _ => ⟨fun h => absurd h hfit, fun _ => rfl⟩)
      split
      · exact .inr rfl
      · exact hf
  · have hf0 : f ≠ 0 := fun e => hval (hv.out e)
    have hbad : K.validL a = false ∨ K.validL b = false := by
      cases h1 : K.validL a
      · exact .inl rfl
      · cases h2 : K.validL b
        · exact .inr rfl
        · exact absurd ⟨h1, h2⟩ hval
    refine main [] 1 ((sub_bad a b w (len_of la) (len_of lb) hbad).mono fun e w' h => h) (by simp) ?_ (fun e => absurd e hf0)
    rw [if_neg hf0]; exact hf
end Go.Proofs.YtlfbgemceeibiaaGreatDoor
/- words and their linear maps: plain mathematics; word.check -/
namespace Go.Proofs.YtlfbgemceeibiaaGreatDoor
open Go.RowKit
/-- a word of a map -/
def wordB (m : Int) (ws : List Int) : Bool := decide (ws.length ≤ 200) && ws.all fun r => decide (0 ≤ r ∧ r < m)
theorem wordB_iff {m : Int} {ws : List Int} : wordB m ws = true ↔ ws.length ≤ 200 ∧ ∀ r ∈ ws, 0 ≤ r ∧ r < m := by
  unfold wordB; simp
/-- the linear map of a word and one rest more -/
def thenL (m : Int) (us ad : List Int) (l : Int × Int × Int) (r : Int) : Int × Int × Int := (us.getD r.toNat 0 * l.1, us.getD r.toNat 0 * l.2.1 + ad.getD r.toNat 0 * l.2.2, l.2.2 * m)
def lineI (m : Int) (us ad : List Int) (ws : List Int) : Int × Int × Int := ws.foldl (thenL m us ad) (1, 0, 1)
theorem lineI_snoc (m : Int) (us ad : List Int) (ws : List Int) (r : Int) : lineI m us ad (ws ++ [r]) = thenL m us ad (lineI m us ad ws) r := by
  unfold lineI; rw [List.foldl_append]; rfl
theorem rule_of {m : Int} {us ad : List Int} (h : mapP m us ad) {r : Int} (h0 : 0 ≤ r) (h1 : r < m) : 1 ≤ us.getD r.toNat 0 ∧ us.getD r.toNat 0 ≤ 999 ∧ -999999 ≤ ad.getD r.toNat 0 ∧ ad.getD r.toNat 0 ≤ 999999 ∧ r.toNat < us.length ∧ r.toNat < ad.length := by
  have l1 : r.toNat < us.length := by have := h.2.2.1; omega
  have l2 : r.toNat < ad.length := by have := h.2.2.2.1; omega
  have hh := h.2.2.2.2 _ l1
  exact ⟨hh.1, hh.2.1, hh.2.2.1, hh.2.2.2.1, l1, l2⟩
/-- the numbers of a word's linear map are small -/
def LineB (k : Nat) (l : Int × Int × Int) : Prop := l.1.natAbs ≤ 1000 ^ k ∧ l.2.2.natAbs ≤ 1000 ^ k ∧ l.2.1.natAbs ≤ k * 1000000 * 1000 ^ k ∧ 1 ≤ l.2.2
theorem LineB.next {m : Int} {us ad : List Int} (hM : mapP m us ad) {k : Nat} {l : Int × Int × Int} (h : LineB k l) {r : Int} (h0 : 0 ≤ r) (h1 : r < m) : LineB (k + 1) (thenL m us ad l r) := by
  obtain ⟨u1, u2, a1, a2, -, -⟩ := rule_of hM h0 h1
  obtain ⟨b1, b2, b3, b4⟩ := h
  have hm1 := hM.1
  have hm2 := hM.2.1
  unfold thenL
  generalize us.getD r.toNat 0 = u at *
  generalize ad.getD r.toNat 0 = a at *
  obtain ⟨x, y, z⟩ := l
  simp only at b1 b2 b3 b4 ⊢
  have hp : 1000 ^ (k + 1) = 1000 * 1000 ^ k := by rw [Nat.pow_succ, Nat.mul_comm]
  generalize hP : 1000 ^ k = P at *
  have e1 : (u * x).natAbs ≤ 999 * P := by rw [Int.natAbs_mul]; exact Nat.mul_le_mul (by omega) b1
  have e2 : (z * m).natAbs ≤ P * 12 := by rw [Int.natAbs_mul]; exact Nat.mul_le_mul b2 (by omega)
  have e3 : (u * y).natAbs ≤ 999 * (k * 1000000 * P) := by rw [Int.natAbs_mul]; exact Nat.mul_le_mul (by omega) b3
  have e4 : (a * z).natAbs ≤ 999999 * P := by rw [Int.natAbs_mul]; exact Nat.mul_le_mul (by omega) b2
  have e5 : (u * y + a * z).natAbs ≤ (u * y).natAbs + (a * z).natAbs := Int.natAbs_add_le _ _
  refine ⟨by show (u * x).natAbs ≤ _; rw [hp]; omega, by show (z * m).natAbs ≤ _; rw [hp]; omega, ?_, ?_⟩
  · show (u * y + a * z).natAbs ≤ _
    rw [hp]
    have e6 : (k + 1) * 1000000 * (1000 * P) = 1000 * (k * 1000000 * P) + 1000000 * (1000 * P) := by
      rw [Nat.add_mul, Nat.add_mul, Nat.one_mul]
      congr 1
      rw [Nat.mul_left_comm]
    rw [e6]
    obtain ⟨R, hR⟩ : ∃ R, k * 1000000 * P = R := ⟨_, rfl⟩
    rw [hR] at e3 ⊢
    clear e6 hR b3 hP hp
    omega
  · show 1 ≤ z * m
    have : 1 * 1 ≤ z * m := Int.mul_le_mul b4 (by omega) (by omega) (by omega)
    omega
theorem LineB.zero : LineB 0 (1, 0, 1) := ⟨by simp, by simp, by simp, by simp⟩
theorem lineI_B {m : Int} {us ad : List Int} (hM : mapP m us ad) (ws : List Int) (hw : ∀ r ∈ ws, 0 ≤ r ∧ r < m) : LineB ws.length (lineI m us ad ws) := by
  obtain ⟨k, hk⟩ : ∃ k, ws.length = k := ⟨_, rfl⟩
  rw [hk]
  induction k generalizing ws with
  | zero => rw [List.eq_nil_of_length_eq_zero hk]; exact LineB.zero
  | succ k ih =>
    rcases List.eq_nil_or_concat ws with rfl | ⟨p, r, rfl⟩
    · simp at hk
    · rw [List.concat_eq_append] at *
      rw [lineI_snoc]
      have hr := hw r (by simp)
      exact (ih p (fun x hx => hw x (by simp [hx])) (by simpa using hk)).next hM hr.1 hr.2
theorem thousand_pw (k : Nat) : 1000 ^ k = K.pw (3 * k) := by
  unfold K.pw; rw [Nat.pow_mul]
theorem fits_pw {x : Int} {a b : Nat} (h : x.natAbs ≤ a * K.pw b) (ha : a < K.pw 12) (hb : b ≤ 1900) : K.fits x := by
  have h1 : a * K.pw b < K.pw 12 * K.pw b := Nat.mul_lt_mul_of_pos_right ha (K.pw_pos b)
  have h2 : K.pw 12 * K.pw b = K.pw (12 + b) := (Nat.pow_add 10 12 b).symm
  have h3 : K.pw (12 + b) ≤ K.pw 2000 := K.pw_mono (by omega)
  show x.natAbs < K.LIM
  unfold K.LIM
  omega
theorem pw12 : K.pw 12 = 1000000000000 := by decide
/-- all numbers that are met on the way of a line fit -/
theorem LineB.fits {m : Int} {us ad : List Int} (hM : mapP m us ad) {k : Nat} {l : Int × Int × Int} (h : LineB k l) (hk : k ≤ 200) {r : Int} (h0 : 0 ≤ r) (h1 : r < m) :
    K.fits l.1 ∧ K.fits l.2.1 ∧ K.fits l.2.2 ∧ K.fits (l.1 * us.getD r.toNat 0) ∧ K.fits (l.2.1 * us.getD r.toNat 0) ∧ K.fits (ad.getD r.toNat 0 * l.2.2) ∧ K.fits (l.2.1 * us.getD r.toNat 0 + ad.getD r.toNat 0 * l.2.2) ∧ K.fits (l.2.2 * m) := by
  obtain ⟨u1, u2, a1, a2, -, -⟩ := rule_of hM h0 h1
  have hn := LineB.next hM h h0 h1
  obtain ⟨b1, b2, b3, b4⟩ := h
  obtain ⟨n1, n2, n3, n4⟩ := hn
  have hm1 := hM.1
  have hm2 := hM.2.1
  unfold thenL at n1 n2 n3 n4
  simp only at n1 n2 n3 n4
  rw [show us.getD r.toNat 0 * l.2.1 = l.2.1 * us.getD r.toNat 0 from Int.mul_comm _ _] at n3
  generalize us.getD r.toNat 0 = u at *
  generalize ad.getD r.toNat 0 = a at *
  obtain ⟨x, y, z⟩ := l
  simp only at *
  rw [thousand_pw] at *
  have e1 : (x * u).natAbs ≤ 999 * K.pw (3 * k) := by rw [Int.mul_comm, Int.natAbs_mul]; exact Nat.mul_le_mul (by omega) b1
  have e3 : (y * u).natAbs ≤ 999 * (k * 1000000 * K.pw (3 * k)) := by rw [Int.mul_comm, Int.natAbs_mul]; exact Nat.mul_le_mul (by omega) b3
  have e4 : (a * z).natAbs ≤ 999999 * K.pw (3 * k) := by rw [Int.natAbs_mul]; exact Nat.mul_le_mul (by omega) b2
  refine ⟨fits_pw (a := 1) (b := 3 * k) (by omega) (by rw [pw12]; omega) (by omega), fits_pw (a := k * 1000000) (b := 3 * k) b3 (by rw [pw12]; omega) (by omega), fits_pw (a := 1) (b := 3 * k) (by omega) (by rw [pw12]; omega) (by omega), fits_pw (a := 999) (b := 3 * k) e1 (by rw [pw12]; omega) (by omega), fits_pw (a := 999 * (k * 1000000)) (b := 3 * k) (by rw [Nat.mul_assoc]; exact e3) (by rw [pw12]; omega) (by omega), fits_pw (a := 999999) (b := 3 * k) e4 (by rw [pw12]; omega) (by omega), fits_pw (a := (k + 1) * 1000000) (b := 3 * (k + 1)) n3 (by rw [pw12]; omega) (by omega), fits_pw (a := 1) (b := 3 * (k + 1)) (by omega) (by rw [pw12]; omega) (by omega)⟩
set_option maxRecDepth 100000 in
set_option maxHeartbeats 1600000 in
theorem wcheck_any (v : Value) (m : Int) (us ad : List Int) (Wd : Option Addr) (wn wc : Nat) (ws : List Int) (w : World) (hv : MapV w v m us ad) (hw : Rd w Wd (Is ws)) (hl : ws.length = wn) (hwb : wn ≤ 140737488351232) {b1 b2 : Bool} (hb1 : Hid (mapB m us ad = b1)) (hb2 : Hid (wordB m ws = b2)) {c : Int} (hc : Hid (c = if b1 = true then (if b2 = true then 0 else 2) else 1)) :
    Calls Tryz.prog 70 #[v, .slice Wd wn wc] w (fun e w' => e = .returned (.int .i64 c) ∧ Ext w w') := by
  have HV := hid hv
  obtain ⟨A, n, cc, B, n2, d, rfl, -⟩ := hv
  have hx : Ext w (w.alloc (.cells #[.int .i64 m, .slice A n cc, .slice B n2 d] 24)) := (Ext.rfl' w).alloc' _
  have hrw : Row (w.alloc (.cells #[.int .i64 m, .slice A n cc, .slice B n2 d] 24)) w.heap.size 24 [.int .i64 m, .slice A n cc, .slice B n2 d] := Row.new w _ _
  obtain ⟨W1, hW1⟩ : ∃ W1, (w.alloc (.cells #[.int .i64 m, .slice A n cc, .slice B n2 d] 24)) = W1 := ⟨_, rfl⟩
  rw [hW1] at hx hrw
  have HX := hid hx
  have HR := hid hrw
  have HW1 := hid hW1
  have HWD := hid (hw.ext hx)
  have HL := hid hl
  have wn63 : wn ≤ 9223372036854775807 := by omega
  obtain ⟨f0, f1, f2, -, -, -⟩ := row_facts3 hrw
  clear hW1 hx hrw hw hl
  cases b1 with
  | false =>
    obtain rfl : c = 1 := hc.out
    go_enter Tryz.func70, Tryz.ntmps70
    go_upto_region 1 with fail
    rw [HW1.out]
    go_wp2_with fail
    refine (stepvalid_any _ m us ad W1 (HV.out.ext HX.out) hb1).mono ?_
    rintro e w2 ⟨rfl, hx2⟩
    have HY := hid (HX.out.step hx2)
    clear f0 f1 f2 hx2
    go_wp2
    go_ret
    exact ⟨rfl, HY.out⟩
  | true =>
    have HC : Hid (c = if b2 = true then 0 else 2) := hid hc.out
    clear hc
    by_cases hlen : wn ≤ 200
    · have hlz : ¬ (200 : Int) < (wn : Int) := by omega
      go_enter Tryz.func70, Tryz.ntmps70
      go_upto_region 1 with fail
      rw [HW1.out]
      go_wp2_with fail
      refine (stepvalid_any _ m us ad W1 (HV.out.ext HX.out) hb1).mono ?_
      rintro e w2 ⟨rfl, hx2⟩
      have HX2 := hid hx2
      clear f0 f1 f2 hx2
      go_wp2_with fail
      go_loopw [15] (fun iz wr => ∃ j : Nat, j ≤ wn ∧ iz = .int .i64 (j : Int) ∧ Hid (∀ i, i < j → 0 ≤ ws.getD i 0 ∧ ws.getD i 0 < m) ∧ Ext w2 wr) (fun iz _ => wn - (intOf iz).toNat)
      case atStart => exact ⟨0, by omega, rfl, hid (fun i hi => by omega), Ext.rfl' _⟩
      case round =>
        obtain ⟨j, hj, rfl, HALL, hex⟩ := hrel
        have HEX := hid hex
        have HEW := hid (HX.out.step (HX2.out.step hex))
        obtain ⟨f0, f1, f2, -, -, -⟩ := row_facts3 (HR.out.ext (HX2.out.step HEX.out))
        clear hex
        by_cases hlt : j < wn
        · obtain ⟨b3, o3, e3, -, hc3⟩ := (HWD.out.ext (HX2.out.step HEX.out)).atI (k := j) (by rw [HL.out]; exact hlt)
          subst e3
          have hjn : (j : Int) < (wn : Int) := by omega
          obtain ⟨r, hr⟩ : ∃ r, ws.getD j 0 = r := ⟨_, rfl⟩
          rw [hr] at hc3
          have HRR := hid hr
          clear hr
          have HMEM : Hid (r ∈ ws) := hid (by rw [← HRR.out, List.getD_eq_getElem?_getD, List.getElem?_eq_getElem (by rw [HL.out]; exact hlt)]; exact List.getElem_mem _)
          by_cases hr0 : r < 0
          · have HB : Hid (b2 = false) := hid (by rw [← hb2.out]; exact Bool.eq_false_iff.2 (fun h => by have := (wordB_iff.1 h).2 r HMEM.out; omega))
            have HC2 : Hid (c = 2) := hid (by rw [HC.out, HB.out]; rfl)
            go_wp2
            go_ret
            exact ⟨by rw [HC2.out]; rfl, HEW.out⟩
          · by_cases hrm : m ≤ r
            · have HB : Hid (b2 = false) := hid (by rw [← hb2.out]; exact Bool.eq_false_iff.2 (fun h => by have := (wordB_iff.1 h).2 r HMEM.out; omega))
              have HC2 : Hid (c = 2) := hid (by rw [HC.out, HB.out]; rfl)
              go_wp2
              go_ret
              exact ⟨by rw [HC2.out]; rfl, HEW.out⟩
            · have HNX : Hid (∀ i, i < j + 1 → 0 ≤ ws.getD i 0 ∧ ws.getD i 0 < m) := hid (fun i hi => by
                rcases Nat.lt_or_ge i j with h | h
                · exact HALL.out i h
                · obtain rfl : i = j := by omega
                  rw [HRR.out]; omega)
              go_wp2
              go_roundw
              case rel => exact ⟨j + 1, by omega, by simp, HNX, HEX.out⟩
              case measure => first | (simp [intOf]; done) | (simp [intOf]; omega)
        · obtain rfl : j = wn := by omega
          have HB : Hid (b2 = true) := hid (by
            rw [← hb2.out]
            refine wordB_iff.2 ⟨by rw [HL.out]; exact hlen, fun r hr => ?_⟩
            obtain ⟨i, hi, rfl⟩ := List.getElem_of_mem hr
            have := HALL.out i (by rw [HL.out] at hi; exact hi)
            rwa [List.getD_eq_getElem?_getD, List.getElem?_eq_getElem hi] at this)
          have HC2 : Hid (c = 0) := hid (by rw [HC.out, HB.out]; rfl)
          go_wp2
          go_ret
          exact ⟨by rw [HC2.out]; rfl, HEW.out⟩
    · have hlz : (200 : Int) < (wn : Int) := by omega
      have HB : Hid (b2 = false) := hid (by rw [← hb2.out]; exact Bool.eq_false_iff.2 (fun h => by have := (wordB_iff.1 h).1; rw [HL.out] at this; omega))
      have HC2 : Hid (c = 2) := hid (by rw [HC.out, HB.out]; rfl)
      go_enter Tryz.func70, Tryz.ntmps70
      go_upto_region 1 with fail
      rw [HW1.out]
      go_wp2_with fail
      refine (stepvalid_any _ m us ad W1 (HV.out.ext HX.out) hb1).mono ?_
      rintro e w2 ⟨rfl, hx2⟩
      have HY := hid (HX.out.step hx2)
      clear f0 f1 f2 hx2
      go_wp2
      go_ret
      exact ⟨by rw [HC2.out]; rfl, HY.out⟩
end Go.Proofs.YtlfbgemceeibiaaGreatDoor
/- the reference's Valid, of a map -/
namespace Go.Proofs.YtlfbgemceeibiaaGreatDoor
open Go.RowKit
set_option maxRecDepth 100000 in
set_option maxHeartbeats 1600000 in
theorem refvalid_any (v : Value) (m : Int) (us ad : List Int) (w : World) (hv : MapV w v m us ad) {b : Bool} (hb : Hid (mapB m us ad = b)) :
    Calls Tryz.prog 17 #[v] w (fun e w' => e = .returned (.bool b) ∧ Ext w w') := by
  obtain ⟨A, k, c, B, l, d, rfl, hk, hkc, hl, hld, ra, rb, bk, bl⟩ := hv
  have hno : ∀ (_ : ¬ mapP m us ad), Hid (b = false) := fun h => hid (by
    rw [← hb.out]
    cases hB : mapB m us ad with
    | false => rfl
    | true => exact absurd ((mapB_iff m us ad).1 hB) h)
  have hbk : k ≤ 9223372036854775807 := by omega
  have hbl : l ≤ 9223372036854775807 := by omega
  have hx : Ext w (w.alloc (.cells #[.int .i64 m, .slice A k c, .slice B l d] 24)) := (Ext.rfl' w).alloc' _
  have hk3 : ∀ w', Ext (w.alloc (.cells #[.int .i64 m, .slice A k c, .slice B l d] 24)) w' → _ := fun w' e => three_facts e rfl
  by_cases c1 : m < 2
  · have HF := hno (fun h => by have := h.1; omega)
    have HX := hid hx
    clear hno hb hk hl ra rb hx hk3
    go_enter Tryz.func17, Tryz.ntmps17
    go_wp2
    go_ret
    exact ⟨by rw [HF.out]; rfl, HX.out⟩
  · by_cases c2 : 12 < m
    · have HF := hno (fun h => by have := h.2.1; omega)
      have HX := hid hx
      clear hno hb hk hl ra rb hx hk3
      go_enter Tryz.func17, Tryz.ntmps17
      go_wp2
      go_ret
      exact ⟨by rw [HF.out]; rfl, HX.out⟩
    · by_cases c3 : (k : Int) = m
      · by_cases c4 : (l : Int) = m
        · subst c3
          obtain rfl : l = k := by omega
          have HNO := hid hno
          have HK := hid hk
          have HL := hid hl
          have HX := hid hx
          have HK3 := hid hk3
          have HRA := hid ra
          have HRB := hid rb
          have k12 : l ≤ 12 := by omega
          have k2 : 2 ≤ l := by omega
          obtain ⟨f0, f1, f2, -⟩ := hk3 _ (Ext.rfl' _)
          obtain ⟨W1, hW1⟩ : ∃ W1, w.alloc (.cells #[.int .i64 (l : Int), .slice A l c, .slice B l d] 24) = W1 := ⟨_, rfl⟩
          rw [hW1] at HX HK3 f0 f1 f2
          have HW1 := hid hW1
          clear hno hk hl hx hk3 hW1 ra rb c4 hbk hbl c1 c2
          go_enter Tryz.func17, Tryz.ntmps17
          go_upto_region 1 with fail
          rw [HW1.out]
          go_wp2_with fail
          clear f0 f1 f2
          go_loopw [3] (fun iz wr => ∃ j : Nat, j ≤ l ∧ iz = .int .i64 (j : Int) ∧ Hid (∀ r : Nat, r < j → ruleP (l : Int) r (us.getD r 0) (ad.getD r 0)) ∧ Ext W1 wr) (fun iz _ => l - (intOf iz).toNat)
          case atStart => exact ⟨0, by omega, rfl, hid (fun r h => absurd h (by omega)), Ext.rfl' _⟩
          case round =>
            obtain ⟨j, hj, rfl, HR, hex⟩ := hrel
            obtain ⟨f0, f1, f2, -⟩ := HK3.out _ hex
            by_cases hlt : j < l
            · obtain ⟨ba, oa, eA, hba, hca⟩ := ((HRA.out.ext HX.out).ext hex).atI (k := j) (by rw [HK.out]; exact hlt)
              obtain ⟨bb, ob, eB, hbb, hcb⟩ := ((HRB.out.ext HX.out).ext hex).atI (k := j) (by rw [HL.out]; exact hlt)
              subst eA eB
              obtain ⟨u, hu⟩ : ∃ u, us.getD j 0 = u := ⟨_, rfl⟩
              obtain ⟨a, ha⟩ : ∃ a, ad.getD j 0 = a := ⟨_, rfl⟩
              rw [hu] at hca
              rw [ha] at hcb
              have HU := hid hu
              have HA := hid ha
              have hnb : ¬ ruleP (l : Int) j u a → Hid (b = false) := fun hr => HNO.out (fun h => hr (by have := h.2.2.2.2 j (by rw [HK.out]; exact hlt); rwa [HU.out, HA.out] at this))
              have HNB := hid hnb
              have HXE := hid (HX.out.step hex)
              have hj0 : (0 : Int) ≤ (j : Int) := by omega
              have hjl : (j : Int) < (l : Int) := by omega
              clear hu ha hba hbb hnb
              by_cases d1 : u < 1
              · have HF := HNB.out (fun h => by unfold ruleP at h; omega)
                have ed1 : decide (u < 1) = true := decide_eq_true d1
                go_wp2_with fail
                go_quiet (fail)
                have HY := hid (HXE.out.drewN nq)
                go_wp2
                go_ret
                exact ⟨by rw [HF.out]; rfl, HY.out⟩
              · have ed1 : decide (u < 1) = false := decide_eq_false d1
                by_cases d2 : 999 < u
                · have HF := HNB.out (fun h => by unfold ruleP at h; omega)
                  have ed2 : decide (999 < u) = true := decide_eq_true d2
                  go_wp2_with fail
                  go_quiet (fail)
                  have HY := hid (HXE.out.drewN nq)
                  go_wp2
                  go_ret
                  exact ⟨by rw [HF.out]; rfl, HY.out⟩
                · have ed2 : decide (999 < u) = false := decide_eq_false d2
                  by_cases d3 : a < -999999
                  · have HF := HNB.out (fun h => by unfold ruleP at h; omega)
                    have ed3 : decide (a < -999999) = true := decide_eq_true d3
                    go_wp2_with fail
                    go_quiet (fail)
                    have HY := hid (HXE.out.drewN nq)
                    go_wp2
                    go_ret
                    exact ⟨by rw [HF.out]; rfl, HY.out⟩
                  · have ed3 : decide (a < -999999) = false := decide_eq_false d3
                    by_cases d4 : 999999 < a
                    · have HF := HNB.out (fun h => by unfold ruleP at h; omega)
                      have ed4 : decide (999999 < a) = true := decide_eq_true d4
                      go_wp2_with fail
                      go_quiet (fail)
                      have HY := hid (HXE.out.drewN nq)
                      go_wp2
                      go_ret
                      exact ⟨by rw [HF.out]; rfl, HY.out⟩
                    · have ed4 : decide (999999 < a) = false := decide_eq_false d4
                      have hp : 0 ≤ u * (j : Int) ∧ u * (j : Int) ≤ 10989 := by
                        refine ⟨Int.mul_nonneg (by omega) hj0, ?_⟩
                        have := Int.mul_le_mul (show u ≤ 999 by omega) (show (j : Int) ≤ 11 by omega) hj0 (by omega)
                        omega
                      obtain ⟨q, hq⟩ : ∃ q, u * (j : Int) = q := ⟨_, rfl⟩
                      rw [hq] at hp
                      have hp1 := hp.1
                      have hp2 := hp.2
                      have w1 : IntKind.i64.wrap (u * (j : Int)) = q := by rw [hq]; exact IntWalk.i64_in _ (by omega)
                      have w2 : IntKind.i64.wrap (q + a) = q + a := IntWalk.i64_in _ (by omega)
                      have HQ := hid hq
                      clear hq hp
                      by_cases d5 : (q + a).tmod (l : Int) = 0
                      · have HNEXT : Hid (∀ r : Nat, r < j + 1 → ruleP (l : Int) r (us.getD r 0) (ad.getD r 0)) := hid (by
                          intro r h
                          rcases Nat.lt_or_ge r j with h1 | h1
                          · exact HR.out r h1
                          · obtain rfl : r = j := by omega
                            rw [HU.out, HA.out]
                            exact ⟨by omega, by omega, by omega, by omega, by rw [HQ.out]; exact tmod_zero.1 d5⟩)
                        have e5 : ((q + a).tmod (l : Int) == 0) = true := by rw [beq_iff_eq]; exact d5
                        have e6 : ((q + a).tmod (l : Int) != 0) = false := by rw [bne_eq_false_iff_eq]; exact d5
                        go_wp2_with fail
                        go_quiet (fail)
                        have hex2 := hex.drewN nq
                        clear w1 w2 e5 e6 d5
                        go_wp2
                        go_roundw
                        case rel => exact ⟨j + 1, by omega, by simp, HNEXT, hex2⟩
                        case measure => simp [intOf]; omega
                      · have HF := HNB.out (fun h => d5 (tmod_zero.2 (by rw [← HQ.out]; exact h.2.2.2.2)))
                        have e5 : ((q + a).tmod (l : Int) == 0) = false := by rw [beq_eq_false_iff_ne]; exact d5
                        have e6 : ((q + a).tmod (l : Int) != 0) = true := by rw [bne_iff_ne]; exact d5
                        go_wp2_with fail
                        go_quiet (fail)
                        have HY := hid (HXE.out.drewN nq)
                        go_wp2
                        go_ret
                        exact ⟨by rw [HF.out]; rfl, HY.out⟩
            · have HF : Hid (b = true) := hid (by
                rw [← hb.out]
                exact (mapB_iff _ _ _).2 ⟨by omega, by omega, by rw [HK.out], by rw [HL.out], fun r h => HR.out r (by rw [HK.out] at h; omega)⟩)
              have HY := hid (HX.out.step hex)
              go_wp2
              go_ret
              exact ⟨by rw [HF.out]; rfl, HY.out⟩
        · have HF := hno (fun h => c4 (by have := h.2.2.2.1; omega))
          have HX := hid hx
          subst c3
          have e4 : ((l : Int) == (k : Int)) = false := by rw [beq_eq_false_iff_ne]; exact c4
          have e5 : (l == k) = false := by rw [beq_eq_false_iff_ne]; omega
          clear hno hb hk hl ra rb hx hk3 c4
          go_enter Tryz.func17, Tryz.ntmps17
          go_wp2
          go_ret
          exact ⟨by rw [HF.out]; rfl, HX.out⟩
      · have HF := hno (fun h => c3 (by have := h.2.2.1; omega))
        have HX := hid hx
        have e3 : ((k : Int) == m) = false := by rw [beq_eq_false_iff_ne]; exact c3
        clear hno hb hk hl ra rb hx hk3 c3
        go_enter Tryz.func17, Tryz.ntmps17
        go_wp2
        go_ret
        exact ⟨by rw [HF.out]; rfl, HX.out⟩
end Go.Proofs.YtlfbgemceeibiaaGreatDoor
/- the reference's Is of layer 3 -/
namespace Go.Proofs.YtlfbgemceeibiaaGreatDoor
open Go.RowKit
set_option maxRecDepth 100000 in
set_option maxHeartbeats 3200000 in
theorem is_any (v : Value) (m : Int) (us ad : List Int) (Wd : Option Addr) (wn wc : Nat) (ws : List Int) (w : World) (hv : MapV w v m us ad) (hw : Rd w Wd (Is ws)) (hl : ws.length = wn) (hwb : wn ≤ 140737488351232) {b : Bool} (hb : Hid (wordB m ws = b)) :
    Calls Tryz.prog 25 #[v, .slice Wd wn wc] w (fun e w' => e = .returned (.bool b) ∧ Ext w w') := by
  obtain ⟨A, n, cc, B, n2, d, rfl, -⟩ := hv
  have hx : Ext w (w.alloc (.cells #[.int .i64 m, .slice A n cc, .slice B n2 d] 24)) := (Ext.rfl' w).alloc' _
  have hrw : Row (w.alloc (.cells #[.int .i64 m, .slice A n cc, .slice B n2 d] 24)) w.heap.size 24 [.int .i64 m, .slice A n cc, .slice B n2 d] := Row.new w _ _
  obtain ⟨W1, hW1⟩ : ∃ W1, (w.alloc (.cells #[.int .i64 m, .slice A n cc, .slice B n2 d] 24)) = W1 := ⟨_, rfl⟩
  rw [hW1] at hx hrw
  have HX := hid hx
  have HR := hid hrw
  have HW1 := hid hW1
  have HWD := hid (hw.ext hx)
  have HL := hid hl
  have wn63 : wn ≤ 9223372036854775807 := by omega
  obtain ⟨f0, f1, f2, -, -, -⟩ := row_facts3 hrw
  clear hW1 hx hrw hw hl
  go_enter Tryz.func25, Tryz.ntmps25
  go_upto_region 1 with fail
  rw [HW1.out]
  clear f0 f1 f2
  go_wp2_with fail
  go_loopw [5] (fun iz wr => ∃ j : Nat, j ≤ wn ∧ iz = .int .i64 (j : Int) ∧ Hid (∀ i, i < j → 0 ≤ ws.getD i 0 ∧ ws.getD i 0 < m) ∧ Ext W1 wr) (fun iz _ => wn - (intOf iz).toNat)
  case atStart => exact ⟨0, by omega, rfl, hid (fun i hi => by omega), Ext.rfl' _⟩
  case round =>
    obtain ⟨j, hj, rfl, HALL, hex⟩ := hrel
    have HEX := hid hex
    have HEW := hid (HX.out.step hex)
    obtain ⟨f0, f1, f2, -, -, -⟩ := row_facts3 (HR.out.ext HEX.out)
    by_cases hlt : j < wn
    · obtain ⟨b3, o3, e3, -, hc3⟩ := (HWD.out.ext HEX.out).atI (k := j) (by rw [HL.out]; exact hlt)
      subst e3
      have hjn : (j : Int) < (wn : Int) := by omega
      obtain ⟨r, hr⟩ : ∃ r, ws.getD j 0 = r := ⟨_, rfl⟩
      rw [hr] at hc3
      have HRR := hid hr
      clear hr
      have HMEM : Hid (r ∈ ws) := hid (by rw [← HRR.out, List.getD_eq_getElem?_getD, List.getElem?_eq_getElem (by rw [HL.out]; exact hlt)]; exact List.getElem_mem _)
      by_cases hr0 : r < 0
      · obtain rfl : b = false := by rw [← hb.out]; exact Bool.eq_false_iff.2 (fun h => by have := (wordB_iff.1 h).2 r HMEM.out; omega)
        go_wp2_with fail
        go_quiet (fail)
        have HE2 := hid (HEW.out.drewN nq)
        go_wp2
        go_ret
        exact ⟨rfl, HE2.out⟩
      · by_cases hrm : m ≤ r
        · obtain rfl : b = false := by rw [← hb.out]; exact Bool.eq_false_iff.2 (fun h => by have := (wordB_iff.1 h).2 r HMEM.out; omega)
          go_wp2_with fail
          go_quiet (fail)
          have HE2 := hid (HEW.out.drewN nq)
          go_wp2
          go_ret
          exact ⟨rfl, HE2.out⟩
        · have HNX : Hid (∀ i, i < j + 1 → 0 ≤ ws.getD i 0 ∧ ws.getD i 0 < m) := hid (fun i hi => by
            rcases Nat.lt_or_ge i j with h | h
            · exact HALL.out i h
            · obtain rfl : i = j := by omega
              rw [HRR.out]; omega)
          go_wp2_with fail
          go_quiet (fail)
          have HE2 := hid (HEX.out.drewN nq)
          go_wp2
          go_roundw
          case rel => exact ⟨j + 1, by omega, by simp, HNX, HE2.out⟩
          case measure => first | (simp [intOf]; done) | (simp [intOf]; omega)
    · obtain rfl : j = wn := by omega
      by_cases hlen : j ≤ 200
      · have hlz : (j : Int) ≤ 200 := by omega
        obtain rfl : b = true := by
          rw [← hb.out]
          refine wordB_iff.2 ⟨by rw [HL.out]; exact hlen, fun r hr => ?_⟩
          obtain ⟨i, hi, rfl⟩ := List.getElem_of_mem hr
          have := HALL.out i (by rw [HL.out] at hi; exact hi)
          rwa [List.getD_eq_getElem?_getD, List.getElem?_eq_getElem hi] at this
        clear f0 f1 f2
        go_wp2
        go_ret
        exact ⟨rfl, HEW.out⟩
      · have hlz : ¬ (j : Int) ≤ 200 := by omega
        obtain rfl : b = false := by rw [← hb.out]; exact Bool.eq_false_iff.2 (fun h => by have := (wordB_iff.1 h).1; rw [HL.out] at this; omega)
        clear f0 f1 f2
        go_wp2
        go_ret
        exact ⟨rfl, HEW.out⟩
end Go.Proofs.YtlfbgemceeibiaaGreatDoor
