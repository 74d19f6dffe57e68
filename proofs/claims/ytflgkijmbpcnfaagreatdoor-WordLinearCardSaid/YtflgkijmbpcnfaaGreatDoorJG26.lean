/- Joined texts: the reference's Value of layer 3; step.commonDivisor, step.Regular; the reference's Prime, Regular; num.Sub, num.Gcd by contract; the reckoner of package word; words and their linear maps: plain mathematics; word.check; word.lineOfNoStep, lineOfStep, the function literal of Line. -/
import Derived.Test.YtflgkijmbpcnfaaGreatDoorJG14
import Derived.Test.YtflgkijmbpcnfaaGreatDoorJG12
import Derived.Test.YtflgkijmbpcnfaaGreatDoorJG13
import Derived.Test.YtflgkijmbpcnfaaGreatDoorJG10
import Derived.Deep.LoopGhost
import Derived.IntWalk
import Derived.Test.YtflgkijmbpcnfaaGreatDoorJG05
import Derived.Test.YtflgkijmbpcnfaaGreatDoorJG04
import Derived.Test.YtflgkijmbpcnfaaGreatDoorJG06
set_option linter.unusedSimpArgs false
set_option linter.unusedVariables false
/- the reference's Value of layer 3 -/
namespace Go.Proofs.YtflgkijmbpcnfaaGreatDoor
open Go.RowKit
set_option maxRecDepth 100000 in
set_option maxHeartbeats 6400000 in
theorem value_any (b1 b2 b3 b4 : Bool) (A1 A2 A3 A4 : Option Addr) (k1 k2 k3 k4 c1 c2 c3 c4 : Nat) (M D x : Int) (w : World)
    (hv1 : RefV w (.agg #[.bool b1, .slice A1 k1 c1]) M) (hv2 : RefV w (.agg #[.bool b2, .slice A2 k2 c2]) D) (hv4 : RefV w (.agg #[.bool b4, .slice A4 k4 c4]) x)
    (HB : Hid (M.natAbs ≤ BIG ∧ x.natAbs ≤ BIG ∧ (M * x).natAbs ≤ BIG ∧ D.natAbs ≤ BIG)) :
    Calls Tryz.prog 51 #[.agg #[.bool b1, .slice A1 k1 c1, .bool b2, .slice A2 k2 c2, .bool b3, .slice A3 k3 c3], .agg #[.bool b4, .slice A4 k4 c4]] w (RefPost (M * x + D) w) := by
  have hx : Ext w (((w.alloc (.cells #[.bool b1, .slice A1 k1 c1, .bool b2, .slice A2 k2 c2, .bool b3, .slice A3 k3 c3] 74)).alloc (.cells #[.bool b4, .slice A4 k4 c4] 34)).alloc (.cells #[.bool false, .slice none 0 0] 34)) := (((Ext.rfl' w).alloc' _).alloc' _).alloc' _
  have hr1 : Row (((w.alloc (.cells #[.bool b1, .slice A1 k1 c1, .bool b2, .slice A2 k2 c2, .bool b3, .slice A3 k3 c3] 74)).alloc (.cells #[.bool b4, .slice A4 k4 c4] 34)).alloc (.cells #[.bool false, .slice none 0 0] 34)) w.heap.size 74 [.bool b1, .slice A1 k1 c1, .bool b2, .slice A2 k2 c2, .bool b3, .slice A3 k3 c3] := ((Row.new w _ _).alloc _).alloc _
  have hr2 : Row (((w.alloc (.cells #[.bool b1, .slice A1 k1 c1, .bool b2, .slice A2 k2 c2, .bool b3, .slice A3 k3 c3] 74)).alloc (.cells #[.bool b4, .slice A4 k4 c4] 34)).alloc (.cells #[.bool false, .slice none 0 0] 34)) (w.heap.size + 1) 34 [.bool b4, .slice A4 k4 c4] := by
    have := (Row.new (w.alloc (.cells #[.bool b1, .slice A1 k1 c1, .bool b2, .slice A2 k2 c2, .bool b3, .slice A3 k3 c3] 74)) 34 [.bool b4, .slice A4 k4 c4]).alloc (.cells #[.bool false, .slice none 0 0] 34)
    rwa [World.size_alloc] at this
  have hr3 : Row (((w.alloc (.cells #[.bool b1, .slice A1 k1 c1, .bool b2, .slice A2 k2 c2, .bool b3, .slice A3 k3 c3] 74)).alloc (.cells #[.bool b4, .slice A4 k4 c4] 34)).alloc (.cells #[.bool false, .slice none 0 0] 34)) (w.heap.size + 1 + 1) 34 [.bool false, .slice none 0 0] := by
    have := Row.new ((w.alloc (.cells #[.bool b1, .slice A1 k1 c1, .bool b2, .slice A2 k2 c2, .bool b3, .slice A3 k3 c3] 74)).alloc (.cells #[.bool b4, .slice A4 k4 c4] 34)) 34 [.bool false, .slice none 0 0]
    rwa [World.size_alloc, World.size_alloc] at this
  obtain ⟨W3, hW3⟩ : ∃ W3, (((w.alloc (.cells #[.bool b1, .slice A1 k1 c1, .bool b2, .slice A2 k2 c2, .bool b3, .slice A3 k3 c3] 74)).alloc (.cells #[.bool b4, .slice A4 k4 c4] 34)).alloc (.cells #[.bool false, .slice none 0 0] 34)) = W3 := ⟨_, rfl⟩
  rw [hW3] at hx hr1 hr2 hr3
  have HW3 := hid hW3
  have HX := hid hx
  have HV1 := hid (hv1.ext hx)
  have HV2 := hid (hv2.ext hx)
  have HV4 := hid (hv4.ext hx)
  have H1 := hid hr1
  have H2 := hid hr2
  have H3 := hid hr3
  have HSR : Hid (∀ W', Row W' w.heap.size 74 [.bool b1, .slice A1 k1 c1, .bool b2, .slice A2 k2 c2, .bool b3, .slice A3 k3 c3] → Row W' (w.heap.size + 1) 34 [.bool b4, .slice A4 k4 c4] → W'.cell? ⟨w.heap.size, 0, none⟩ = some (.bool b1) ∧ W'.cell? ⟨w.heap.size, 1, none⟩ = some (.slice A1 k1 c1) ∧ W'.cell? ⟨w.heap.size, 2, none⟩ = some (.bool b2) ∧ W'.cell? ⟨w.heap.size, 3, none⟩ = some (.slice A2 k2 c2) ∧ W'.cell? ⟨w.heap.size + 1, 0, none⟩ = some (.bool b4) ∧ W'.cell? ⟨w.heap.size + 1, 1, none⟩ = some (.slice A4 k4 c4)) := hid (by
    intro W' h1 h2
    obtain ⟨q0, q1, -, -⟩ := row_facts h2
    exact ⟨by rw [h1.cell]; rfl, by rw [h1.cell]; rfl, by rw [h1.cell]; rfl, by rw [h1.cell]; rfl, q0, q1⟩)
  have HS : Hid (∀ W', Ext W3 W' → W'.cell? ⟨w.heap.size, 0, none⟩ = some (.bool b1) ∧ W'.cell? ⟨w.heap.size, 1, none⟩ = some (.slice A1 k1 c1) ∧ W'.cell? ⟨w.heap.size, 2, none⟩ = some (.bool b2) ∧ W'.cell? ⟨w.heap.size, 3, none⟩ = some (.slice A2 k2 c2) ∧ W'.cell? ⟨w.heap.size + 1, 0, none⟩ = some (.bool b4) ∧ W'.cell? ⟨w.heap.size + 1, 1, none⟩ = some (.slice A4 k4 c4)) := hid fun W' e => HSR.out W' (H1.out.ext e) (H2.out.ext e)
  clear hW3 hx hr1 hr2 hr3 hv1 hv2 hv4
  have hcur : Ext W3 W3 := Ext.rfl' _
  go_enter Tryz.func51, Tryz.ntmps51
  go_upto_region 1 with fail
  rw [HW3.out]
  go_region_held3 (fun W' => W'.cell? ⟨w.heap.size, 0, none⟩ = some (.bool b1) ∧ W'.cell? ⟨w.heap.size, 1, none⟩ = some (.slice A1 k1 c1) ∧ W'.cell? ⟨w.heap.size, 2, none⟩ = some (.bool b2) ∧ W'.cell? ⟨w.heap.size, 3, none⟩ = some (.slice A2 k2 c2) ∧ W'.cell? ⟨w.heap.size + 1, 0, none⟩ = some (.bool b4) ∧ W'.cell? ⟨w.heap.size + 1, 1, none⟩ = some (.slice A4 k4 c4))
    (first | exact HS.out _ hcur | exact HS.out _ hcur.drew' | exact HS.out _ (hcur.alloc' _) | exact HS.out _ (hcur.drew'.alloc' _) | exact HS.out _ ((hcur.set' HB2.out.1 _).set' HB2.out.1 _) | exact HSR.out _ (((H1.out.ext hcur).far (by show w.heap.size ≠ w.heap.size + 1 + 1; omega) _).far (by show w.heap.size ≠ w.heap.size + 1 + 1; omega) _) (((H2.out.ext hcur).far (by show w.heap.size + 1 ≠ w.heap.size + 1 + 1; omega) _).far (by show w.heap.size + 1 ≠ w.heap.size + 1 + 1; omega) _) | go_keep)
    (first
      | (go_at_call 31; refine (rmul_any _ _ M x _ (HV1.out.ext ?_) (HV4.out.ext ?_) HB.out.1 HB.out.2.1).mono ?_; (first | exact hcur | exact hcur.drew' | exact hcur.alloc' _ | exact hcur.drew'.alloc' _ | exact (hcur.alloc' _).drew'); (first | exact hcur | exact hcur.drew' | exact hcur.alloc' _ | exact hcur.drew'.alloc' _ | exact (hcur.alloc' _).drew'); rintro e w6 ⟨v6, rfl, hv6, hx⟩; have hcur := Ext.step hcur (by first | exact hx | exact Ext.undrew hx | exact Ext.step ((Ext.rfl' _).alloc' _) hx | exact Ext.step ((Ext.rfl' _).drew'.alloc' _) hx); have HV6 := hid hv6; obtain ⟨A6, k6, c6, xs6, b6, rfl, -⟩ := hv6)
      | (go_at_call 33; refine (radd_any _ _ (M * x) D _ (HV6.out.ext ?_) (HV2.out.ext ?_) HB.out.2.2.1 HB.out.2.2.2).mono ?_; (first | exact Ext.rfl' _ | exact (Ext.rfl' _).drew' | exact (Ext.rfl' _).alloc' _ | exact (Ext.rfl' _).drew'.alloc' _); (first | exact hcur | exact hcur.drew' | exact hcur.alloc' _ | exact hcur.drew'.alloc' _ | exact (hcur.alloc' _).drew'); rintro e w7 ⟨v7, rfl, hv7, hx⟩; have hcur := Ext.step hcur (by first | exact hx | exact Ext.undrew hx | exact Ext.step ((Ext.rfl' _).alloc' _) hx | exact Ext.step ((Ext.rfl' _).drew'.alloc' _) hx); have HV7 := hid hv7; obtain ⟨A7, k7, c7, xs7, b7, rfl, -⟩ := hv7; (have hyy := row_facts (H3.out.ext hcur); obtain ⟨y0, y1, y2, y3⟩ := hyy)))
  all_goals
    have HF := hid (RefPost.put (H3.out.ext hcur) (HX.out.step hcur) (by omega) HV7.out)
    go_wp2
    refine bodyPost_ret (v := .agg #[.bool b7, .slice A7 k7 c7]) (by simp [results, Tryz.results51, go_sem, y0, y1]) rfl HF.out
end Go.Proofs.YtflgkijmbpcnfaaGreatDoor
/- step.commonDivisor, step.Regular; the reference's Prime, Regular -/
namespace Go.Proofs.YtflgkijmbpcnfaaGreatDoor
open Go.RowKit
/-- a regular map -/
def regB (m : Int) (us : List Int) : Bool := us.all fun u => decide (Nat.gcd u.natAbs m.natAbs ≤ 1)
theorem tmod_nat (x y : Nat) : (x : Int).tmod (y : Int) = ((x % y : Nat) : Int) := by rw [Int.tmod_eq_emod_of_nonneg (by omega)]; rfl
set_option maxRecDepth 100000 in
set_option maxHeartbeats 1600000 in
theorem commonDivisor_any (a b : Nat) (w : World) (ha : a ≤ 1000000) (hb : b ≤ 1000000) :
    Calls Tryz.prog 99 #[.int .i64 (a : Int), .int .i64 (b : Int)] w (fun e w' => e = .returned (.int .i64 ((Nat.gcd a b : Nat) : Int)) ∧ Ext w w') := by
  go_enter Tryz.func99, Tryz.ntmps99
  go_wp2_with fail
  go_loopg [0, 1] b (fun g av bv wr => ∃ x y : Nat, y = g ∧ x ≤ 1000000 ∧ y ≤ 1000000 ∧ av = .int .i64 (x : Int) ∧ bv = .int .i64 (y : Int) ∧ Hid (Nat.gcd x y = Nat.gcd a b) ∧ Ext w wr)
  case atStart => exact ⟨a, b, rfl, ha, hb, rfl, rfl, hid rfl, Ext.rfl' _⟩
  case round =>
    obtain ⟨x, y, rfl, hx, hy, rfl, rfl, HG, hex⟩ := hrel
    have HEX := hid hex
    clear hex
    by_cases hy0 : y = 0
    · subst hy0
      have HGX : Hid (x = Nat.gcd a b) := hid (by rw [← HG.out, Nat.gcd_zero_right])
      go_wp2
      go_ret
      exact ⟨by rw [← HGX.out]; rfl, HEX.out⟩
    · have hyp : (0 : Int) < (y : Int) := by omega
      have hyne : (y : Int) ≠ 0 := by omega
      have hyb : ((y : Int) == 0) = false := by rw [beq_eq_false_iff_ne]; exact hyne
      have HMD := hid (tmod_nat x y)
      have HLT : Hid (x % y < y) := hid (Nat.mod_lt _ (by omega))
      have HNX : Hid (Nat.gcd y (x % y) = Nat.gcd a b) := hid (by rw [← HG.out, Nat.gcd_comm y, Nat.gcd_comm x y]; exact (Nat.gcd_rec y x).symm)
      go_wp2_with fail
      first | (go_quiet (fail)) | (go_region)
      all_goals
        have HE2 := hid (HEX.out.drewN nq)
        go_wp2
        go_roundg (x % y)
        case measure => exact HLT.out
        case rel => exact ⟨y, x % y, rfl, hy, by have := HLT.out; omega, rfl, by rw [Int.natCast_emod], HNX, HE2.out⟩
set_option maxRecDepth 100000 in
set_option maxHeartbeats 1600000 in
theorem prime_any (a b : Nat) (w : World) (ha : a ≤ 1000000) (hb : b ≤ 1000000) (ha0 : 0 < a) (hb0 : 0 < b) :
    Calls Tryz.prog 83 #[.int .i64 (a : Int), .int .i64 (b : Int)] w (fun e w' => e = .returned (.bool (decide (Nat.gcd a b ≤ 1))) ∧ Ext w w') := by
  have hfin : ∀ dd : Nat, 2 ≤ dd → (∀ e, 2 ≤ e → e < dd → ¬ (a % e = 0 ∧ b % e = 0)) → (a < dd ∨ b < dd) → decide (Nat.gcd a b ≤ 1) = true := fun dd h2 hall hend => decide_eq_true (by
    rcases Nat.lt_or_ge 1 (Nat.gcd a b) with h | h
    · exfalso
      have h3 := Nat.gcd_dvd_left a b
      have h4 := Nat.gcd_dvd_right a b
      have h5 := Nat.le_of_dvd ha0 h3
      have h6 := Nat.le_of_dvd hb0 h4
      exact hall _ (by omega) (by omega) ⟨Nat.mod_eq_zero_of_dvd h3, Nat.mod_eq_zero_of_dvd h4⟩
    · exact h)
  have hno : ∀ dd : Nat, 2 ≤ dd → a % dd = 0 → b % dd = 0 → decide (Nat.gcd a b ≤ 1) = false := fun dd h2 h3 h4 => decide_eq_false (by
    have h5 := Nat.dvd_gcd (Nat.dvd_of_mod_eq_zero h3) (Nat.dvd_of_mod_eq_zero h4)
    have h6 := Nat.le_of_dvd (Nat.gcd_pos_of_pos_left b ha0) h5
    omega)
  have HFIN := hid hfin
  have HNO := hid hno
  clear hfin hno
  obtain ⟨r, hr⟩ : ∃ r, decide (Nat.gcd a b ≤ 1) = r := ⟨_, rfl⟩
  rw [hr]
  have HR := hid hr
  clear hr
  go_enter Tryz.func83, Tryz.ntmps83
  go_wp2_with fail
  go_loopg [5] (a + 1 - 2) (fun g dv wr => ∃ dd : Nat, 2 ≤ dd ∧ dd ≤ 1000001 ∧ g = a + 1 - dd ∧ dv = .int .i64 (dd : Int) ∧ Hid (∀ e, 2 ≤ e → e < dd → ¬ (a % e = 0 ∧ b % e = 0)) ∧ Ext w wr)
  case atStart => exact ⟨2, by omega, by omega, by omega, rfl, hid (fun e h1 h2 => by omega), Ext.rfl' _⟩
  case round =>
    obtain ⟨dd, h2, hdb, rfl, rfl, HALL, hex⟩ := hrel
    have HEX := hid hex
    clear hex
    have hd0 : ((dd : Int) == 0) = false := by rw [beq_eq_false_iff_ne]; omega
    have hd1 : (dd : Int) ≠ 0 := by omega
    have m1 := tmod_nat a dd
    have m2 := tmod_nat b dd
    by_cases ha1 : dd ≤ a
    · by_cases hb1 : dd ≤ b
      · have ha2 : (dd : Int) ≤ (a : Int) := by omega
        have hb2 : (dd : Int) ≤ (b : Int) := by omega
        have hw : IntKind.i64.wrap ((dd : Int) + 1) = (dd : Int) + 1 := IntWalk.i64_in _ (by omega)
        by_cases ea : a % dd = 0
        · have ea1 : ((a : Int) % (dd : Int) == 0) = true := by rw [beq_iff_eq, ← Int.natCast_emod, ea]; rfl
          by_cases eb : b % dd = 0
          · have eb1 : ((b : Int) % (dd : Int) == 0) = true := by rw [beq_iff_eq, ← Int.natCast_emod, eb]; rfl
            have HF : Hid (r = false) := hid (by rw [← HR.out]; exact HNO.out dd h2 ea eb)
            clear m1 m2 ea eb
            go_wp2
            go_ret
            exact ⟨by rw [HF.out]; rfl, HEX.out⟩
          · have eb1 : ((b : Int) % (dd : Int) == 0) = false := by rw [beq_eq_false_iff_ne, ← Int.natCast_emod]; omega
            have HNX : Hid (∀ e, 2 ≤ e → e < dd + 1 → ¬ (a % e = 0 ∧ b % e = 0)) := hid (fun e h1 h3 h4 => by
              rcases Nat.lt_or_ge e dd with h | h
              · exact HALL.out e h1 h h4
              · obtain rfl : e = dd := by omega
                exact eb h4.2)
            clear m1 m2 ea eb
            go_wp2
            go_roundg (a + 1 - (dd + 1))
            case measure => omega
            case rel => exact ⟨dd + 1, by omega, by omega, by omega, by simp, HNX, HEX.out⟩
        · have ea1 : ((a : Int) % (dd : Int) == 0) = false := by rw [beq_eq_false_iff_ne, ← Int.natCast_emod]; omega
          have HNX : Hid (∀ e, 2 ≤ e → e < dd + 1 → ¬ (a % e = 0 ∧ b % e = 0)) := hid (fun e h1 h3 h4 => by
            rcases Nat.lt_or_ge e dd with h | h
            · exact HALL.out e h1 h h4
            · obtain rfl : e = dd := by omega
              exact ea h4.1)
          clear m1 m2 ea
          go_wp2
          go_roundg (a + 1 - (dd + 1))
          case measure => omega
          case rel => exact ⟨dd + 1, by omega, by omega, by omega, by simp, HNX, HEX.out⟩
      · have HF : Hid (r = true) := hid (by rw [← HR.out]; exact HFIN.out dd h2 HALL.out (.inr (by omega)))
        have ha2 : (dd : Int) ≤ (a : Int) := by omega
        have hb2 : ¬ (dd : Int) ≤ (b : Int) := by omega
        go_wp2
        go_ret
        exact ⟨by rw [HF.out]; rfl, HEX.out⟩
    · have HF : Hid (r = true) := hid (by rw [← HR.out]; exact HFIN.out dd h2 HALL.out (.inl (by omega)))
      have ha2 : ¬ (dd : Int) ≤ (a : Int) := by omega
      go_wp2
      go_ret
      exact ⟨by rw [HF.out]; rfl, HEX.out⟩
theorem commonDivisor_int (a b : Int) (w : World) (ha : 0 ≤ a) (ha2 : a ≤ 1000000) (hb : 0 ≤ b) (hb2 : b ≤ 1000000) :
    Calls Tryz.prog 99 #[.int .i64 a, .int .i64 b] w (fun e w' => e = .returned (.int .i64 ((Nat.gcd a.natAbs b.natAbs : Nat) : Int)) ∧ Ext w w') := by
  obtain ⟨x, rfl⟩ : ∃ x : Nat, a = (x : Int) := ⟨a.toNat, by omega⟩
  obtain ⟨y, rfl⟩ : ∃ y : Nat, b = (y : Int) := ⟨b.toNat, by omega⟩
  exact commonDivisor_any x y w (by omega) (by omega)
theorem prime_int (a b : Int) (w : World) (ha : 0 < a) (ha2 : a ≤ 1000000) (hb : 0 < b) (hb2 : b ≤ 1000000) :
    Calls Tryz.prog 83 #[.int .i64 a, .int .i64 b] w (fun e w' => e = .returned (.bool (decide (Nat.gcd a.natAbs b.natAbs ≤ 1))) ∧ Ext w w') := by
  obtain ⟨x, rfl⟩ : ∃ x : Nat, a = (x : Int) := ⟨a.toNat, by omega⟩
  obtain ⟨y, rfl⟩ : ∃ y : Nat, b = (y : Int) := ⟨b.toNat, by omega⟩
  exact prime_any x y w (by omega) (by omega) (by omega) (by omega)
theorem regB_no {m : Int} {us : List Int} {j : Nat} (hj : j < us.length) (h : ¬ Nat.gcd (us.getD j 0).natAbs m.natAbs ≤ 1) : regB m us = false := by
  unfold regB
  rw [List.all_eq_false]
  refine ⟨us.getD j 0, ?_, by simpa using h⟩
  rw [List.getD_eq_getElem?_getD, List.getElem?_eq_getElem hj]
  exact List.getElem_mem hj
theorem regB_yes {m : Int} {us : List Int} (h : ∀ j, j < us.length → Nat.gcd (us.getD j 0).natAbs m.natAbs ≤ 1) : regB m us = true := by
  unfold regB
  rw [List.all_eq_true]
  intro u hu
  obtain ⟨j, hj, rfl⟩ := List.getElem_of_mem hu
  have := h j hj
  rw [List.getD_eq_getElem?_getD, List.getElem?_eq_getElem hj] at this
  simpa using this
set_option maxRecDepth 100000 in
set_option maxHeartbeats 3200000 in
theorem regular_ok (v : Value) (m : Int) (us ad : List Int) (w : World) (hv : MapV w v m us ad) (hM : Hid (mapP m us ad)) :
    Calls Tryz.prog 78 #[v] w (fun e w' => e = .returned (.tuple #[.bool (regB m us), .int .i64 0]) ∧ Ext w w') := by
  have HV := hid hv
  obtain ⟨A, n, cc, B, n2, d, rfl, h1, h2, h3, h4, h5, h6, h7, h9⟩ := hv
  obtain ⟨dm, hdm⟩ : ∃ dm : Nat, m = (dm : Int) := ⟨m.toNat, by have := hM.out.1; omega⟩
  have HDM := hid hdm
  have HMB := hid (show 2 ≤ m ∧ m ≤ 12 from ⟨hM.out.1, hM.out.2.1⟩)
  have HNM : Hid ((n : Int) = m) := hid (by have := hM.out.2.2.1; omega)
  obtain ⟨r, hr⟩ : ∃ r, regB m us = r := ⟨_, rfl⟩
  rw [hr]
  have HRB := hid hr
  have hx : Ext w (w.alloc (.cells #[.int .i64 m, .slice A n cc, .slice B n2 d] 24)) := (Ext.rfl' w).alloc' _
  have hrw : Row (w.alloc (.cells #[.int .i64 m, .slice A n cc, .slice B n2 d] 24)) w.heap.size 24 [.int .i64 m, .slice A n cc, .slice B n2 d] := Row.new w _ _
  obtain ⟨W1, hW1⟩ : ∃ W1, (w.alloc (.cells #[.int .i64 m, .slice A n cc, .slice B n2 d] 24)) = W1 := ⟨_, rfl⟩
  rw [hW1] at hx hrw
  have HX := hid hx
  have HR := hid hrw
  have HW1 := hid hW1
  have HA := hid (h5.ext hx)
  have HL := hid h1
  obtain ⟨f0, f1, f2, -, -, -⟩ := row_facts3 hrw
  clear hW1 hx hrw h5 h6 h1 h3 hdm hr
  go_enter Tryz.func78, Tryz.ntmps78
  go_upto_region 1 with fail
  rw [HW1.out]
  go_wp2_with fail
  refine (stepvalid_any _ m us ad W1 (HV.out.ext HX.out) (hid ((mapB_iff m us ad).2 hM.out))).mono ?_
  rintro e w2 ⟨rfl, hx2⟩
  have HX2 := hid hx2
  clear f0 f1 f2 hx2
  obtain ⟨f0, f1, f2, -, -, -⟩ := row_facts3 (HR.out.ext HX2.out)
  go_wp2_with fail
  go_loopw [12] (fun iz wr => ∃ j : Nat, j ≤ n ∧ iz = .int .i64 (j : Int) ∧ Hid (∀ i, i < j → Nat.gcd (us.getD i 0).natAbs m.natAbs ≤ 1) ∧ Ext w2 wr) (fun iz _ => n - (intOf iz).toNat)
  case atStart => exact ⟨0, by omega, rfl, hid (fun i hi => by omega), Ext.rfl' _⟩
  case round =>
    obtain ⟨j, hj, rfl, HALL, hex⟩ := hrel
    have HEX := hid hex
    have HEW := hid (HX.out.step (HX2.out.step hex))
    clear f0 f1 f2
    obtain ⟨f0, f1, f2, -, -, -⟩ := row_facts3 (HR.out.ext (HX2.out.step HEX.out))
    clear hex
    by_cases hlt : j < n
    · obtain ⟨b1, o1, e1, -, hc1⟩ := (HA.out.ext (HX2.out.step HEX.out)).atI (k := j) (by rw [HL.out]; exact hlt)
      subst e1
      have hrule := hM.out.2.2.2.2 j (by rw [HL.out]; exact hlt)
      obtain ⟨u, hu⟩ : ∃ u, us.getD j 0 = u := ⟨_, rfl⟩
      rw [hu] at hc1 hrule
      have HU := hid hu
      have HRU := hid (show 1 ≤ u ∧ u ≤ 999 from ⟨hrule.1, hrule.2.1⟩)
      obtain ⟨gg, hgg⟩ : ∃ gg : Nat, Nat.gcd u.natAbs m.natAbs = gg := ⟨_, rfl⟩
      have HGG := hid hgg
      clear hu hrule hgg
      have hjn : (j : Int) < (n : Int) := by omega
      go_wp2_with fail
      refine (commonDivisor_int u m wr (by have := HRU.out; omega) (by have := HRU.out; omega) (by have := HMB.out; omega) (by have := HMB.out; omega)).mono ?_
      rintro e w5 ⟨rfl, hx5⟩
      rw [HGG.out]
      have HX5 := hid (HEX.out.step hx5)
      have HW5 := hid (HEW.out.step hx5)
      clear f0 f1 f2 hc1 hx5
      by_cases hg : gg ≤ 1
      · have hgi : ¬ (1 : Int) < (gg : Int) := by omega
        have HNX : Hid (∀ i, i < j + 1 → Nat.gcd (us.getD i 0).natAbs m.natAbs ≤ 1) := hid (fun i hi => by
          rcases Nat.lt_or_ge i j with h | h
          · exact HALL.out i h
          · obtain rfl : i = j := by omega
            rw [HU.out, HGG.out]; exact hg)
        go_wp2
        go_roundw
        case rel => exact ⟨j + 1, by omega, by simp, HNX, HX5.out⟩
        case measure => first | (simp [intOf]; done) | (simp [intOf]; omega)
      · have hgi : (1 : Int) < (gg : Int) := by omega
        have HF : Hid (r = false) := hid (by rw [← HRB.out]; exact regB_no (j := j) (by rw [HL.out]; exact hlt) (by rw [HU.out, HGG.out]; exact hg))
        go_wp2
        go_ret2
        exact ⟨by rw [HF.out]; rfl, HW5.out⟩
    · obtain rfl : j = n := by omega
      have HF : Hid (r = true) := hid (by rw [← HRB.out]; exact regB_yes (fun i hi => HALL.out i (by rw [HL.out] at hi; exact hi)))
      go_wp2
      go_ret2
      exact ⟨by rw [HF.out]; rfl, HEW.out⟩
set_option maxRecDepth 100000 in
set_option maxHeartbeats 1600000 in
theorem regular_bad (v : Value) (m : Int) (us ad : List Int) (w : World) (hv : MapV w v m us ad) (hM : Hid (mapB m us ad = false)) :
    Calls Tryz.prog 78 #[v] w (fun e w' => e = .returned (.tuple #[.bool false, .int .i64 1]) ∧ Ext w w') := by
  have HV := hid hv
  obtain ⟨A, n, cc, B, n2, d, rfl, -⟩ := hv
  have hx : Ext w (w.alloc (.cells #[.int .i64 m, .slice A n cc, .slice B n2 d] 24)) := (Ext.rfl' w).alloc' _
  obtain ⟨f0, f1, f2, -⟩ := three_facts (Ext.rfl' (w.alloc (.cells #[.int .i64 m, .slice A n cc, .slice B n2 d] 24))) rfl
  obtain ⟨W1, hW1⟩ : ∃ W1, (w.alloc (.cells #[.int .i64 m, .slice A n cc, .slice B n2 d] 24)) = W1 := ⟨_, rfl⟩
  rw [hW1] at hx f0 f1 f2
  have HX := hid hx
  have HW1 := hid hW1
  clear hW1 hx
  go_enter Tryz.func78, Tryz.ntmps78
  go_upto_region 1 with fail
  rw [HW1.out]
  go_wp2_with fail
  refine (stepvalid_any _ m us ad W1 (HV.out.ext HX.out) hM).mono ?_
  rintro e w2 ⟨rfl, hx2⟩
  have HY := hid (HX.out.step hx2)
  clear f0 f1 f2 hx2
  go_wp2
  go_ret2
  exact ⟨rfl, HY.out⟩
set_option maxRecDepth 100000 in
set_option maxHeartbeats 3200000 in
theorem rregular_any (v : Value) (m : Int) (us ad : List Int) (w : World) (hv : MapV w v m us ad) (hM : Hid (mapP m us ad)) :
    Calls Tryz.prog 47 #[v] w (fun e w' => e = .returned (.bool (regB m us)) ∧ Ext w w') := by
  obtain ⟨A, n, cc, B, n2, d, rfl, h1, h2, h3, h4, h5, h6, h7, h9⟩ := hv
  have HMB := hid (show 2 ≤ m ∧ m ≤ 12 from ⟨hM.out.1, hM.out.2.1⟩)
  have HNM : Hid ((n : Int) = m) := hid (by have := hM.out.2.2.1; omega)
  obtain ⟨r, hr⟩ : ∃ r, regB m us = r := ⟨_, rfl⟩
  rw [hr]
  have HRB := hid hr
  have hx : Ext w (w.alloc (.cells #[.int .i64 m, .slice A n cc, .slice B n2 d] 24)) := (Ext.rfl' w).alloc' _
  have hrw : Row (w.alloc (.cells #[.int .i64 m, .slice A n cc, .slice B n2 d] 24)) w.heap.size 24 [.int .i64 m, .slice A n cc, .slice B n2 d] := Row.new w _ _
  obtain ⟨W1, hW1⟩ : ∃ W1, (w.alloc (.cells #[.int .i64 m, .slice A n cc, .slice B n2 d] 24)) = W1 := ⟨_, rfl⟩
  rw [hW1] at hx hrw
  have HX := hid hx
  have HR := hid hrw
  have HW1 := hid hW1
  have HA := hid (h5.ext hx)
  have HL := hid h1
  clear hW1 hx hrw h5 h6 h1 h3 hr
  go_enter Tryz.func47, Tryz.ntmps47
  go_upto_region 1 with fail
  rw [HW1.out]
  go_wp2_with fail
  go_loopw [3] (fun iz wr => ∃ j : Nat, j ≤ n ∧ iz = .int .i64 (j : Int) ∧ Hid (∀ i, i < j → Nat.gcd (us.getD i 0).natAbs m.natAbs ≤ 1) ∧ Ext W1 wr) (fun iz _ => n - (intOf iz).toNat)
  case atStart => exact ⟨0, by omega, rfl, hid (fun i hi => by omega), Ext.rfl' _⟩
  case round =>
    obtain ⟨j, hj, rfl, HALL, hex⟩ := hrel
    have HEX := hid hex
    have HEW := hid (HX.out.step hex)
    obtain ⟨f0, f1, f2, -, -, -⟩ := row_facts3 (HR.out.ext HEX.out)
    clear hex
    by_cases hlt : j < n
    · obtain ⟨b1, o1, e1, -, hc1⟩ := (HA.out.ext HEX.out).atI (k := j) (by rw [HL.out]; exact hlt)
      subst e1
      have hrule := hM.out.2.2.2.2 j (by rw [HL.out]; exact hlt)
      obtain ⟨u, hu⟩ : ∃ u, us.getD j 0 = u := ⟨_, rfl⟩
      rw [hu] at hc1 hrule
      have HU := hid hu
      have HRU := hid (show 1 ≤ u ∧ u ≤ 999 from ⟨hrule.1, hrule.2.1⟩)
      have HCELL : Hid (∀ W', Ext wr W' → W'.cell? ⟨w.heap.size, 0, none⟩ = some (.int .i64 m) ∧ W'.cell? ⟨w.heap.size, 1, none⟩ = some (.slice (some ⟨b1, o1, none⟩) n cc) ∧ W'.cell? ⟨b1, o1 + j, none⟩ = some (.int .i64 u)) := hid (fun W' e => by
        obtain ⟨p0, p1, -, -, -, -⟩ := row_facts3 (HR.out.ext (HEX.out.step e))
        obtain ⟨b2, o2, e2, -, hc2⟩ := (HA.out.ext (HEX.out.step e)).atI (k := j) (by rw [HL.out]; exact hlt)
        cases e2
        rw [HU.out] at hc2
        exact ⟨p0, p1, hc2⟩)
      have hcur : Ext wr wr := Ext.rfl' _
      clear hu hrule hc1
      have hjn : (j : Int) < (n : Int) := by omega
      have hjm : (j : Int) < m := by have := HNM.out; omega
      have hj0 : (0 : Int) ≤ (j : Int) := by omega
      obtain ⟨gb, hgb⟩ : ∃ gb, decide (Nat.gcd u.natAbs m.natAbs ≤ 1) = gb := ⟨_, rfl⟩
      have HGB := hid hgb
      clear hgb
      go_wp2_with fail
      go_region_held3 (fun W' => W'.cell? ⟨w.heap.size, 0, none⟩ = some (.int .i64 m) ∧ W'.cell? ⟨w.heap.size, 1, none⟩ = some (.slice (some ⟨b1, o1, none⟩) n cc) ∧ W'.cell? ⟨b1, o1 + j, none⟩ = some (.int .i64 u))
        (first | exact HCELL.out _ hcur | exact HCELL.out _ hcur.drew' | exact HCELL.out _ (hcur.alloc' _) | exact HCELL.out _ (hcur.drew'.alloc' _) | exact HCELL.out _ ((hcur.set' HB2.out.1 _).set' HB2.out.1 _) | go_keep)
        (first
          | (go_at_call 83; refine (prime_int u m _ (by have := HRU.out; omega) (by have := HRU.out; omega) (by have := HMB.out; omega) (by have := HMB.out; omega)).mono ?_; rintro e w5 ⟨rfl, hx⟩; rw [HGB.out]; have hcur := Ext.step hcur (by first | exact hx | exact Ext.undrew hx | exact Ext.step ((Ext.rfl' _).alloc' _) hx | exact Ext.step ((Ext.rfl' _).drew'.alloc' _) hx)))
      all_goals
        have HX5 := hid (HEX.out.step hcur)
        have HW5 := hid (HEW.out.step hcur)
        clear f0 f1 f2 hcur
        cases gb with
        | true =>
          have HNX : Hid (∀ i, i < j + 1 → Nat.gcd (us.getD i 0).natAbs m.natAbs ≤ 1) := hid (fun i hi => by
            rcases Nat.lt_or_ge i j with h | h
            · exact HALL.out i h
            · obtain rfl : i = j := by omega
              rw [HU.out]; exact of_decide_eq_true HGB.out)
          go_wp2
          go_roundw
          case rel => exact ⟨j + 1, by omega, by simp, HNX, HX5.out⟩
          case measure => first | (simp [intOf]; done) | (simp [intOf]; omega)
        | false =>
          have HF : Hid (r = false) := hid (by rw [← HRB.out]; exact regB_no (j := j) (by rw [HL.out]; exact hlt) (by rw [HU.out]; exact of_decide_eq_false HGB.out))
          go_wp2
          go_ret
          exact ⟨by rw [HF.out]; rfl, HW5.out⟩
    · obtain rfl : j = n := by omega
      have hjm : ¬ (j : Int) < m := by have := HNM.out; omega
      have HF : Hid (r = true) := hid (by rw [← HRB.out]; exact regB_yes (fun i hi => HALL.out i (by rw [HL.out] at hi; exact hi)))
      go_wp2
      go_ret
      exact ⟨by rw [HF.out]; rfl, HEW.out⟩
end Go.Proofs.YtflgkijmbpcnfaaGreatDoor
/- num.Sub, num.Gcd by contract -/
namespace Go.Proofs.YtflgkijmbpcnfaaGreatDoor
open Go.RowKit
theorem gcd_le {a b c : Nat} (ha : a ≤ c) (hb : b ≤ c) : Nat.gcd a b ≤ c := by
  rcases Nat.eq_zero_or_pos a with h | h
  · subst h; rw [Nat.gcd_zero_left]; exact hb
  · exact Nat.le_trans (Nat.gcd_le_left b h) ha
set_option maxRecDepth 100000 in
theorem sub_ok (l1 l2 : List UInt8) (w : World) (h1 : l1.length ≤ 140737488351232) (h2 : l2.length ≤ 140737488351232) (v1 : K.validL l1 = true) (v2 : K.validL l2 = true) (ht : Tab w) :
    Calls Tryz.prog 117 #[.string (Str l1), .string (Str l2)] w (ToldPost (K.numL l1 - K.numL l2) w) := by
  have f1 := fits_top (K.txt_numL l1 v1).2
  have f2 := fits_top (K.txt_numL l2 v2).2
  have g1 := fits_big (K.txt_numL l1 v1).2
  have g2 := fits_big (K.txt_numL l2 v2).2
  have hc := combine_ok 135 (enter_of Tryz.func135 (by kernel_rfl) (by kernel_rfl)) (K.numL l1 - K.numL l2) l1 l2 w h1 h2 v1 v2 ht (hid fun W va vb ha hb => nminus_any va vb _ _ W ha hb g1 g2) (by refine le_big (a := 224) ?_ (by omega); rw [show (224 : Nat) = 223 + 1 from rfl, TOP_add]; have := TOP_pos 223; have : TOP 1 = 1000000000 := rfl; rw [this]; omega)
  have HC := hid hc
  clear hc f1 f2 g1 g2
  go_enter Tryz.func117, Tryz.ntmps117
  go_wp2_with fail
  refine HC.out.mono ?_
  intro e w1 hq
  by_cases hf : K.fits (K.numL l1 - K.numL l2)
  · have he := hq.1 hf
    subst he
    go_wp2
    go_ret2
    exact hq
  · have he := hq.2.1 hf
    subst he
    go_wp2
    go_ret2
    exact hq
set_option maxRecDepth 100000 in
theorem sub_bad (l1 l2 : List UInt8) (w : World) (h1 : l1.length ≤ 140737488351232) (h2 : l2.length ≤ 140737488351232) (v : K.validL l1 = false ∨ K.validL l2 = false) :
    Calls Tryz.prog 117 #[.string (Str l1), .string (Str l2)] w (BadStr w) := by
  go_enter Tryz.func117, Tryz.ntmps117
  go_wp2_with fail
  refine (combine_bad _ l1 l2 w h1 h2 v).mono ?_
  rintro e w1 ⟨rfl, hx⟩
  go_wp2
  go_ret2
  exact ⟨rfl, hx⟩
end Go.Proofs.YtflgkijmbpcnfaaGreatDoor
/- the reckoner of package word -/
namespace Go.Proofs.YtflgkijmbpcnfaaGreatDoor
open Go.RowKit
theorem Row.same {w : World} {g : Nat} {t : TypeId} {v : Value} (h : Row w g t [v]) : Ext w (w.setCell ⟨g, 0, none⟩ v) := by
  refine ⟨rfl, rfl, rfl, by rw [World.size_setCell]; exact Nat.le_refl _, fun j hj => ?_⟩
  by_cases e : j = g
  · subst e
    exact (h.set 0 v : Row _ _ _ [v]).trans h.symm
  · exact Below.heap_setCell w ⟨g, 0, none⟩ v j (by show j ≠ g; exact e)
def NoteW (g : Nat) (f c : Int) (w : World) : World := if f = 0 then w.setCell ⟨g, 0, none⟩ (.int .i64 c) else w
set_option maxRecDepth 100000 in
set_option maxHeartbeats 800000 in
theorem note_any (g : Nat) (s : ByteArray) (c f : Int) (w : World) (hr : Row w g 107 [.int .i64 f]) :
    Calls Tryz.prog 95 #[.pointer (some ⟨g, 0, none⟩), .string s, .int .i64 c] w (fun e w' => e = .returned (.string s) ∧ w' = NoteW g f c w) := by
  have c0 : w.cell? ⟨g, 0, none⟩ = some (.int .i64 f) := hr.cell 0
  have f0 := hr.free 0
  by_cases h : f = 0
  · subst h
    go_enter Tryz.func95, Tryz.ntmps95
    go_wp2
    go_ret
    exact ⟨rfl, rfl⟩
  · have hf : (f == 0) = false := by rw [beq_eq_false_iff_ne]; exact h
    have HN : Hid (NoteW g f c w = w) := hid (if_neg h)
    go_enter Tryz.func95, Tryz.ntmps95
    go_wp2
    go_ret
    exact ⟨rfl, HN.out.symm⟩
/-- what an operation of the reckoner leaves -/
def RecGen (r : Int) (f : Int) (g : Nat) (w0 : World) (e : Ending) (w' : World) : Prop :=
  ∃ (l : List UInt8) (f' : Int), e = .returned (.string (Str l)) ∧ Row w' g 107 [.int .i64 f'] ∧ (f' = 0 ∨ f' = 3) ∧ Hid (l.length ≤ 2001 ∧ (f = 0 → (K.fits r → f' = 0 ∧ l = K.txt r) ∧ (¬ K.fits r → f' = 3)) ∧ (f = 3 → f' = 3)) ∧ Ext w0 w'
def RecOk (r : Int) (w : World) (e : Ending) (w' : World) : Prop := e = .returned (.string (Str (K.txt r))) ∧ Ext w w'
theorem NoteW.row {g : Nat} {f c : Int} {w : World} (hr : Row w g 107 [.int .i64 f]) : Row (NoteW g f c w) g 107 [.int .i64 (if f = 0 then c else f)] := by
  unfold NoteW
  by_cases h : f = 0
  · rw [if_pos h, if_pos h]; exact hr.set 0 _
  · rw [if_neg h, if_neg h]; exact hr
theorem NoteW.ext {g : Nat} {f c : Int} {w w0 : World} (e : Ext w0 w) (hg : w0.heap.size ≤ g) : Ext w0 (NoteW g f c w) := by
  unfold NoteW
  by_cases h : f = 0
  · rw [if_pos h]; exact e.set' (by show _ ≤ g; exact hg) _
  · rw [if_neg h]; exact e
set_option maxRecDepth 100000 in
set_option maxHeartbeats 800000 in
theorem times_call (g : Nat) (a b : List UInt8) (f : Int) (w : World) (hr : Row w g 107 [.int .i64 f]) (s : ByteArray) (c : Int) {Q : World → Prop} (hc : Hid (Calls Tryz.prog 96 #[.string (Str a), .string (Str b)] w (fun e w' => e = .returned (.tuple #[.string s, .int .i64 c]) ∧ Ext w w'))) :
    Calls Tryz.prog 75 #[.pointer (some ⟨g, 0, none⟩), .string (Str a), .string (Str b)] w (fun e w' => e = .returned (.string s) ∧ ∃ w1, Ext w w1 ∧ w' = NoteW g f c w1) := by
  have HR := hid hr
  clear hr
  go_enter Tryz.func75, Tryz.ntmps75
  go_wp2_with fail
  refine hc.out.mono ?_
  rintro e w1 ⟨rfl, hx1⟩
  have HX := hid hx1
  clear hx1
  go_wp2_with fail
  refine (note_any g s c f w1 (HR.out.ext HX.out)).mono ?_
  rintro e w2 ⟨rfl, rfl⟩
  go_wp2
  go_ret
  exact ⟨rfl, w1, HX.out, rfl⟩
theorem times_ok (g : Nat) (a b : List UInt8) (w : World) (hr : Row w g 107 [.int .i64 0]) (va : K.validL a = true) (vb : K.validL b = true) (hf : K.fits (K.numL a * K.numL b)) (ht : Tab w) :
    Calls Tryz.prog 75 #[.pointer (some ⟨g, 0, none⟩), .string (Str a), .string (Str b)] w (RecOk (K.numL a * K.numL b) w) := by
  refine (times_call (Q := fun _ => True) g a b 0 w hr (Str (K.txt (K.numL a * K.numL b))) 0 (hid ((mul_ok a b w (len_of (valid_len va)) (len_of (valid_len vb)) va vb ht).mono fun e w' h => ⟨h.1 hf, h.2.2⟩))).mono ?_
  rintro e w' ⟨rfl, w1, hx, rfl⟩
  exact ⟨rfl, hx.step (by unfold NoteW; rw [if_pos rfl]; exact (hr.ext hx).same)⟩
theorem times_gen (g : Nat) (a b : List UInt8) (f : Int) (w0 w : World) (he : Ext w0 w) (hg : w0.heap.size ≤ g) (hr : Row w g 107 [.int .i64 f]) (hf : f = 0 ∨ f = 3) (la : a.length ≤ 2001) (lb : b.length ≤ 2001) (hv : Hid (f = 0 → K.validL a = true ∧ K.validL b = true)) (ht : Tab w) :
    Calls Tryz.prog 75 #[.pointer (some ⟨g, 0, none⟩), .string (Str a), .string (Str b)] w (RecGen (K.numL a * K.numL b) f g w0) := by
  have main : ∀ (l : List UInt8) (c : Int), Calls Tryz.prog 96 #[.string (Str a), .string (Str b)] w (fun e w' => e = .returned (.tuple #[.string (Str l), .int .i64 c]) ∧ Ext w w') →
      l.length ≤ 2001 → ((if f = 0 then c else f) = 0 ∨ (if f = 0 then c else f) = 3) → (f = 0 → (K.fits (K.numL a * K.numL b) → c = 0 ∧ l = K.txt (K.numL a * K.numL b)) ∧ (¬ K.fits (K.numL a * K.numL b) → c = 3)) →
      Calls Tryz.prog 75 #[.pointer (some ⟨g, 0, none⟩), .string (Str a), .string (Str b)] w (RecGen (K.numL a * K.numL b) f g w0) := by
    intro l c hc hl h3 h0
    refine (times_call (Q := fun _ => True) g a b f w hr (Str l) c (hid hc)).mono ?_
    rintro e w' ⟨rfl, w1, hx, rfl⟩
    refine ⟨l, _, rfl, NoteW.row (hr.ext hx), h3, hid ⟨hl, fun hz => ?_, fun hz => ?_⟩, NoteW.ext (he.step hx) hg⟩
    · rw [if_pos hz]; exact h0 hz
    · rw [if_neg (by omega)]; exact hz
  by_cases hval : K.validL a = true ∧ K.validL b = true
  · by_cases hfit : K.fits (K.numL a * K.numL b)
    · refine main (K.txt (K.numL a * K.numL b)) 0 ((mul_ok a b w (len_of la) (len_of lb) hval.1 hval.2 ht).mono fun e w' h => ⟨h.1 hfit, h.2.2⟩) (K.txt_len _ hfit) ?_ (fun _ => ⟨fun _ => ⟨rfl, rfl⟩, fun h => absurd hfit h⟩)
      split
      · exact .inl rfl
      · exact hf
    · refine main [] 3 ((mul_ok a b w (len_of la) (len_of lb) hval.1 hval.2 ht).mono fun e w' h => ⟨h.2.1 hfit, h.2.2⟩) (by simp) ?_ (fun _ => ⟨fun h => absurd h hfit, fun _ => rfl⟩)
      split
      · exact .inr rfl
      · exact hf
  · have hf0 : f ≠ 0 := fun e => hval (hv.out e)
    have hbad : K.validL a = false ∨ K.validL b = false := by
      cases h1 : K.validL a
      · exact .inl rfl
      · cases h2 : K.validL b
        · exact .inr rfl
        · exact absurd ⟨h1, h2⟩ hval
    refine main [] 1 ((mul_bad a b w (len_of la) (len_of lb) hbad).mono fun e w' h => h) (by simp) ?_ (fun e => absurd e hf0)
    rw [if_neg hf0]; exact hf
set_option maxRecDepth 100000 in
set_option maxHeartbeats 800000 in
theorem plus_call (g : Nat) (a b : List UInt8) (f : Int) (w : World) (hr : Row w g 107 [.int .i64 f]) (s : ByteArray) (c : Int) {Q : World → Prop} (hc : Hid (Calls Tryz.prog 97 #[.string (Str a), .string (Str b)] w (fun e w' => e = .returned (.tuple #[.string s, .int .i64 c]) ∧ Ext w w'))) :
    Calls Tryz.prog 76 #[.pointer (some ⟨g, 0, none⟩), .string (Str a), .string (Str b)] w (fun e w' => e = .returned (.string s) ∧ ∃ w1, Ext w w1 ∧ w' = NoteW g f c w1) := by
  have HR := hid hr
  clear hr
  go_enter Tryz.func76, Tryz.ntmps76
  go_wp2_with fail
  refine hc.out.mono ?_
  rintro e w1 ⟨rfl, hx1⟩
  have HX := hid hx1
  clear hx1
  go_wp2_with fail
  refine (note_any g s c f w1 (HR.out.ext HX.out)).mono ?_
  rintro e w2 ⟨rfl, rfl⟩
  go_wp2
  go_ret
  exact ⟨rfl, w1, HX.out, rfl⟩
theorem plus_ok (g : Nat) (a b : List UInt8) (w : World) (hr : Row w g 107 [.int .i64 0]) (va : K.validL a = true) (vb : K.validL b = true) (hf : K.fits (K.numL a + K.numL b)) (ht : Tab w) :
    Calls Tryz.prog 76 #[.pointer (some ⟨g, 0, none⟩), .string (Str a), .string (Str b)] w (RecOk (K.numL a + K.numL b) w) := by
  refine (plus_call (Q := fun _ => True) g a b 0 w hr (Str (K.txt (K.numL a + K.numL b))) 0 (hid ((add_ok a b w (len_of (valid_len va)) (len_of (valid_len vb)) va vb ht).mono fun e w' h => ⟨h.1 hf, h.2.2⟩))).mono ?_
  rintro e w' ⟨rfl, w1, hx, rfl⟩
  exact ⟨rfl, hx.step (by unfold NoteW; rw [if_pos rfl]; exact (hr.ext hx).same)⟩
theorem plus_gen (g : Nat) (a b : List UInt8) (f : Int) (w0 w : World) (he : Ext w0 w) (hg : w0.heap.size ≤ g) (hr : Row w g 107 [.int .i64 f]) (hf : f = 0 ∨ f = 3) (la : a.length ≤ 2001) (lb : b.length ≤ 2001) (hv : Hid (f = 0 → K.validL a = true ∧ K.validL b = true)) (ht : Tab w) :
    Calls Tryz.prog 76 #[.pointer (some ⟨g, 0, none⟩), .string (Str a), .string (Str b)] w (RecGen (K.numL a + K.numL b) f g w0) := by
  have main : ∀ (l : List UInt8) (c : Int), Calls Tryz.prog 97 #[.string (Str a), .string (Str b)] w (fun e w' => e = .returned (.tuple #[.string (Str l), .int .i64 c]) ∧ Ext w w') →
      l.length ≤ 2001 → ((if f = 0 then c else f) = 0 ∨ (if f = 0 then c else f) = 3) → (f = 0 → (K.fits (K.numL a + K.numL b) → c = 0 ∧ l = K.txt (K.numL a + K.numL b)) ∧ (¬ K.fits (K.numL a + K.numL b) → c = 3)) →
      Calls Tryz.prog 76 #[.pointer (some ⟨g, 0, none⟩), .string (Str a), .string (Str b)] w (RecGen (K.numL a + K.numL b) f g w0) := by
    intro l c hc hl h3 h0
    refine (plus_call (Q := fun _ => True) g a b f w hr (Str l) c (hid hc)).mono ?_
    rintro e w' ⟨rfl, w1, hx, rfl⟩
    refine ⟨l, _, rfl, NoteW.row (hr.ext hx), h3, hid ⟨hl, fun hz => ?_, fun hz => ?_⟩, NoteW.ext (he.step hx) hg⟩
    · rw [if_pos hz]; exact h0 hz
    · rw [if_neg (by omega)]; exact hz
  by_cases hval : K.validL a = true ∧ K.validL b = true
  · by_cases hfit : K.fits (K.numL a + K.numL b)
    · refine main (K.txt (K.numL a + K.numL b)) 0 ((add_ok a b w (len_of la) (len_of lb) hval.1 hval.2 ht).mono fun e w' h => ⟨h.1 hfit, h.2.2⟩) (K.txt_len _ hfit) ?_ (fun _ => ⟨fun _ => ⟨rfl, rfl⟩, fun h => absurd hfit h⟩)
      split
      · exact .inl rfl
      · exact hf
    · refine main [] 3 ((add_ok a b w (len_of la) (len_of lb) hval.1 hval.2 ht).mono fun e w' h => ⟨h.2.1 hfit, h.2.2⟩) (by simp) ?_ (fun _ => ⟨fun h => absurd h hfit, fun _ => rfl⟩)
      split
      · exact .inr rfl
      · exact hf
  · have hf0 : f ≠ 0 := fun e => hval (hv.out e)
    have hbad : K.validL a = false ∨ K.validL b = false := by
      cases h1 : K.validL a
      · exact .inl rfl
      · cases h2 : K.validL b
        · exact .inr rfl
        · exact absurd ⟨h1, h2⟩ hval
    refine main [] 1 ((add_bad a b w (len_of la) (len_of lb) hbad).mono fun e w' h => h) (by simp) ?_ (fun e => absurd e hf0)
    rw [if_neg hf0]; exact hf
set_option maxRecDepth 100000 in
set_option maxHeartbeats 800000 in
theorem minus_call (g : Nat) (a b : List UInt8) (f : Int) (w : World) (hr : Row w g 107 [.int .i64 f]) (s : ByteArray) (c : Int) {Q : World → Prop} (hc : Hid (Calls Tryz.prog 117 #[.string (Str a), .string (Str b)] w (fun e w' => e = .returned (.tuple #[.string s, .int .i64 c]) ∧ Ext w w'))) :
    Calls Tryz.prog 102 #[.pointer (some ⟨g, 0, none⟩), .string (Str a), .string (Str b)] w (fun e w' => e = .returned (.string s) ∧ ∃ w1, Ext w w1 ∧ w' = NoteW g f c w1) := by
  have HR := hid hr
  clear hr
  go_enter Tryz.func102, Tryz.ntmps102
  go_wp2_with fail
  refine hc.out.mono ?_
  rintro e w1 ⟨rfl, hx1⟩
  have HX := hid hx1
  clear hx1
  go_wp2_with fail
  refine (note_any g s c f w1 (HR.out.ext HX.out)).mono ?_
  rintro e w2 ⟨rfl, rfl⟩
  go_wp2
  go_ret
  exact ⟨rfl, w1, HX.out, rfl⟩
theorem minus_ok (g : Nat) (a b : List UInt8) (w : World) (hr : Row w g 107 [.int .i64 0]) (va : K.validL a = true) (vb : K.validL b = true) (hf : K.fits (K.numL a - K.numL b)) (ht : Tab w) :
    Calls Tryz.prog 102 #[.pointer (some ⟨g, 0, none⟩), .string (Str a), .string (Str b)] w (RecOk (K.numL a - K.numL b) w) := by
  refine (minus_call (Q := fun _ => True) g a b 0 w hr (Str (K.txt (K.numL a - K.numL b))) 0 (hid ((sub_ok a b w (len_of (valid_len va)) (len_of (valid_len vb)) va vb ht).mono fun e w' h => ⟨h.1 hf, h.2.2⟩))).mono ?_
  rintro e w' ⟨rfl, w1, hx, rfl⟩
  exact ⟨rfl, hx.step (by unfold NoteW; rw [if_pos rfl]; exact (hr.ext hx).same)⟩
theorem minus_gen (g : Nat) (a b : List UInt8) (f : Int) (w0 w : World) (he : Ext w0 w) (hg : w0.heap.size ≤ g) (hr : Row w g 107 [.int .i64 f]) (hf : f = 0 ∨ f = 3) (la : a.length ≤ 2001) (lb : b.length ≤ 2001) (hv : Hid (f = 0 → K.validL a = true ∧ K.validL b = true)) (ht : Tab w) :
    Calls Tryz.prog 102 #[.pointer (some ⟨g, 0, none⟩), .string (Str a), .string (Str b)] w (RecGen (K.numL a - K.numL b) f g w0) := by
  have main : ∀ (l : List UInt8) (c : Int), Calls Tryz.prog 117 #[.string (Str a), .string (Str b)] w (fun e w' => e = .returned (.tuple #[.string (Str l), .int .i64 c]) ∧ Ext w w') →
      l.length ≤ 2001 → ((if f = 0 then c else f) = 0 ∨ (if f = 0 then c else f) = 3) → (f = 0 → (K.fits (K.numL a - K.numL b) → c = 0 ∧ l = K.txt (K.numL a - K.numL b)) ∧ (¬ K.fits (K.numL a - K.numL b) → c = 3)) →
      Calls Tryz.prog 102 #[.pointer (some ⟨g, 0, none⟩), .string (Str a), .string (Str b)] w (RecGen (K.numL a - K.numL b) f g w0) := by
    intro l c hc hl h3 h0
    refine (minus_call (Q := fun _ => True) g a b f w hr (Str l) c (hid hc)).mono ?_
    rintro e w' ⟨rfl, w1, hx, rfl⟩
    refine ⟨l, _, rfl, NoteW.row (hr.ext hx), h3, hid ⟨hl, fun hz => ?_, fun hz => ?_⟩, NoteW.ext (he.step hx) hg⟩
    · rw [if_pos hz]; exact h0 hz
    · rw [if_neg (by omega)]; exact hz
  by_cases hval : K.validL a = true ∧ K.validL b = true
  · by_cases hfit : K.fits (K.numL a - K.numL b)
    · refine main (K.txt (K.numL a - K.numL b)) 0 ((sub_ok a b w (len_of la) (len_of lb) hval.1 hval.2 ht).mono fun e w' h => ⟨h.1 hfit, h.2.2⟩) (K.txt_len _ hfit) ?_ (fun _ => ⟨fun _ => ⟨rfl, rfl⟩, fun h => absurd hfit h⟩)
      split
      · exact .inl rfl
      · exact hf
    · refine main [] 3 ((sub_ok a b w (len_of la) (len_of lb) hval.1 hval.2 ht).mono fun e w' h => ⟨h.2.1 hfit, h.2.2⟩) (by simp) ?_ (fun _ => ⟨fun h => absurd h hfit, fun _ => rfl⟩)
      split
      · exact .inr rfl
      · exact hf
  · have hf0 : f ≠ 0 := fun e => hval (hv.out e)
    have hbad : K.validL a = false ∨ K.validL b = false := by
      cases h1 : K.validL a
      · exact .inl rfl
      · cases h2 : K.validL b
        · exact .inr rfl
        · exact absurd ⟨h1, h2⟩ hval
    refine main [] 1 ((sub_bad a b w (len_of la) (len_of lb) hbad).mono fun e w' h => h) (by simp) ?_ (fun e => absurd e hf0)
    rw [if_neg hf0]; exact hf
end Go.Proofs.YtflgkijmbpcnfaaGreatDoor
/- words and their linear maps: plain mathematics; word.check -/
namespace Go.Proofs.YtflgkijmbpcnfaaGreatDoor
open Go.RowKit
/-- a word of a map -/
def wordB (m : Int) (ws : List Int) : Bool := decide (ws.length ≤ 200) && ws.all fun r => decide (0 ≤ r ∧ r < m)
theorem wordB_iff {m : Int} {ws : List Int} : wordB m ws = true ↔ ws.length ≤ 200 ∧ ∀ r ∈ ws, 0 ≤ r ∧ r < m := by
  unfold wordB; simp
/-- the linear map of a word and one rest more -/
def thenL (m : Int) (us ad : List Int) (l : Int × Int × Int) (r : Int) : Int × Int × Int := (us.getD r.toNat 0 * l.1, us.getD r.toNat 0 * l.2.1 + ad.getD r.toNat 0 * l.2.2, l.2.2 * m)
def lineI (m : Int) (us ad : List Int) (ws : List Int) : Int × Int × Int := ws.foldl (thenL m us ad) (1, 0, 1)
theorem lineI_snoc (m : Int) (us ad : List Int) (ws : List Int) (r : Int) : lineI m us ad (ws ++ [r]) = thenL m us ad (lineI m us ad ws) r := by
  unfold lineI; rw [List.foldl_append]; rfl
theorem rule_of {m : Int} {us ad : List Int} (h : mapP m us ad) {r : Int} (h0 : 0 ≤ r) (h1 : r < m) : 1 ≤ us.getD r.toNat 0 ∧ us.getD r.toNat 0 ≤ 999 ∧ -999999 ≤ ad.getD r.toNat 0 ∧ ad.getD r.toNat 0 ≤ 999999 ∧ r.toNat < us.length ∧ r.toNat < ad.length := by
  have l1 : r.toNat < us.length := by have := h.2.2.1; omega
  have l2 : r.toNat < ad.length := by have := h.2.2.2.1; omega
  have hh := h.2.2.2.2 _ l1
  exact ⟨hh.1, hh.2.1, hh.2.2.1, hh.2.2.2.1, l1, l2⟩
/-- the numbers of a word's linear map are small -/
def LineB (k : Nat) (l : Int × Int × Int) : Prop := l.1.natAbs ≤ 1000 ^ k ∧ l.2.2.natAbs ≤ 1000 ^ k ∧ l.2.1.natAbs ≤ k * 1000000 * 1000 ^ k ∧ 1 ≤ l.2.2
theorem LineB.next {m : Int} {us ad : List Int} (hM : mapP m us ad) {k : Nat} {l : Int × Int × Int} (h : LineB k l) {r : Int} (h0 : 0 ≤ r) (h1 : r < m) : LineB (k + 1) (thenL m us ad l r) := by
  obtain ⟨u1, u2, a1, a2, -, -⟩ := rule_of hM h0 h1
  obtain ⟨b1, b2, b3, b4⟩ := h
  have hm1 := hM.1
  have hm2 := hM.2.1
  unfold thenL
  generalize us.getD r.toNat 0 = u at *
  generalize ad.getD r.toNat 0 = a at *
  obtain ⟨x, y, z⟩ := l
  simp only at b1 b2 b3 b4 ⊢
  have hp : 1000 ^ (k + 1) = 1000 * 1000 ^ k := by rw [Nat.pow_succ, Nat.mul_comm]
  generalize hP : 1000 ^ k = P at *
  have e1 : (u * x).natAbs ≤ 999 * P := by rw [Int.natAbs_mul]; exact Nat.mul_le_mul (by omega) b1
  have e2 : (z * m).natAbs ≤ P * 12 := by rw [Int.natAbs_mul]; exact Nat.mul_le_mul b2 (by omega)
  have e3 : (u * y).natAbs ≤ 999 * (k * 1000000 * P) := by rw [Int.natAbs_mul]; exact Nat.mul_le_mul (by omega) b3
  have e4 : (a * z).natAbs ≤ 999999 * P := by rw [Int.natAbs_mul]; exact Nat.mul_le_mul (by omega) b2
  have e5 : (u * y + a * z).natAbs ≤ (u * y).natAbs + (a * z).natAbs := Int.natAbs_add_le _ _
  refine ⟨by show (u * x).natAbs ≤ _; rw [hp]; omega, by show (z * m).natAbs ≤ _; rw [hp]; omega, ?_, ?_⟩
  · show (u * y + a * z).natAbs ≤ _
    rw [hp]
    have e6 : (k + 1) * 1000000 * (1000 * P) = 1000 * (k * 1000000 * P) + 1000000 * (1000 * P) := by
      rw [Nat.add_mul, Nat.add_mul, Nat.one_mul]
      congr 1
      rw [Nat.mul_left_comm]
    rw [e6]
    obtain ⟨R, hR⟩ : ∃ R, k * 1000000 * P = R := ⟨_, rfl⟩
    rw [hR] at e3 ⊢
    clear e6 hR b3 hP hp
    omega
  · show 1 ≤ z * m
    have : 1 * 1 ≤ z * m := Int.mul_le_mul b4 (by omega) (by omega) (by omega)
    omega
theorem LineB.zero : LineB 0 (1, 0, 1) := ⟨by simp, by simp, by simp, by simp⟩
theorem lineI_B {m : Int} {us ad : List Int} (hM : mapP m us ad) (ws : List Int) (hw : ∀ r ∈ ws, 0 ≤ r ∧ r < m) : LineB ws.length (lineI m us ad ws) := by
  obtain ⟨k, hk⟩ : ∃ k, ws.length = k := ⟨_, rfl⟩
  rw [hk]
  induction k generalizing ws with
  | zero => rw [List.eq_nil_of_length_eq_zero hk]; exact LineB.zero
  | succ k ih =>
    rcases List.eq_nil_or_concat ws with rfl | ⟨p, r, rfl⟩
    · simp at hk
    · rw [List.concat_eq_append] at *
      rw [lineI_snoc]
      have hr := hw r (by simp)
      exact (ih p (fun x hx => hw x (by simp [hx])) (by simpa using hk)).next hM hr.1 hr.2
theorem thousand_pw (k : Nat) : 1000 ^ k = K.pw (3 * k) := by
  unfold K.pw; rw [Nat.pow_mul]
theorem fits_pw {x : Int} {a b : Nat} (h : x.natAbs ≤ a * K.pw b) (ha : a < K.pw 12) (hb : b ≤ 1900) : K.fits x := by
  have h1 : a * K.pw b < K.pw 12 * K.pw b := Nat.mul_lt_mul_of_pos_right ha (K.pw_pos b)
  have h2 : K.pw 12 * K.pw b = K.pw (12 + b) := (Nat.pow_add 10 12 b).symm
  have h3 : K.pw (12 + b) ≤ K.pw 2000 := K.pw_mono (by omega)
  show x.natAbs < K.LIM
  unfold K.LIM
  omega
theorem pw12 : K.pw 12 = 1000000000000 := by decide
/-- all numbers that are met on the way of a line fit -/
theorem LineB.fits {m : Int} {us ad : List Int} (hM : mapP m us ad) {k : Nat} {l : Int × Int × Int} (h : LineB k l) (hk : k ≤ 200) {r : Int} (h0 : 0 ≤ r) (h1 : r < m) :
    K.fits l.1 ∧ K.fits l.2.1 ∧ K.fits l.2.2 ∧ K.fits (l.1 * us.getD r.toNat 0) ∧ K.fits (l.2.1 * us.getD r.toNat 0) ∧ K.fits (ad.getD r.toNat 0 * l.2.2) ∧ K.fits (l.2.1 * us.getD r.toNat 0 + ad.getD r.toNat 0 * l.2.2) ∧ K.fits (l.2.2 * m) := by
  obtain ⟨u1, u2, a1, a2, -, -⟩ := rule_of hM h0 h1
  have hn := LineB.next hM h h0 h1
  obtain ⟨b1, b2, b3, b4⟩ := h
  obtain ⟨n1, n2, n3, n4⟩ := hn
  have hm1 := hM.1
  have hm2 := hM.2.1
  unfold thenL at n1 n2 n3 n4
  simp only at n1 n2 n3 n4
  rw [show us.getD r.toNat 0 * l.2.1 = l.2.1 * us.getD r.toNat 0 from Int.mul_comm _ _] at n3
  generalize us.getD r.toNat 0 = u at *
  generalize ad.getD r.toNat 0 = a at *
  obtain ⟨x, y, z⟩ := l
  simp only at *
  rw [thousand_pw] at *
  have e1 : (x * u).natAbs ≤ 999 * K.pw (3 * k) := by rw [Int.mul_comm, Int.natAbs_mul]; exact Nat.mul_le_mul (by omega) b1
  have e3 : (y * u).natAbs ≤ 999 * (k * 1000000 * K.pw (3 * k)) := by rw [Int.mul_comm, Int.natAbs_mul]; exact Nat.mul_le_mul (by omega) b3
  have e4 : (a * z).natAbs ≤ 999999 * K.pw (3 * k) := by rw [Int.natAbs_mul]; exact Nat.mul_le_mul (by omega) b2
  refine ⟨fits_pw (a := 1) (b := 3 * k) (by omega) (by rw [pw12]; omega) (by omega), fits_pw (a := k * 1000000) (b := 3 * k) b3 (by rw [pw12]; omega) (by omega), fits_pw (a := 1) (b := 3 * k) (by omega) (by rw [pw12]; omega) (by omega), fits_pw (a := 999) (b := 3 * k) e1 (by rw [pw12]; omega) (by omega), fits_pw (a := 999 * (k * 1000000)) (b := 3 * k) (by rw [Nat.mul_assoc]; exact e3) (by rw [pw12]; omega) (by omega), fits_pw (a := 999999) (b := 3 * k) e4 (by rw [pw12]; omega) (by omega), fits_pw (a := (k + 1) * 1000000) (b := 3 * (k + 1)) n3 (by rw [pw12]; omega) (by omega), fits_pw (a := 1) (b := 3 * (k + 1)) (by omega) (by rw [pw12]; omega) (by omega)⟩
set_option maxRecDepth 100000 in
set_option maxHeartbeats 1600000 in
theorem wcheck_any (v : Value) (m : Int) (us ad : List Int) (Wd : Option Addr) (wn wc : Nat) (ws : List Int) (w : World) (hv : MapV w v m us ad) (hw : Rd w Wd (Is ws)) (hl : ws.length = wn) (hwb : wn ≤ 140737488351232) {b1 b2 : Bool} (hb1 : Hid (mapB m us ad = b1)) (hb2 : Hid (wordB m ws = b2)) {c : Int} (hc : Hid (c = if b1 = true then (if b2 = true then 0 else 2) else 1)) :
    Calls Tryz.prog 72 #[v, .slice Wd wn wc] w (fun e w' => e = .returned (.int .i64 c) ∧ Ext w w') := by
  have HV := hid hv
  obtain ⟨A, n, cc, B, n2, d, rfl, -⟩ := hv
  have hx : Ext w (w.alloc (.cells #[.int .i64 m, .slice A n cc, .slice B n2 d] 24)) := (Ext.rfl' w).alloc' _
  have hrw : Row (w.alloc (.cells #[.int .i64 m, .slice A n cc, .slice B n2 d] 24)) w.heap.size 24 [.int .i64 m, .slice A n cc, .slice B n2 d] := Row.new w _ _
  obtain ⟨W1, hW1⟩ : ∃ W1, (w.alloc (.cells #[.int .i64 m, .slice A n cc, .slice B n2 d] 24)) = W1 := ⟨_, rfl⟩
  rw [hW1] at hx hrw
  have HX := hid hx
  have HR := hid hrw
  have HW1 := hid hW1
  have HWD := hid (hw.ext hx)
  have HL := hid hl
  have wn63 : wn ≤ 9223372036854775807 := by omega
  obtain ⟨f0, f1, f2, -, -, -⟩ := row_facts3 hrw
  clear hW1 hx hrw hw hl
  cases b1 with
  | false =>
    obtain rfl : c = 1 := hc.out
    go_enter Tryz.func72, Tryz.ntmps72
    go_upto_region 1 with fail
    rw [HW1.out]
    go_wp2_with fail
    refine (stepvalid_any _ m us ad W1 (HV.out.ext HX.out) hb1).mono ?_
    rintro e w2 ⟨rfl, hx2⟩
    have HY := hid (HX.out.step hx2)
    clear f0 f1 f2 hx2
    go_wp2
    go_ret
    exact ⟨rfl, HY.out⟩
  | true =>
    have HC : Hid (c = if b2 = true then 0 else 2) := hid hc.out
    clear hc
    by_cases hlen : wn ≤ 200
    · have hlz : ¬ (200 : Int) < (wn : Int) := by omega
      go_enter Tryz.func72, Tryz.ntmps72
      go_upto_region 1 with fail
      rw [HW1.out]
      go_wp2_with fail
      refine (stepvalid_any _ m us ad W1 (HV.out.ext HX.out) hb1).mono ?_
      rintro e w2 ⟨rfl, hx2⟩
      have HX2 := hid hx2
      clear f0 f1 f2 hx2
      go_wp2_with fail
      go_loopw [15] (fun iz wr => ∃ j : Nat, j ≤ wn ∧ iz = .int .i64 (j : Int) ∧ Hid (∀ i, i < j → 0 ≤ ws.getD i 0 ∧ ws.getD i 0 < m) ∧ Ext w2 wr) (fun iz _ => wn - (intOf iz).toNat)
      case atStart => exact ⟨0, by omega, rfl, hid (fun i hi => by omega), Ext.rfl' _⟩
      case round =>
        obtain ⟨j, hj, rfl, HALL, hex⟩ := hrel
        have HEX := hid hex
        have HEW := hid (HX.out.step (HX2.out.step hex))
        obtain ⟨f0, f1, f2, -, -, -⟩ := row_facts3 (HR.out.ext (HX2.out.step HEX.out))
        clear hex
        by_cases hlt : j < wn
        · obtain ⟨b3, o3, e3, -, hc3⟩ := (HWD.out.ext (HX2.out.step HEX.out)).atI (k := j) (by rw [HL.out]; exact hlt)
          subst e3
          have hjn : (j : Int) < (wn : Int) := by omega
          obtain ⟨r, hr⟩ : ∃ r, ws.getD j 0 = r := ⟨_, rfl⟩
          rw [hr] at hc3
          have HRR := hid hr
          clear hr
          have HMEM : Hid (r ∈ ws) := hid (by rw [← HRR.out, List.getD_eq_getElem?_getD, List.getElem?_eq_getElem (by rw [HL.out]; exact hlt)]; exact List.getElem_mem _)
          by_cases hr0 : r < 0
          · have HB : Hid (b2 = false) := hid (by rw [← hb2.out]; exact Bool.eq_false_iff.2 (fun h => by have := (wordB_iff.1 h).2 r HMEM.out; omega))
            have HC2 : Hid (c = 2) := hid (by rw [HC.out, HB.out]; rfl)
            go_wp2
            go_ret
            exact ⟨by rw [HC2.out]; rfl, HEW.out⟩
          · by_cases hrm : m ≤ r
            · have HB : Hid (b2 = false) := hid (by rw [← hb2.out]; exact Bool.eq_false_iff.2 (fun h => by have := (wordB_iff.1 h).2 r HMEM.out; omega))
              have HC2 : Hid (c = 2) := hid (by rw [HC.out, HB.out]; rfl)
              go_wp2
              go_ret
              exact ⟨by rw [HC2.out]; rfl, HEW.out⟩
            · have HNX : Hid (∀ i, i < j + 1 → 0 ≤ ws.getD i 0 ∧ ws.getD i 0 < m) := hid (fun i hi => by
                rcases Nat.lt_or_ge i j with h | h
                · exact HALL.out i h
                · obtain rfl : i = j := by omega
                  rw [HRR.out]; omega)
              go_wp2
              go_roundw
              case rel => exact ⟨j + 1, by omega, by simp, HNX, HEX.out⟩
              case measure => first | (simp [intOf]; done) | (simp [intOf]; omega)
        · obtain rfl : j = wn := by omega
          have HB : Hid (b2 = true) := hid (by
            rw [← hb2.out]
            refine wordB_iff.2 ⟨by rw [HL.out]; exact hlen, fun r hr => ?_⟩
            obtain ⟨i, hi, rfl⟩ := List.getElem_of_mem hr
            have := HALL.out i (by rw [HL.out] at hi; exact hi)
            rwa [List.getD_eq_getElem?_getD, List.getElem?_eq_getElem hi] at this)
          have HC2 : Hid (c = 0) := hid (by rw [HC.out, HB.out]; rfl)
          go_wp2
          go_ret
          exact ⟨by rw [HC2.out]; rfl, HEW.out⟩
    · have hlz : (200 : Int) < (wn : Int) := by omega
      have HB : Hid (b2 = false) := hid (by rw [← hb2.out]; exact Bool.eq_false_iff.2 (fun h => by have := (wordB_iff.1 h).1; rw [HL.out] at this; omega))
      have HC2 : Hid (c = 2) := hid (by rw [HC.out, HB.out]; rfl)
      go_enter Tryz.func72, Tryz.ntmps72
      go_upto_region 1 with fail
      rw [HW1.out]
      go_wp2_with fail
      refine (stepvalid_any _ m us ad W1 (HV.out.ext HX.out) hb1).mono ?_
      rintro e w2 ⟨rfl, hx2⟩
      have HY := hid (HX.out.step hx2)
      clear f0 f1 f2 hx2
      go_wp2
      go_ret
      exact ⟨by rw [HC2.out]; rfl, HY.out⟩
end Go.Proofs.YtflgkijmbpcnfaaGreatDoor
/- word.lineOfNoStep, lineOfStep, the function literal of Line -/
namespace Go.Proofs.YtflgkijmbpcnfaaGreatDoor
open Go.RowKit
/-- a linear map as it is told -/
def lineV (l : Int × Int × Int) : Value := .agg #[.string (Str (K.txt l.1)), .string (Str (K.txt l.2.1)), .string (Str (K.txt l.2.2))]
theorem txt_one : K.txt 1 = [49] := K.txt_of_lit [49] 1 (by decide +kernel) (by decide +kernel)
theorem txt_zero2 : K.txt 0 = [48] := K.txt_of_lit [48] 0 (by decide +kernel) (by decide +kernel)
set_option maxRecDepth 100000 in
set_option maxHeartbeats 800000 in
theorem noStep_any (w : World) : Calls Tryz.prog 74 #[] w (fun e w' => e = .returned (.agg #[.string ⟨#[49]⟩, .string ⟨#[48]⟩, .string ⟨#[49]⟩]) ∧ Ext w w') := by
  have HF : Hid (Ext w (w.alloc (.cells #[.string ⟨#[49]⟩, .string ⟨#[48]⟩, .string ⟨#[49]⟩] 66))) := hid ((Ext.rfl' w).alloc' _)
  go_enter Tryz.func74, Tryz.ntmps74
  go_wp2
  refine bodyPost_ret (v := .agg #[.string ⟨#[49]⟩, .string ⟨#[48]⟩, .string ⟨#[49]⟩]) (by simp [results, Tryz.results74, go_sem]) rfl ⟨rfl, HF.out⟩
set_option maxRecDepth 100000 in
set_option maxHeartbeats 3200000 in
theorem lineOfStep_l (ba oa bb ob n cc n2 d r : Nat) (m u a : Int) (us ad : List Int) (w : World) (hra : Rd w (some ⟨ba, oa, none⟩) (Is us)) (hrb : Rd w (some ⟨bb, ob, none⟩) (Is ad)) (hn1 : us.length = n) (hn2 : ad.length = n2) (hrn : r < n) (hrn2 : r < n2) (hu : Hid (us.getD r 0 = u)) (ha : Hid (ad.getD r 0 = a))
    (hm1 : 2 ≤ m) (hm2 : m ≤ 12) (hu1 : 1 ≤ u) (hu2 : u ≤ 999) (ha1 : -999999 ≤ a) (ha2 : a ≤ 999999) (ht : Tab w) :
    Calls Tryz.prog 77 #[.agg #[.int .i64 m, .slice (some ⟨ba, oa, none⟩) n cc, .slice (some ⟨bb, ob, none⟩) n2 d], .int .i64 (r : Int)] w (fun e w' => e = .returned (lineV (u, a, m)) ∧ Ext w w') := by
  have hx : Ext w ((w.alloc (.cells #[.int .i64 m, .slice (some ⟨ba, oa, none⟩) n cc, .slice (some ⟨bb, ob, none⟩) n2 d] 24)).alloc (.cells #[.string ⟨#[]⟩, .string ⟨#[]⟩, .string ⟨#[]⟩] 66)) := ((Ext.rfl' w).alloc' _).alloc' _
  have r1 : Row ((w.alloc (.cells #[.int .i64 m, .slice (some ⟨ba, oa, none⟩) n cc, .slice (some ⟨bb, ob, none⟩) n2 d] 24)).alloc (.cells #[.string ⟨#[]⟩, .string ⟨#[]⟩, .string ⟨#[]⟩] 66)) w.heap.size 24 [.int .i64 m, .slice (some ⟨ba, oa, none⟩) n cc, .slice (some ⟨bb, ob, none⟩) n2 d] := (Row.new w _ _).alloc _
  have r2 : Row ((w.alloc (.cells #[.int .i64 m, .slice (some ⟨ba, oa, none⟩) n cc, .slice (some ⟨bb, ob, none⟩) n2 d] 24)).alloc (.cells #[.string ⟨#[]⟩, .string ⟨#[]⟩, .string ⟨#[]⟩] 66)) (w.heap.size + 1) 66 [.string ⟨#[]⟩, .string ⟨#[]⟩, .string ⟨#[]⟩] := by
    have := Row.new (w.alloc (.cells #[.int .i64 m, .slice (some ⟨ba, oa, none⟩) n cc, .slice (some ⟨bb, ob, none⟩) n2 d] 24)) 66 [.string ⟨#[]⟩, .string ⟨#[]⟩, .string ⟨#[]⟩]
    rwa [World.size_alloc] at this
  obtain ⟨W2, hW2⟩ : ∃ W2, ((w.alloc (.cells #[.int .i64 m, .slice (some ⟨ba, oa, none⟩) n cc, .slice (some ⟨bb, ob, none⟩) n2 d] 24)).alloc (.cells #[.string ⟨#[]⟩, .string ⟨#[]⟩, .string ⟨#[]⟩] 66)) = W2 := ⟨_, rfl⟩
  rw [hW2] at hx r1 r2
  have HW2 := hid hW2
  have HX := hid hx
  have R1 := hid r1
  have R2 := hid r2
  have HRA := hid hra
  have HRB := hid hrb
  have HL1 := hid hn1
  have HL2 := hid hn2
  have HT := hid (ht.ext hx)
  have HB := hid (And.intro hm1 (And.intro hm2 (And.intro hu1 (And.intro hu2 (And.intro ha1 ha2)))))
  have HSF : Hid (∀ W', Ext w W' → Row W' w.heap.size 24 [.int .i64 m, .slice (some ⟨ba, oa, none⟩) n cc, .slice (some ⟨bb, ob, none⟩) n2 d] → W'.cell? ⟨w.heap.size, 0, none⟩ = some (.int .i64 m) ∧ W'.cell? ⟨w.heap.size, 1, none⟩ = some (.slice (some ⟨ba, oa, none⟩) n cc) ∧ W'.cell? ⟨w.heap.size, 2, none⟩ = some (.slice (some ⟨bb, ob, none⟩) n2 d) ∧ W'.cell? ⟨ba, oa + r, none⟩ = some (.int .i64 u) ∧ W'.cell? ⟨bb, ob + r, none⟩ = some (.int .i64 a)) := hid (by
    intro W' e er
    obtain ⟨p0, p1, p2, -, -, -⟩ := row_facts3 er
    obtain ⟨b2, o2, e2, -, hc1⟩ := (HRA.out.ext e).atI (k := r) (by rw [HL1.out]; exact hrn)
    obtain ⟨b3, o3, e3, -, hc2⟩ := (HRB.out.ext e).atI (k := r) (by rw [HL2.out]; exact hrn2)
    cases e2
    cases e3
    rw [hu.out] at hc1
    rw [ha.out] at hc2
    exact ⟨p0, p1, p2, hc1, hc2⟩)
  have i0 : (0 : Int) ≤ (r : Int) := by omega
  have i1 : (r : Int) < (n : Int) := by omega
  have i2 : (r : Int) < (n2 : Int) := by omega
  have hcur : Ext W2 W2 := Ext.rfl' _
  obtain ⟨z0, z1, z2, z3, z4, z5⟩ := row_facts3 r2
  clear hW2 hx r1 r2 hra hrb hn1 hn2 hm1 hm2 hu1 hu2 ha1 ha2
  go_enter Tryz.func77, Tryz.ntmps77
  go_upto_region 1 with fail
  rw [HW2.out]
  go_region_held3 (fun W' => W'.cell? ⟨w.heap.size, 0, none⟩ = some (.int .i64 m) ∧ W'.cell? ⟨w.heap.size, 1, none⟩ = some (.slice (some ⟨ba, oa, none⟩) n cc) ∧ W'.cell? ⟨w.heap.size, 2, none⟩ = some (.slice (some ⟨bb, ob, none⟩) n2 d) ∧ W'.cell? ⟨ba, oa + r, none⟩ = some (.int .i64 u) ∧ W'.cell? ⟨bb, ob + r, none⟩ = some (.int .i64 a))
    (first | exact HSF.out _ (HX.out.step hcur) (R1.out.ext hcur) | exact HSF.out _ (HX.out.step hcur.drew') (R1.out.ext hcur.drew') | exact HSF.out _ ((HX.out.step hcur).set3 (by omega)) ((R1.out.ext hcur).set3 (by omega)) | go_keep)
    (first
      | (go_at_call_of 98 (Value.int IntKind.i64 u); refine (itoa_any u _ (by have := HB.out; omega) (by have := HB.out; omega) (HT.out.ext ?_)).mono ?_; (first | exact hcur | exact hcur.drew' | exact hcur.alloc' _ | exact hcur.drew'.alloc' _ | exact (hcur.alloc' _).drew'); rintro e w5 ⟨rfl, hx⟩; have hcur := Ext.step hcur (by first | exact hx | exact Ext.undrew hx | exact Ext.step ((Ext.rfl' _).alloc' _) hx | exact Ext.step ((Ext.rfl' _).drew'.alloc' _) hx); obtain ⟨z0, z1, z2, z3, z4, z5⟩ := row_facts3 (R2.out.ext hcur))
      | (go_at_call_of 98 (Value.int IntKind.i64 a); refine (itoa_any a _ (by have := HB.out; omega) (by have := HB.out; omega) (HT.out.ext ?_)).mono ?_; (first | exact hcur | exact hcur.drew' | exact hcur.alloc' _ | exact hcur.drew'.alloc' _ | exact (hcur.alloc' _).drew'); rintro e w6 ⟨rfl, hx⟩; have hcur := Ext.step hcur (by first | exact hx | exact Ext.undrew hx | exact Ext.step ((Ext.rfl' _).alloc' _) hx | exact Ext.step ((Ext.rfl' _).drew'.alloc' _) hx); obtain ⟨z0, z1, z2, z3, z4, z5⟩ := row_facts3 (R2.out.ext hcur))
      | (go_at_call_of 98 (Value.int IntKind.i64 m); refine (itoa_any m _ (by have := HB.out; omega) (by have := HB.out; omega) (HT.out.ext ?_)).mono ?_; (first | exact hcur | exact hcur.drew' | exact hcur.alloc' _ | exact hcur.drew'.alloc' _ | exact (hcur.alloc' _).drew'); rintro e w7 ⟨rfl, hx⟩; have hcur := Ext.step hcur (by first | exact hx | exact Ext.undrew hx | exact Ext.step ((Ext.rfl' _).alloc' _) hx | exact Ext.step ((Ext.rfl' _).drew'.alloc' _) hx); obtain ⟨z0, z1, z2, z3, z4, z5⟩ := row_facts3 (R2.out.ext hcur)))
  all_goals
    have HF := hid ((HX.out.step hcur).set3 (H := w.heap.size + 1) (a := .string (Str (K.txt u))) (b := .string (Str (K.txt a))) (c := .string (Str (K.txt m))) (by omega))
    clear hcur
    go_wp2
    refine bodyPost_ret (v := lineV (u, a, m)) (by simp [results, Tryz.results77, go_sem, lineV, z0, z1, z2]) rfl ⟨rfl, HF.out⟩
theorem lineOfStep_any (v : Value) (m : Int) (us ad : List Int) (r : Int) (w : World) (hv : MapV w v m us ad) (hM : Hid (mapP m us ad)) (h0 : 0 ≤ r) (h1 : r < m) (ht : Tab w) :
    Calls Tryz.prog 77 #[v, .int .i64 r] w (fun e w' => e = .returned (lineV (us.getD r.toNat 0, ad.getD r.toNat 0, m)) ∧ Ext w w') := by
  obtain ⟨u1, u2, a1, a2, l1, l2⟩ := rule_of hM.out h0 h1
  obtain ⟨A, n, cc, B, n2, d, rfl, e1, e2, e3, e4, e5, e6, -, -⟩ := hv
  obtain ⟨ba, oa, eA, -, -⟩ := e5.atI l1
  obtain ⟨bb, ob, eB, -, -⟩ := e6.atI l2
  subst eA eB
  obtain ⟨q, rfl⟩ : ∃ q : Nat, r = (q : Int) := ⟨r.toNat, by omega⟩
  rw [Int.toNat_natCast] at *
  exact lineOfStep_l ba oa bb ob n cc n2 d q m _ _ us ad w e5 e6 e1 e3 (by omega) (by omega) (hid rfl) (hid rfl) hM.out.1 hM.out.2.1 u1 u2 a1 a2 ht
end Go.Proofs.YtflgkijmbpcnfaaGreatDoor
