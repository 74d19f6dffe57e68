/- Joined texts: the reference's Twin: a copy of a map; step.commonDivisor, step.Regular; the reference's Prime, Regular; num.Sub, num.Gcd by contract; the reference's guess; the reference's guess, of any two numbers. -/
import Derived.Test.YtimokpcopeldfaaGreatDoorJG11
import Derived.Deep.RegionLawGrows
import Derived.Deep.Upon
import Derived.Test.YtimokpcopeldfaaGreatDoorJG10
import Derived.Deep.LoopGhost
import Derived.IntWalk
import Derived.Test.YtimokpcopeldfaaGreatDoorJG05
import Derived.Test.YtimokpcopeldfaaGreatDoorJG04
import Derived.Test.YtimokpcopeldfaaGreatDoorJG08
set_option linter.unusedSimpArgs false
set_option linter.unusedVariables false
/- the reference's Twin: a copy of a map -/
namespace Go.Proofs.YtimokpcopeldfaaGreatDoor
open Go.RowKit
/-- the slice reads as the values, out of a block from B on -/
def RdN (B : Nat) (w : World) (A : Option Addr) (vs : List Value) : Prop :=
  vs = [] ∨ ∃ b o, A = some ⟨b, o, none⟩ ∧ B ≤ b ∧ b < w.heap.size ∧ ∀ j u, vs[j]? = some u → w.cell? ⟨b, o + j, none⟩ = some u
theorem RdN.rd {B : Nat} {w : World} {A : Option Addr} {vs : List Value} (h : RdN B w A vs) : Rd w A vs := by
  rcases h with h | ⟨b, o, ha, -, hb, hc⟩
  · exact .inl h
  · exact .inr ⟨b, o, ha, hb, hc⟩
theorem RdN.ext {B : Nat} {w w' : World} {A : Option Addr} {vs : List Value} (h : RdN B w A vs) (e : Ext w w') : RdN B w' A vs := by
  rcases h with h | ⟨b, o, ha, hB, hb, hc⟩
  · exact .inl h
  · exact .inr ⟨b, o, ha, hB, Nat.lt_of_lt_of_le hb e.size, fun j u hu => (e.cell (p := ⟨b, o + j, none⟩) hb).trans (hc j u hu)⟩
theorem RdN.far {B : Nat} {w : World} {A : Option Addr} {vs : List Value} (h : RdN B w A vs) {p : Addr} (hp : p.block < B) (u : Value) : RdN B (w.setCell p u) A vs := by
  rcases h with h | ⟨b, o, ha, hB, hb, hc⟩
  · exact .inl h
  · refine .inr ⟨b, o, ha, hB, by rw [World.size_setCell]; exact hb, fun j v hv => ?_⟩
    rw [World.cell?_of_block (Below.heap_setCell w p u b (by omega))]
    exact hc j v hv
/-- a list appended to an empty one, as one step of a region that draws -/
theorem step_twin {P : Program} {ops : Array Oper} {o : Oper} {a : Act} {w : World} {K : Act → World → Prop} {Q : Exit → Act → World → Prop} {E : Prop}
    (hg : o.guard = none) (s x : Operand) (t : TypeId) (hop : o.op = Op.call { callee := Callee.builtin Builtin.append, args := #[s, x], argTypes := #[t, t] })
    (e : TypeId) (i : TypeInfo) (h1 : P.underlying t = some (.slice e)) (h2 : P.info? e = some i) (h3 : i.zero = some (.int .i64 0)) (h4 : i.size = 1) (h5 : i.bytes = 8)
    (b : Addr) (hs : a.eval s = .slice (some b) 0 0) (A : Option Addr) (k c : Nat) (hx : a.eval x = .slice A k c) (us : List Int) (hl : us.length = k) (hr : Rd w A (Is us)) (hb : k * 8 ≤ 140737488355328)
    (B0 : Nat) (hB0 : B0 ≤ w.heap.size)
    (hK : ∀ A' c' w', k ≤ c' → RdN B0 w' A' (Is us) → Ext w w' → K (a.put o.dst (.slice A' k c')) w') :
    if Region.wanted o (yielded ops a.tmps) = true then Oper.wp P o a w K Q else E := by
  rcases Nat.eq_zero_or_pos k with h0 | h0
  · subst h0
    have hw : Region.wanted o (yielded ops a.tmps) = true := by simp [Region.wanted, hg]
    rw [if_pos hw]
    have hsrc : Src P i.size t (.slice A 0 c) 0 [] w := by
      cases A with
      | none => exact Src.ofNil w h1 c
      | some ad => exact Src.ofSlice w h1 ad 0 c [] (by simp) (by simp) (by simp)
    have hrun := run_append_nothing (P := P) w t t o.type e i h1 h2 (some b) 0 0 (Nat.le_refl _) (.slice A 0 c) hsrc
    unfold Oper.wp
    simp [execOp, hop, resolve, invoke, builtin, hs, hx, hrun, Result.andThen]
    exact hK (some b) 0 w (Nat.le_refl _) (by rw [List.eq_nil_of_length_eq_zero hl]; exact .inl rfl) (Ext.rfl' w)
  · rcases hr with hn | ⟨g, off, rfl, hlt, hc⟩
    · rw [List.map_eq_nil_iff] at hn; subst hn; simp at hl; omega
    · refine step_append_grows hg s x t hop e i (.int .i64 0) 1 8 h1 h2 h3 h4 h5 rfl (by decide) (some b) 0 0 [] hs (fun h => by cases h) (by simp) (fun b' _ j u hu => by simp at hu) ⟨g, off, none⟩ k c (Is us) hx (by simp [hl]) (fun j u hu => ?_) (fun u hu => ?_) (by omega) (by unfold maxLen; omega) (by omega) ?_
      · have : (⟨g, off, none⟩ : Addr).add j = ⟨g, off + j, none⟩ := by unfold Addr.add; split <;> simp_all
        rw [this]; exact hc j u hu
      · obtain ⟨y, _, rfl⟩ := List.mem_map.1 hu; rfl
      · intro v' w' hown hgrow
        rw [Nat.zero_add, List.nil_append] at hown
        obtain ⟨g', cap, sp, rfl, hge, hcap, -⟩ := own_form hown (by omega)
        refine hK _ _ w' hcap ?_ ⟨hgrow.os, hgrow.tape, hgrow.output, hgrow.size, fun j hj => hgrow.block j hj (by simp)⟩
        rcases Rd.of_own hown with h | ⟨b1, o1, e1, hb1, hc1⟩
        · exact .inl h
        · refine .inr ⟨b1, o1, e1, ?_, hb1, hc1⟩
          cases e1
          omega
theorem infoI2 : (Tryz.prog.info? 3).map (fun i => (i.zero, i.size, i.bytes)) = some (some (.int .i64 0), 1, 8) := by kernel_rfl
set_option maxRecDepth 100000 in
set_option maxHeartbeats 3200000 in
theorem twin_any (v : Value) (m : Int) (us ad : List Int) (w : World) (hv : MapV w v m us ad) (h8 : Fit8 v) :
    Calls Tryz.prog 10 #[v] w (fun e w' => ∃ v2, e = .returned v2 ∧ MapV w' v2 m us ad ∧ Ext w w') := by
  obtain ⟨i0, hi, hz0, hz1, hz2⟩ := info_parts infoI2
  obtain ⟨A, n, cc, B, n2, d, rfl, h1, h2, h3, h4, h5, h6, h7, h9⟩ := hv
  obtain ⟨h8a, h8b⟩ := h8 _ _ _ _ _ _ _ rfl
  have hx : Ext w ((w.alloc (.cells #[.int .i64 m, .slice A n cc, .slice B n2 d] 24)).alloc (.cells #[.int .i64 0, .slice none 0 0, .slice none 0 0] 24)) := ((Ext.rfl' w).alloc' _).alloc' _
  have r1 : Row ((w.alloc (.cells #[.int .i64 m, .slice A n cc, .slice B n2 d] 24)).alloc (.cells #[.int .i64 0, .slice none 0 0, .slice none 0 0] 24)) w.heap.size 24 [.int .i64 m, .slice A n cc, .slice B n2 d] := (Row.new w _ _).alloc _
  have r2 : Row ((w.alloc (.cells #[.int .i64 m, .slice A n cc, .slice B n2 d] 24)).alloc (.cells #[.int .i64 0, .slice none 0 0, .slice none 0 0] 24)) (w.heap.size + 1) 24 [.int .i64 0, .slice none 0 0, .slice none 0 0] := by
    have := Row.new (w.alloc (.cells #[.int .i64 m, .slice A n cc, .slice B n2 d] 24)) 24 [.int .i64 0, .slice none 0 0, .slice none 0 0]
    rwa [World.size_alloc] at this
  obtain ⟨W2, hW2⟩ : ∃ W2, ((w.alloc (.cells #[.int .i64 m, .slice A n cc, .slice B n2 d] 24)).alloc (.cells #[.int .i64 0, .slice none 0 0, .slice none 0 0] 24)) = W2 := ⟨_, rfl⟩
  rw [hW2] at hx r1 r2
  have HW2 := hid hW2
  have HX := hid hx
  have R1 := hid r1
  have R2 := hid r2
  have HA := hid (h5.ext hx)
  have HB := hid (h6.ext hx)
  have H1 := hid h1
  have H3 := hid h3
  obtain ⟨f0, f1, f2, -, -, -⟩ := row_facts3 r1
  have hcur : Ext W2 W2 := Ext.rfl' _
  clear hW2 hx r1 r2 h5 h6 h1 h3 h8
  go_enter Tryz.func10, Tryz.ntmps10
  go_upto_region 1 with fail
  rw [HW2.out]
  go_wp2_with fail
  have HS : Hid (∀ W', Ext W2 W' → W'.cell? ⟨w.heap.size, 0, none⟩ = some (.int .i64 m) ∧ W'.cell? ⟨w.heap.size, 1, none⟩ = some (.slice A n cc) ∧ W'.cell? ⟨w.heap.size, 2, none⟩ = some (.slice B n2 d)) := hid (by
    intro W' e
    obtain ⟨p0, p1, p2, -, -, -⟩ := row_facts3 (R1.out.ext e)
    exact ⟨p0, p1, p2⟩)
  go_region_held3 (fun W' => W'.cell? ⟨w.heap.size, 0, none⟩ = some (.int .i64 m) ∧ W'.cell? ⟨w.heap.size, 1, none⟩ = some (.slice A n cc) ∧ W'.cell? ⟨w.heap.size, 2, none⟩ = some (.slice B n2 d))
    (first | exact HS.out _ hcur | exact HS.out _ hcur.drew' | exact HS.out _ (hcur.alloc' _) | exact HS.out _ (hcur.drew'.alloc' _) | exact HS.out _ ((hcur.alloc' _).alloc' _) | exact HS.out _ ((hcur.drew'.alloc' _).alloc' _) | go_keep)
    (first
      | (refine step_twin rfl (.tmp 5) (.tmp 7) 22 rfl 3 i0 Tryz.underlying22 hi hz0 hz1 hz2 _ (by simp only [Act.eval]; rfl) A n cc (by simp only [Act.eval]; rfl) us H1.out (HA.out.ext ?_) h8a W2.heap.size ?_ ?_; (first | exact hcur | exact hcur.drew' | exact hcur.alloc' _ | exact hcur.drew'.alloc' _ | exact (hcur.alloc' _).drew' | exact (hcur.alloc' _).alloc' _ | exact (hcur.drew'.alloc' _).alloc' _); (first | exact hcur.size | exact (hcur.alloc' _).size | exact (hcur.drew'.alloc' _).size | exact ((hcur.alloc' _).alloc' _).size | exact ((hcur.drew'.alloc' _).alloc' _).size); intro A5 c5 w5 hc5 hr5 hx; (first | have HR6 := hid (HR6.out.ext (by first | exact hx | exact Ext.undrew hx | exact Ext.step ((Ext.rfl' _).alloc' _) hx | exact Ext.step ((Ext.rfl' _).drew'.alloc' _) hx)) | skip); have HR5 := hid hr5; have hcur := Ext.step hcur (by first | exact hx | exact Ext.undrew hx | exact Ext.step ((Ext.rfl' _).alloc' _) hx | exact Ext.step ((Ext.rfl' _).drew'.alloc' _) hx | exact Ext.step (((Ext.rfl' _).alloc' _).alloc' _) hx | exact Ext.step (((Ext.rfl' _).drew'.alloc' _).alloc' _) hx); obtain ⟨z0, z1, z2, z3, z4, z5⟩ := row_facts3 (R2.out.ext hcur))
      | (refine step_twin rfl (.tmp 9) (.tmp 11) 22 rfl 3 i0 Tryz.underlying22 hi hz0 hz1 hz2 _ (by simp only [Act.eval]; rfl) B n2 d (by simp only [Act.eval]; rfl) ad H3.out (HB.out.ext ?_) h8b W2.heap.size ?_ ?_; (first | exact hcur | exact hcur.drew' | exact hcur.alloc' _ | exact hcur.drew'.alloc' _ | exact (hcur.alloc' _).drew' | exact (hcur.alloc' _).alloc' _ | exact (hcur.drew'.alloc' _).alloc' _); (first | exact hcur.size | exact (hcur.alloc' _).size | exact (hcur.drew'.alloc' _).size | exact ((hcur.alloc' _).alloc' _).size | exact ((hcur.drew'.alloc' _).alloc' _).size); intro A6 c6 w6 hc6 hr6 hx; (first | have HR5 := hid (HR5.out.ext (by first | exact hx | exact Ext.undrew hx | exact Ext.step ((Ext.rfl' _).alloc' _) hx | exact Ext.step ((Ext.rfl' _).drew'.alloc' _) hx)) | skip); have HR6 := hid hr6; have hcur := Ext.step hcur (by first | exact hx | exact Ext.undrew hx | exact Ext.step ((Ext.rfl' _).alloc' _) hx | exact Ext.step ((Ext.rfl' _).drew'.alloc' _) hx | exact Ext.step (((Ext.rfl' _).alloc' _).alloc' _) hx | exact Ext.step (((Ext.rfl' _).drew'.alloc' _).alloc' _) hx); obtain ⟨z0, z1, z2, z3, z4, z5⟩ := row_facts3 (R2.out.ext hcur)))
  all_goals
    have hfin : MapV _ (.agg #[.int .i64 m, .slice A5 n c5, .slice A6 n2 c6]) m us ad := ⟨A5, n, c5, A6, n2, c6, rfl, H1.out, hc5, H3.out, hc6, (((HR5.out.far (p := ⟨w.heap.size + 1, 0, none⟩) (by show w.heap.size + 1 < W2.heap.size; exact R2.out.lt) (.int .i64 m)).far (p := ⟨w.heap.size + 1, 1, none⟩) (by show w.heap.size + 1 < W2.heap.size; exact R2.out.lt) (.slice A5 n c5)).far (p := ⟨w.heap.size + 1, 2, none⟩) (by show w.heap.size + 1 < W2.heap.size; exact R2.out.lt) (.slice A6 n2 c6)).rd, (((HR6.out.far (p := ⟨w.heap.size + 1, 0, none⟩) (by show w.heap.size + 1 < W2.heap.size; exact R2.out.lt) (.int .i64 m)).far (p := ⟨w.heap.size + 1, 1, none⟩) (by show w.heap.size + 1 < W2.heap.size; exact R2.out.lt) (.slice A5 n c5)).far (p := ⟨w.heap.size + 1, 2, none⟩) (by show w.heap.size + 1 < W2.heap.size; exact R2.out.lt) (.slice A6 n2 c6)).rd, h7, h9⟩
    have hext := (HX.out.step hcur).set3 (H := w.heap.size + 1) (a := .int .i64 m) (b := .slice A5 n c5) (c := .slice A6 n2 c6) (by omega)
    have HF := hid hfin
    have HE := hid hext
    clear hfin hext
    go_wp2
    refine bodyPost_ret (v := .agg #[.int .i64 m, .slice A5 n c5, .slice A6 n2 c6]) (by simp [results, Tryz.results10, go_sem, z0, z1, z2]) rfl ⟨_, rfl, HF.out, HE.out⟩
end Go.Proofs.YtimokpcopeldfaaGreatDoor
/- step.commonDivisor, step.Regular; the reference's Prime, Regular -/
namespace Go.Proofs.YtimokpcopeldfaaGreatDoor
open Go.RowKit
/-- a regular map -/
def regB (m : Int) (us : List Int) : Bool := us.all fun u => decide (Nat.gcd u.natAbs m.natAbs ≤ 1)
theorem tmod_nat (x y : Nat) : (x : Int).tmod (y : Int) = ((x % y : Nat) : Int) := by rw [Int.tmod_eq_emod_of_nonneg (by omega)]; rfl
set_option maxRecDepth 100000 in
set_option maxHeartbeats 1600000 in
theorem commonDivisor_any (a b : Nat) (w : World) (ha : a ≤ 1000000) (hb : b ≤ 1000000) :
    Calls Tryz.prog 122 #[.int .i64 (a : Int), .int .i64 (b : Int)] w (fun e w' => e = .returned (.int .i64 ((Nat.gcd a b : Nat) : Int)) ∧ Ext w w') := by
  go_enter Tryz.func122, Tryz.ntmps122
  go_wp2_with fail
  go_loopg [0, 1] b (fun g av bv wr => ∃ x y : Nat, y = g ∧ x ≤ 1000000 ∧ y ≤ 1000000 ∧ av = .int .i64 (x : Int) ∧ bv = .int .i64 (y : Int) ∧ Hid (Nat.gcd x y = Nat.gcd a b) ∧ Ext w wr)
  case atStart => exact ⟨a, b, rfl, ha, hb, rfl, rfl, hid rfl, Ext.rfl' _⟩
  case round =>
    obtain ⟨x, y, rfl, hx, hy, rfl, rfl, HG, hex⟩ := hrel
    have HEX := hid hex
    clear hex
    by_cases hy0 : y = 0
    · subst hy0
      have HGX : Hid (x = Nat.gcd a b) := hid (by rw [← HG.out, Nat.gcd_zero_right])
      go_wp2
      go_ret
      exact ⟨by rw [← HGX.out]; rfl, HEX.out⟩
    · have hyp : (0 : Int) < (y : Int) := by omega
      have hyne : (y : Int) ≠ 0 := by omega
      have hyb : ((y : Int) == 0) = false := by rw [beq_eq_false_iff_ne]; exact hyne
      have HMD := hid (tmod_nat x y)
      have HLT : Hid (x % y < y) := hid (Nat.mod_lt _ (by omega))
      have HNX : Hid (Nat.gcd y (x % y) = Nat.gcd a b) := hid (by rw [← HG.out, Nat.gcd_comm y, Nat.gcd_comm x y]; exact (Nat.gcd_rec y x).symm)
      go_wp2_with fail
      first | (go_quiet (fail)) | (go_region)
      all_goals
        have HE2 := hid (HEX.out.drewN nq)
        go_wp2
        go_roundg (x % y)
        case measure => exact HLT.out
        case rel => exact ⟨y, x % y, rfl, hy, by have := HLT.out; omega, rfl, by rw [Int.natCast_emod], HNX, HE2.out⟩
set_option maxRecDepth 100000 in
set_option maxHeartbeats 1600000 in
theorem prime_any (a b : Nat) (w : World) (ha : a ≤ 1000000) (hb : b ≤ 1000000) (ha0 : 0 < a) (hb0 : 0 < b) :
    Calls Tryz.prog 92 #[.int .i64 (a : Int), .int .i64 (b : Int)] w (fun e w' => e = .returned (.bool (decide (Nat.gcd a b ≤ 1))) ∧ Ext w w') := by
  have hfin : ∀ dd : Nat, 2 ≤ dd → (∀ e, 2 ≤ e → e < dd → ¬ (a % e = 0 ∧ b % e = 0)) → (a < dd ∨ b < dd) → decide (Nat.gcd a b ≤ 1) = true := fun dd h2 hall hend => decide_eq_true (by
    rcases Nat.lt_or_ge 1 (Nat.gcd a b) with h | h
    · exfalso
      have h3 := Nat.gcd_dvd_left a b
      have h4 := Nat.gcd_dvd_right a b
      have h5 := Nat.le_of_dvd ha0 h3
      have h6 := Nat.le_of_dvd hb0 h4
      exact hall _ (by omega) (by omega) ⟨Nat.mod_eq_zero_of_dvd h3, Nat.mod_eq_zero_of_dvd h4⟩
    · exact h)
  have hno : ∀ dd : Nat, 2 ≤ dd → a % dd = 0 → b % dd = 0 → decide (Nat.gcd a b ≤ 1) = false := fun dd h2 h3 h4 => decide_eq_false (by
    have h5 := Nat.dvd_gcd (Nat.dvd_of_mod_eq_zero h3) (Nat.dvd_of_mod_eq_zero h4)
    have h6 := Nat.le_of_dvd (Nat.gcd_pos_of_pos_left b ha0) h5
    omega)
  have HFIN := hid hfin
  have HNO := hid hno
  clear hfin hno
  obtain ⟨r, hr⟩ : ∃ r, decide (Nat.gcd a b ≤ 1) = r := ⟨_, rfl⟩
  rw [hr]
  have HR := hid hr
  clear hr
  go_enter Tryz.func92, Tryz.ntmps92
  go_wp2_with fail
  go_loopg [5] (a + 1 - 2) (fun g dv wr => ∃ dd : Nat, 2 ≤ dd ∧ dd ≤ 1000001 ∧ g = a + 1 - dd ∧ dv = .int .i64 (dd : Int) ∧ Hid (∀ e, 2 ≤ e → e < dd → ¬ (a % e = 0 ∧ b % e = 0)) ∧ Ext w wr)
  case atStart => exact ⟨2, by omega, by omega, by omega, rfl, hid (fun e h1 h2 => by omega), Ext.rfl' _⟩
  case round =>
    obtain ⟨dd, h2, hdb, rfl, rfl, HALL, hex⟩ := hrel
    have HEX := hid hex
    clear hex
    have hd0 : ((dd : Int) == 0) = false := by rw [beq_eq_false_iff_ne]; omega
    have hd1 : (dd : Int) ≠ 0 := by omega
    have m1 := tmod_nat a dd
    have m2 := tmod_nat b dd
    by_cases ha1 : dd ≤ a
    · by_cases hb1 : dd ≤ b
      · have ha2 : (dd : Int) ≤ (a : Int) := by omega
        have hb2 : (dd : Int) ≤ (b : Int) := by omega
        have hw : IntKind.i64.wrap ((dd : Int) + 1) = (dd : Int) + 1 := IntWalk.i64_in _ (by omega)
        by_cases ea : a % dd = 0
        · have ea1 : ((a : Int) % (dd : Int) == 0) = true := by rw [beq_iff_eq, ← Int.natCast_emod, ea]; rfl
          by_cases eb : b % dd = 0
          · have eb1 : ((b : Int) % (dd : Int) == 0) = true := by rw [beq_iff_eq, ← Int.natCast_emod, eb]; rfl
            have HF : Hid (r = false) := hid (by rw [← HR.out]; exact HNO.out dd h2 ea eb)
            clear m1 m2 ea eb
            go_wp2
            go_ret
            exact ⟨by rw [HF.out]; rfl, HEX.out⟩
          · have eb1 : ((b : Int) % (dd : Int) == 0) = false := by rw [beq_eq_false_iff_ne, ← Int.natCast_emod]; omega
            have HNX : Hid (∀ e, 2 ≤ e → e < dd + 1 → ¬ (a % e = 0 ∧ b % e = 0)) := hid (fun e h1 h3 h4 => by
              rcases Nat.lt_or_ge e dd with h | h
              · exact HALL.out e h1 h h4
              · obtain rfl : e = dd := by omega
                exact eb h4.2)
            clear m1 m2 ea eb
            go_wp2
            go_roundg (a + 1 - (dd + 1))
            case measure => omega
            case rel => exact ⟨dd + 1, by omega, by omega, by omega, by simp, HNX, HEX.out⟩
        · have ea1 : ((a : Int) % (dd : Int) == 0) = false := by rw [beq_eq_false_iff_ne, ← Int.natCast_emod]; omega
          have HNX : Hid (∀ e, 2 ≤ e → e < dd + 1 → ¬ (a % e = 0 ∧ b % e = 0)) := hid (fun e h1 h3 h4 => by
            rcases Nat.lt_or_ge e dd with h | h
            · exact HALL.out e h1 h h4
            · obtain rfl : e = dd := by omega
              exact ea h4.1)
          clear m1 m2 ea
          go_wp2
          go_roundg (a + 1 - (dd + 1))
          case measure => omega
          case rel => exact ⟨dd + 1, by omega, by omega, by omega, by simp, HNX, HEX.out⟩
      · have HF : Hid (r = true) := hid (by rw [← HR.out]; exact HFIN.out dd h2 HALL.out (.inr (by omega)))
        have ha2 : (dd : Int) ≤ (a : Int) := by omega
        have hb2 : ¬ (dd : Int) ≤ (b : Int) := by omega
        go_wp2
        go_ret
        exact ⟨by rw [HF.out]; rfl, HEX.out⟩
    · have HF : Hid (r = true) := hid (by rw [← HR.out]; exact HFIN.out dd h2 HALL.out (.inl (by omega)))
      have ha2 : ¬ (dd : Int) ≤ (a : Int) := by omega
      go_wp2
      go_ret
      exact ⟨by rw [HF.out]; rfl, HEX.out⟩
theorem commonDivisor_int (a b : Int) (w : World) (ha : 0 ≤ a) (ha2 : a ≤ 1000000) (hb : 0 ≤ b) (hb2 : b ≤ 1000000) :
    Calls Tryz.prog 122 #[.int .i64 a, .int .i64 b] w (fun e w' => e = .returned (.int .i64 ((Nat.gcd a.natAbs b.natAbs : Nat) : Int)) ∧ Ext w w') := by
  obtain ⟨x, rfl⟩ : ∃ x : Nat, a = (x : Int) := ⟨a.toNat, by omega⟩
  obtain ⟨y, rfl⟩ : ∃ y : Nat, b = (y : Int) := ⟨b.toNat, by omega⟩
  exact commonDivisor_any x y w (by omega) (by omega)
theorem prime_int (a b : Int) (w : World) (ha : 0 < a) (ha2 : a ≤ 1000000) (hb : 0 < b) (hb2 : b ≤ 1000000) :
    Calls Tryz.prog 92 #[.int .i64 a, .int .i64 b] w (fun e w' => e = .returned (.bool (decide (Nat.gcd a.natAbs b.natAbs ≤ 1))) ∧ Ext w w') := by
  obtain ⟨x, rfl⟩ : ∃ x : Nat, a = (x : Int) := ⟨a.toNat, by omega⟩
  obtain ⟨y, rfl⟩ : ∃ y : Nat, b = (y : Int) := ⟨b.toNat, by omega⟩
  exact prime_any x y w (by omega) (by omega) (by omega) (by omega)
theorem regB_no {m : Int} {us : List Int} {j : Nat} (hj : j < us.length) (h : ¬ Nat.gcd (us.getD j 0).natAbs m.natAbs ≤ 1) : regB m us = false := by
  unfold regB
  rw [List.all_eq_false]
  refine ⟨us.getD j 0, ?_, by simpa using h⟩
  rw [List.getD_eq_getElem?_getD, List.getElem?_eq_getElem hj]
  exact List.getElem_mem hj
theorem regB_yes {m : Int} {us : List Int} (h : ∀ j, j < us.length → Nat.gcd (us.getD j 0).natAbs m.natAbs ≤ 1) : regB m us = true := by
  unfold regB
  rw [List.all_eq_true]
  intro u hu
  obtain ⟨j, hj, rfl⟩ := List.getElem_of_mem hu
  have := h j hj
  rw [List.getD_eq_getElem?_getD, List.getElem?_eq_getElem hj] at this
  simpa using this
set_option maxRecDepth 100000 in
set_option maxHeartbeats 3200000 in
theorem regular_ok (v : Value) (m : Int) (us ad : List Int) (w : World) (hv : MapV w v m us ad) (hM : Hid (mapP m us ad)) :
    Calls Tryz.prog 93 #[v] w (fun e w' => e = .returned (.tuple #[.bool (regB m us), .int .i64 0]) ∧ Ext w w') := by
  have HV := hid hv
  obtain ⟨A, n, cc, B, n2, d, rfl, h1, h2, h3, h4, h5, h6, h7, h9⟩ := hv
  obtain ⟨dm, hdm⟩ : ∃ dm : Nat, m = (dm : Int) := ⟨m.toNat, by have := hM.out.1; omega⟩
  have HDM := hid hdm
  have HMB := hid (show 2 ≤ m ∧ m ≤ 12 from ⟨hM.out.1, hM.out.2.1⟩)
  have HNM : Hid ((n : Int) = m) := hid (by have := hM.out.2.2.1; omega)
  obtain ⟨r, hr⟩ : ∃ r, regB m us = r := ⟨_, rfl⟩
  rw [hr]
  have HRB := hid hr
  have hx : Ext w (w.alloc (.cells #[.int .i64 m, .slice A n cc, .slice B n2 d] 24)) := (Ext.rfl' w).alloc' _
  have hrw : Row (w.alloc (.cells #[.int .i64 m, .slice A n cc, .slice B n2 d] 24)) w.heap.size 24 [.int .i64 m, .slice A n cc, .slice B n2 d] := Row.new w _ _
  obtain ⟨W1, hW1⟩ : ∃ W1, (w.alloc (.cells #[.int .i64 m, .slice A n cc, .slice B n2 d] 24)) = W1 := ⟨_, rfl⟩
  rw [hW1] at hx hrw
  have HX := hid hx
  have HR := hid hrw
  have HW1 := hid hW1
  have HA := hid (h5.ext hx)
  have HL := hid h1
  obtain ⟨f0, f1, f2, -, -, -⟩ := row_facts3 hrw
  clear hW1 hx hrw h5 h6 h1 h3 hdm hr
  go_enter Tryz.func93, Tryz.ntmps93
  go_upto_region 1 with fail
  rw [HW1.out]
  go_wp2_with fail
  refine (stepvalid_any _ m us ad W1 (HV.out.ext HX.out) (hid ((mapB_iff m us ad).2 hM.out))).mono ?_
  rintro e w2 ⟨rfl, hx2⟩
  have HX2 := hid hx2
  clear f0 f1 f2 hx2
  obtain ⟨f0, f1, f2, -, -, -⟩ := row_facts3 (HR.out.ext HX2.out)
  go_wp2_with fail
  go_loopw [12] (fun iz wr => ∃ j : Nat, j ≤ n ∧ iz = .int .i64 (j : Int) ∧ Hid (∀ i, i < j → Nat.gcd (us.getD i 0).natAbs m.natAbs ≤ 1) ∧ Ext w2 wr) (fun iz _ => n - (intOf iz).toNat)
  case atStart => exact ⟨0, by omega, rfl, hid (fun i hi => by omega), Ext.rfl' _⟩
  case round =>
    obtain ⟨j, hj, rfl, HALL, hex⟩ := hrel
    have HEX := hid hex
    have HEW := hid (HX.out.step (HX2.out.step hex))
    clear f0 f1 f2
    obtain ⟨f0, f1, f2, -, -, -⟩ := row_facts3 (HR.out.ext (HX2.out.step HEX.out))
    clear hex
    by_cases hlt : j < n
    · obtain ⟨b1, o1, e1, -, hc1⟩ := (HA.out.ext (HX2.out.step HEX.out)).atI (k := j) (by rw [HL.out]; exact hlt)
      subst e1
      have hrule := hM.out.2.2.2.2 j (by rw [HL.out]; exact hlt)
      obtain ⟨u, hu⟩ : ∃ u, us.getD j 0 = u := ⟨_, rfl⟩
      rw [hu] at hc1 hrule
      have HU := hid hu
      have HRU := hid (show 1 ≤ u ∧ u ≤ 999 from ⟨hrule.1, hrule.2.1⟩)
      obtain ⟨gg, hgg⟩ : ∃ gg : Nat, Nat.gcd u.natAbs m.natAbs = gg := ⟨_, rfl⟩
      have HGG := hid hgg
      clear hu hrule hgg
      have hjn : (j : Int) < (n : Int) := by omega
      go_wp2_with fail
      refine (commonDivisor_int u m wr (by have := HRU.out; omega) (by have := HRU.out; omega) (by have := HMB.out; omega) (by have := HMB.out; omega)).mono ?_
      rintro e w5 ⟨rfl, hx5⟩
      rw [HGG.out]
      have HX5 := hid (HEX.out.step hx5)
      have HW5 := hid (HEW.out.step hx5)
      clear f0 f1 f2 hc1 hx5
      by_cases hg : gg ≤ 1
      · have hgi : ¬ (1 : Int) < (gg : Int) := by omega
        have HNX : Hid (∀ i, i < j + 1 → Nat.gcd (us.getD i 0).natAbs m.natAbs ≤ 1) := hid (fun i hi => by
          rcases Nat.lt_or_ge i j with h | h
          · exact HALL.out i h
          · obtain rfl : i = j := by omega
            rw [HU.out, HGG.out]; exact hg)
        go_wp2
        go_roundw
        case rel => exact ⟨j + 1, by omega, by simp, HNX, HX5.out⟩
        case measure => first | (simp [intOf]; done) | (simp [intOf]; omega)
      · have hgi : (1 : Int) < (gg : Int) := by omega
        have HF : Hid (r = false) := hid (by rw [← HRB.out]; exact regB_no (j := j) (by rw [HL.out]; exact hlt) (by rw [HU.out, HGG.out]; exact hg))
        go_wp2
        go_ret2
        exact ⟨by rw [HF.out]; rfl, HW5.out⟩
    · obtain rfl : j = n := by omega
      have HF : Hid (r = true) := hid (by rw [← HRB.out]; exact regB_yes (fun i hi => HALL.out i (by rw [HL.out] at hi; exact hi)))
      go_wp2
      go_ret2
      exact ⟨by rw [HF.out]; rfl, HEW.out⟩
set_option maxRecDepth 100000 in
set_option maxHeartbeats 1600000 in
theorem regular_bad (v : Value) (m : Int) (us ad : List Int) (w : World) (hv : MapV w v m us ad) (hM : Hid (mapB m us ad = false)) :
    Calls Tryz.prog 93 #[v] w (fun e w' => e = .returned (.tuple #[.bool false, .int .i64 1]) ∧ Ext w w') := by
  have HV := hid hv
  obtain ⟨A, n, cc, B, n2, d, rfl, -⟩ := hv
  have hx : Ext w (w.alloc (.cells #[.int .i64 m, .slice A n cc, .slice B n2 d] 24)) := (Ext.rfl' w).alloc' _
  obtain ⟨f0, f1, f2, -⟩ := three_facts (Ext.rfl' (w.alloc (.cells #[.int .i64 m, .slice A n cc, .slice B n2 d] 24))) rfl
  obtain ⟨W1, hW1⟩ : ∃ W1, (w.alloc (.cells #[.int .i64 m, .slice A n cc, .slice B n2 d] 24)) = W1 := ⟨_, rfl⟩
  rw [hW1] at hx f0 f1 f2
  have HX := hid hx
  have HW1 := hid hW1
  clear hW1 hx
  go_enter Tryz.func93, Tryz.ntmps93
  go_upto_region 1 with fail
  rw [HW1.out]
  go_wp2_with fail
  refine (stepvalid_any _ m us ad W1 (HV.out.ext HX.out) hM).mono ?_
  rintro e w2 ⟨rfl, hx2⟩
  have HY := hid (HX.out.step hx2)
  clear f0 f1 f2 hx2
  go_wp2
  go_ret2
  exact ⟨rfl, HY.out⟩
set_option maxRecDepth 100000 in
set_option maxHeartbeats 3200000 in
theorem rregular_any (v : Value) (m : Int) (us ad : List Int) (w : World) (hv : MapV w v m us ad) (hM : Hid (mapP m us ad)) :
    Calls Tryz.prog 43 #[v] w (fun e w' => e = .returned (.bool (regB m us)) ∧ Ext w w') := by
  obtain ⟨A, n, cc, B, n2, d, rfl, h1, h2, h3, h4, h5, h6, h7, h9⟩ := hv
  have HMB := hid (show 2 ≤ m ∧ m ≤ 12 from ⟨hM.out.1, hM.out.2.1⟩)
  have HNM : Hid ((n : Int) = m) := hid (by have := hM.out.2.2.1; omega)
  obtain ⟨r, hr⟩ : ∃ r, regB m us = r := ⟨_, rfl⟩
  rw [hr]
  have HRB := hid hr
  have hx : Ext w (w.alloc (.cells #[.int .i64 m, .slice A n cc, .slice B n2 d] 24)) := (Ext.rfl' w).alloc' _
  have hrw : Row (w.alloc (.cells #[.int .i64 m, .slice A n cc, .slice B n2 d] 24)) w.heap.size 24 [.int .i64 m, .slice A n cc, .slice B n2 d] := Row.new w _ _
  obtain ⟨W1, hW1⟩ : ∃ W1, (w.alloc (.cells #[.int .i64 m, .slice A n cc, .slice B n2 d] 24)) = W1 := ⟨_, rfl⟩
  rw [hW1] at hx hrw
  have HX := hid hx
  have HR := hid hrw
  have HW1 := hid hW1
  have HA := hid (h5.ext hx)
  have HL := hid h1
  clear hW1 hx hrw h5 h6 h1 h3 hr
  go_enter Tryz.func43, Tryz.ntmps43
  go_upto_region 1 with fail
  rw [HW1.out]
  go_wp2_with fail
  go_loopw [3] (fun iz wr => ∃ j : Nat, j ≤ n ∧ iz = .int .i64 (j : Int) ∧ Hid (∀ i, i < j → Nat.gcd (us.getD i 0).natAbs m.natAbs ≤ 1) ∧ Ext W1 wr) (fun iz _ => n - (intOf iz).toNat)
  case atStart => exact ⟨0, by omega, rfl, hid (fun i hi => by omega), Ext.rfl' _⟩
  case round =>
    obtain ⟨j, hj, rfl, HALL, hex⟩ := hrel
    have HEX := hid hex
    have HEW := hid (HX.out.step hex)
    obtain ⟨f0, f1, f2, -, -, -⟩ := row_facts3 (HR.out.ext HEX.out)
    clear hex
    by_cases hlt : j < n
    · obtain ⟨b1, o1, e1, -, hc1⟩ := (HA.out.ext HEX.out).atI (k := j) (by rw [HL.out]; exact hlt)
      subst e1
      have hrule := hM.out.2.2.2.2 j (by rw [HL.out]; exact hlt)
      obtain ⟨u, hu⟩ : ∃ u, us.getD j 0 = u := ⟨_, rfl⟩
      rw [hu] at hc1 hrule
      have HU := hid hu
      have HRU := hid (show 1 ≤ u ∧ u ≤ 999 from ⟨hrule.1, hrule.2.1⟩)
      have HCELL : Hid (∀ W', Ext wr W' → W'.cell? ⟨w.heap.size, 0, none⟩ = some (.int .i64 m) ∧ W'.cell? ⟨w.heap.size, 1, none⟩ = some (.slice (some ⟨b1, o1, none⟩) n cc) ∧ W'.cell? ⟨b1, o1 + j, none⟩ = some (.int .i64 u)) := hid (fun W' e => by
        obtain ⟨p0, p1, -, -, -, -⟩ := row_facts3 (HR.out.ext (HEX.out.step e))
        obtain ⟨b2, o2, e2, -, hc2⟩ := (HA.out.ext (HEX.out.step e)).atI (k := j) (by rw [HL.out]; exact hlt)
        cases e2
        rw [HU.out] at hc2
        exact ⟨p0, p1, hc2⟩)
      have hcur : Ext wr wr := Ext.rfl' _
      clear hu hrule hc1
      have hjn : (j : Int) < (n : Int) := by omega
      have hjm : (j : Int) < m := by have := HNM.out; omega
      have hj0 : (0 : Int) ≤ (j : Int) := by omega
      obtain ⟨gb, hgb⟩ : ∃ gb, decide (Nat.gcd u.natAbs m.natAbs ≤ 1) = gb := ⟨_, rfl⟩
      have HGB := hid hgb
      clear hgb
      go_wp2_with fail
      go_region_held3 (fun W' => W'.cell? ⟨w.heap.size, 0, none⟩ = some (.int .i64 m) ∧ W'.cell? ⟨w.heap.size, 1, none⟩ = some (.slice (some ⟨b1, o1, none⟩) n cc) ∧ W'.cell? ⟨b1, o1 + j, none⟩ = some (.int .i64 u))
        (first | exact HCELL.out _ hcur | exact HCELL.out _ hcur.drew' | exact HCELL.out _ (hcur.alloc' _) | exact HCELL.out _ (hcur.drew'.alloc' _) | exact HCELL.out _ ((hcur.set' HB2.out.1 _).set' HB2.out.1 _) | go_keep)
        (first
          | (go_at_call 92; refine (prime_int u m _ (by have := HRU.out; omega) (by have := HRU.out; omega) (by have := HMB.out; omega) (by have := HMB.out; omega)).mono ?_; rintro e w5 ⟨rfl, hx⟩; rw [HGB.out]; have hcur := Ext.step hcur (by first | exact hx | exact Ext.undrew hx | exact Ext.step ((Ext.rfl' _).alloc' _) hx | exact Ext.step ((Ext.rfl' _).drew'.alloc' _) hx)))
      all_goals
        have HX5 := hid (HEX.out.step hcur)
        have HW5 := hid (HEW.out.step hcur)
        clear f0 f1 f2 hcur
        cases gb with
        | true =>
          have HNX : Hid (∀ i, i < j + 1 → Nat.gcd (us.getD i 0).natAbs m.natAbs ≤ 1) := hid (fun i hi => by
            rcases Nat.lt_or_ge i j with h | h
            · exact HALL.out i h
            · obtain rfl : i = j := by omega
              rw [HU.out]; exact of_decide_eq_true HGB.out)
          go_wp2
          go_roundw
          case rel => exact ⟨j + 1, by omega, by simp, HNX, HX5.out⟩
          case measure => first | (simp [intOf]; done) | (simp [intOf]; omega)
        | false =>
          have HF : Hid (r = false) := hid (by rw [← HRB.out]; exact regB_no (j := j) (by rw [HL.out]; exact hlt) (by rw [HU.out]; exact of_decide_eq_false HGB.out))
          go_wp2
          go_ret
          exact ⟨by rw [HF.out]; rfl, HW5.out⟩
    · obtain rfl : j = n := by omega
      have hjm : ¬ (j : Int) < m := by have := HNM.out; omega
      have HF : Hid (r = true) := hid (by rw [← HRB.out]; exact regB_yes (fun i hi => HALL.out i (by rw [HL.out] at hi; exact hi)))
      go_wp2
      go_ret
      exact ⟨by rw [HF.out]; rfl, HEW.out⟩
end Go.Proofs.YtimokpcopeldfaaGreatDoor
/- num.Sub, num.Gcd by contract -/
namespace Go.Proofs.YtimokpcopeldfaaGreatDoor
open Go.RowKit
theorem gcd_le {a b c : Nat} (ha : a ≤ c) (hb : b ≤ c) : Nat.gcd a b ≤ c := by
  rcases Nat.eq_zero_or_pos a with h | h
  · subst h; rw [Nat.gcd_zero_left]; exact hb
  · exact Nat.le_trans (Nat.gcd_le_left b h) ha
set_option maxRecDepth 100000 in
theorem sub_ok (l1 l2 : List UInt8) (w : World) (h1 : l1.length ≤ 140737488351232) (h2 : l2.length ≤ 140737488351232) (v1 : K.validL l1 = true) (v2 : K.validL l2 = true) (ht : Tab w) :
    Calls Tryz.prog 137 #[.string (Str l1), .string (Str l2)] w (ToldPost (K.numL l1 - K.numL l2) w) := by
  have f1 := fits_top (K.txt_numL l1 v1).2
  have f2 := fits_top (K.txt_numL l2 v2).2
  have g1 := fits_big (K.txt_numL l1 v1).2
  have g2 := fits_big (K.txt_numL l2 v2).2
  have hc := combine_ok 171 (enter_of Tryz.func171 (by kernel_rfl) (by kernel_rfl)) (K.numL l1 - K.numL l2) l1 l2 w h1 h2 v1 v2 ht (hid fun W va vb ha hb => nminus_any va vb _ _ W ha hb g1 g2) (by refine le_big (a := 224) ?_ (by omega); rw [show (224 : Nat) = 223 + 1 from rfl, TOP_add]; have := TOP_pos 223; have : TOP 1 = 1000000000 := rfl; rw [this]; omega)
  have HC := hid hc
  clear hc f1 f2 g1 g2
  go_enter Tryz.func137, Tryz.ntmps137
  go_wp2_with fail
  refine HC.out.mono ?_
  intro e w1 hq
  by_cases hf : K.fits (K.numL l1 - K.numL l2)
  · have he := hq.1 hf
    subst he
    go_wp2
    go_ret2
    exact hq
  · have he := hq.2.1 hf
    subst he
    go_wp2
    go_ret2
    exact hq
set_option maxRecDepth 100000 in
theorem sub_bad (l1 l2 : List UInt8) (w : World) (h1 : l1.length ≤ 140737488351232) (h2 : l2.length ≤ 140737488351232) (v : K.validL l1 = false ∨ K.validL l2 = false) :
    Calls Tryz.prog 137 #[.string (Str l1), .string (Str l2)] w (BadStr w) := by
  go_enter Tryz.func137, Tryz.ntmps137
  go_wp2_with fail
  refine (combine_bad _ l1 l2 w h1 h2 v).mono ?_
  rintro e w1 ⟨rfl, hx⟩
  go_wp2
  go_ret2
  exact ⟨rfl, hx⟩
end Go.Proofs.YtimokpcopeldfaaGreatDoor
/- the reference's guess -/
namespace Go.Proofs.YtimokpcopeldfaaGreatDoor
open Go.RowKit
/-- a guess: at least 1, and not too many -/
def RGuess (a b : Nat) (w : World) (e : Ending) (w' : World) : Prop := ∃ (v : Value) (g : Nat), e = .returned v ∧ RefV w' v (g : Int) ∧ 1 ≤ g ∧ g * b ≤ a ∧ Ext w w'
/-- digits of a quotient behind zeros -/
def GInv (s q : Nat) (j p : Nat) (zs : List Nat) : Prop := zs.length = s + j ∧ K.lv zs + 1000000000 ^ (s + j) * p = 1000000000 ^ s * q ∧ (∀ z ∈ zs, z < 1000000000) ∧ j ≤ 3 ∧ 1000000000 ^ j * p ≤ q
theorem GInv.start (s q : Nat) : GInv s q 0 q (List.replicate s 0) := ⟨by simp, by rw [K.lv_zeros]; simp, by simp, by omega, by simp⟩
theorem GInv.step {s q j p : Nat} {zs : List Nat} (h : GInv s q j p zs) (hp : 0 < p) (hq : q < 1000000000000000000000000000) : GInv s q (j + 1) (p / 1000000000) (zs ++ [p % 1000000000]) ∧ j < 3 := by
  obtain ⟨h1, h2, h3, h4, h5⟩ := h
  have hm := Nat.div_add_mod p 1000000000
  have hj : j < 3 := by
    rcases Nat.lt_or_ge j 3 with h | h
    · exact h
    · obtain rfl : j = 3 := by omega
      have : 1000000000 ^ 3 * 1 ≤ 1000000000 ^ 3 * p := Nat.mul_le_mul_left _ hp
      have e : (1000000000 : Nat) ^ 3 = 1000000000000000000000000000 := rfl
      rw [e] at this h5
      omega
  refine ⟨⟨by simp [h1]; omega, ?_, ?_, by omega, ?_⟩, hj⟩
  · rw [lv_snoc, h1, ← h2, show s + (j + 1) = s + j + 1 by omega, Nat.pow_succ, Nat.mul_assoc, Nat.add_assoc, ← Nat.mul_add]
    congr 2
    omega
  · intro z hz
    rcases List.mem_append.1 hz with h | h
    · exact h3 z h
    · obtain rfl : z = p % 1000000000 := by simpa using h
      omega
  · rw [Nat.pow_succ, Nat.mul_assoc]
    exact Nat.le_trans (Nat.mul_le_mul_left _ (by omega)) h5
set_option maxRecDepth 100000 in
set_option maxHeartbeats 3200000 in
theorem rguess_wide (A B : Option Addr) (ca cb jb : Nat) (s z : Nat) (x y q P R : Nat) (na nb : Bool) (xs ys : List Nat) (w : World) (ha : Rd w A (I64s xs)) (hb : Rd w B (I64s ys)) (la : xs.length = jb + (s + 1) + 1) (lb : ys.length = jb + 1)
    (hx : xs[jb + (s + 1)]? = some x) (hy : ys[jb]? = some y) (gx : x < 1000000000) (gy : y < 1000000000) (hb1 : jb + (s + 1) ≤ 1000) (hz : xs[jb + s]? = some z) (gz : z < 1000000000) (h1 : x ≤ y) (hq : q = max ((x * 1000000000 + z) / (y + 1)) 1) (hres : Hid (1000000000 ^ s * q * P ≤ R)) :
    Calls Tryz.prog 96 #[.agg #[.bool na, .slice A (jb + (s + 1) + 1 : Nat) ca], .agg #[.bool nb, .slice B (jb + 1 : Nat) cb]] w (RGuess R P w) := by
  obtain ⟨i0, hi, hz0, hz1, hz2⟩ := info_parts infoI
  have hW3 : Ext w (((w.alloc (.cells #[.bool na, .slice A (jb + (s + 1) + 1 : Nat) ca] 47)).alloc (.cells #[.bool nb, .slice B (jb + 1 : Nat) cb] 47)).alloc (.cells #[.bool false, .slice none 0 0] 47)) := (((Ext.rfl' w).alloc' _).alloc' _).alloc' _
  have hk : ∀ w', Ext (((w.alloc (.cells #[.bool na, .slice A (jb + (s + 1) + 1 : Nat) ca] 47)).alloc (.cells #[.bool nb, .slice B (jb + 1 : Nat) cb] 47)).alloc (.cells #[.bool false, .slice none 0 0] 47)) w' →
      (w'.cell? ⟨w.heap.size, 0, none⟩ = some (.bool na) ∧ w'.cell? ⟨w.heap.size, 1, none⟩ = some (.slice A (jb + (s + 1) + 1 : Nat) ca) ∧ w'.cell? ⟨w.heap.size + 1, 0, none⟩ = some (.bool nb) ∧ w'.cell? ⟨w.heap.size + 1, 1, none⟩ = some (.slice B (jb + 1 : Nat) cb)) ∧ Row w' (w.heap.size + 1 + 1) 47 [.bool false, .slice none 0 0] := by
    intro w' e
    have h1 := two_facts (W := w) (H := w.heap.size) (t := 47) (a := .bool na) (b := .slice A (jb + (s + 1) + 1 : Nat) ca) (Ext.step (((Ext.rfl' _).alloc' _).alloc' _) e) rfl
    have h2 := two_facts (W := (w.alloc (.cells #[.bool na, .slice A (jb + (s + 1) + 1 : Nat) ca] 47))) (H := w.heap.size + 1) (t := 47) (a := .bool nb) (b := .slice B (jb + 1 : Nat) cb) (Ext.step ((Ext.rfl' _).alloc' _) e) (by simp)
    have h3 := two_facts (H := w.heap.size + 1 + 1) e (by simp)
    exact ⟨⟨h1.1, h1.2.1, h2.1, h2.2.1⟩, h3.2.2.2.2.2⟩
  obtain ⟨W3, hW3e⟩ : ∃ W3, (((w.alloc (.cells #[.bool na, .slice A (jb + (s + 1) + 1 : Nat) ca] 47)).alloc (.cells #[.bool nb, .slice B (jb + 1 : Nat) cb] 47)).alloc (.cells #[.bool false, .slice none 0 0] 47)) = W3 := ⟨_, rfl⟩
  have hsz : W3.heap.size = w.heap.size + 1 + 1 + 1 := by rw [← hW3e]; simp
  rw [hW3e] at hW3
  rw [hW3e] at hk
  have ha3 := ha.ext hW3
  obtain ⟨bb, ob, y', eB, ey, hbb, hyc⟩ := (hb.ext hW3).at_ (k := jb) (by omega)
  rw [hy] at ey
  cases ey
  obtain ⟨ba, oa, x', eA, ex, hba, hxc⟩ := ha3.at_ (k := jb + (s + 1)) (by omega)
  rw [hx] at ex
  cases ex
  obtain ⟨ba2, oa2, z', eA2, ez, hba2, hzc⟩ := ha3.at_ (k := jb + s) (by omega)
  rw [hz] at ez
  cases ez
  rw [eA] at eA2
  cases eA2
  subst eA
  clear hz hba2
  subst eB
  have HK := hid hk
  have HSZ := hid hsz
  have HW3 := hid hW3
  have HE := hid hW3e
  obtain ⟨⟨k0, k1, k2, k3⟩, -⟩ := hk _ (Ext.rfl' _)
  clear hx hy la lb ha hb hba hbb ha3 hW3 hk hsz hW3e
  have hmk := fun w => mkInts s (s : Int) rfl (by omega) w
  have hsh : (jb : Int) + ((s : Int) + 1) + 1 - ((jb : Int) + 1) = (s : Int) + 1 := by omega
  have hsh2 : (s : Int) + 1 - 1 = (s : Int) := by omega
  have hin : (jb : Int) + ((s : Int) + 1) + 1 - 2 = (jb : Int) + (s : Int) := by omega
  have hqi : max (((x : Int) * 1000000000 + (z : Int)) / ((y : Int) + 1)) (1 : Int) = (q : Int) := by
    have e : ((((x * 1000000000 + z) / (y + 1) : Nat)) : Int) = ((x : Int) * 1000000000 + (z : Int)) / ((y : Int) + 1) := by rw [Int.natCast_ediv]; simp
    rw [← e, hq]
    rcases Nat.le_total ((x * 1000000000 + z) / (y + 1)) 1 with h | h
    · rw [Nat.max_eq_right h, Int.max_eq_right (by omega)]; rfl
    · rw [Nat.max_eq_left h, Int.max_eq_left (by omega)]
  have hq1 : 1 ≤ q := by rw [hq]; exact Nat.le_max_right _ _
  have hq2 : q ≤ 1000000000000000000 := by
    rw [hq]; exact Nat.max_le.2 ⟨Nat.le_trans (Nat.div_le_self _ _) (by omega), by omega⟩
  have HQ2 := hid (show q < 1000000000000000000000000000 by omega)
  have HWX := hid hq
  clear hq

  go_enter Tryz.func96, Tryz.ntmps96
  go_upto_region 1 with fail
  rw [HE.out]
  go_upto_region 8 with fail
  have QQ := hid hqi
  clear hqi hsh HWX hsh2 hin
  have hown0 := World.ownsRow_lit (base := w.heap.size + 1 + 1 + 1) (e := 3) (size := 1) W3 (madeCells #[.int .i64 0] s) s (by rw [HSZ.out]; exact Nat.le_refl _) (by unfold maxLen; omega) (by rw [made_replicate]; simp)
  rw [HSZ.out, made_replicate, show (List.replicate s (Value.int .i64 0)).toArray.toList = I64s (List.replicate s 0) by rw [← I64s_zeros]] at hown0
  have hW4 : Ext W3 (W3.alloc (.cells (List.replicate s (Value.int .i64 0)).toArray 3)) := (Ext.rfl' W3).alloc' _
  have hgi := GInv.start s q
  have HGI := hid hgi
  have HOWN0 := hid hown0
  have HW4 := hid hW4
  have hmk2 : ∀ w, (Instr.makeSlice 22 (.int .i64 s) (.int .i64 s)).run Tryz.prog w = .ok (.slice (some ⟨w.heap.size, 0, none⟩) s s) (w.alloc (.cells (List.replicate s (Value.int .i64 0)).toArray 3)) := fun w => by rw [← made_replicate]; exact hmk w
  have HSZ2 := HSZ.out
  clear hgi hown0 hW4 hmk k0 k1 k2 k3 hyc hxc hzc
  go_wp2_with fail
  go_loopw [8, 9] (fun pz v wr => ∃ (j p : Nat) (zs : List Nat) (A : Option Addr) (c : Nat), v = .slice A (s + j : Nat) c ∧ pz = .int .i64 (p : Int) ∧ p ≤ q ∧ j ≤ 3 ∧ wr.ownsRow (w.heap.size + 1 + 1 + 1) 3 1 (.slice A (s + j : Nat) c) (s + j) (I64s zs) ∧ Ext W3 wr ∧ w.heap.size + 1 + 1 + 1 ≤ wr.heap.size ∧ Hid (GInv s q j p zs)) (fun pz _ _ => (intOf pz).toNat)
  case atStart => exact ⟨0, q, List.replicate s 0, _, _, rfl, rfl, Nat.le_refl _, by omega, HOWN0.out, HW4.out, Nat.le_trans (Nat.le_of_eq HSZ2.symm) HW4.out.size, HGI⟩
  case round =>
    obtain ⟨j, p, zs, A, c, rfl, rfl, hpq, hj3, hown, hex, hszr, hinv⟩ := hrel
    have HOWN := hid hown
    clear hown
    by_cases hp : 0 < p
    · have hst := hinv.out.step hp HQ2.out
      have HST := hid hst.1
      have hj : j < 3 := hst.2
      clear hst
      go_wp2_with (at_builtin; refine wpList_append_own _ rfl _ _ 22 rfl (w.heap.size + 1 + 1 + 1) 3 i0 (.int .i64 0) 1 8 Tryz.underlying22 hi hz0 hz1 hz2 rfl (by decide) _ _ _ rfl (HOWN.out.alloc _) ⟨wr.heap.size, 0, none⟩ 1 1 [.int .i64 ((p : Int) % 1000000000)] rfl rfl (cell_one_new _ _ _) (fun u hu => by simp at hu; subst hu; rfl) ?c1 ?c2 ?c3 ?_)
      case c1 => unfold maxLen; omega
      case c2 => omega
      case c3 => first | omega | (simp; omega)
      intro v' w1 hown' hgrow hnil
      obtain ⟨g, cap, sp, rfl, hg, hc1, hc2, hrow1, hvl, hsl⟩ := own_form hown' (by omega)
      have hex' : Ext W3 w1 := (hex.alloc' _).grown hgrow (by simp; omega) (by
        intro k hk
        rw [HSZ.out]
        exact (HOWN.out.lt k hk).1)
      have hsz' : w.heap.size + 1 + 1 + 1 ≤ w1.heap.size := by have := hex'.size; omega
      have HO := hid hown'
      clear hown' hgrow hnil hrow1 hvl hsl hg hc1 hc2
      go_wp2
      go_roundw
      case rel => exact ⟨j + 1, p / 1000000000, zs ++ [p % 1000000000], _, _, rfl, by simp, by omega, by omega, by have h := HO.out; rw [show s + (j + 1) = s + j + 1 by omega]; simpa using h, hex', hsz', HST⟩
      case measure => simp [intOf]; omega
    · obtain rfl : p = 0 := by omega
      have hjc : s + j ≤ c := by
        rcases HOWN.out.2 with ⟨h, h0⟩ | ⟨g, cap, cur, h, hg, hh, hc, _⟩
        · injection h with h1 h2 h3; omega
        · injection h with h1 h2 h3; omega
      have hgz := hinv.out
      have hrd := Rd.of_own HOWN.out
      have HRD := hid hrd
      have HGZ := hid hgz
      clear hrd hgz hinv
      go_wp2_with fail
      refine (rtrim_any false A c (s + j) zs _ HRD.out HGZ.out.1 (by omega) hjc).mono ?_
      rintro e w4 ⟨k4, b4, hk4, rfl, hb4, hcut, hx4⟩
      obtain rfl : b4 = false := by rw [hb4.out]; rfl
      have hx4' := hex.step hx4
      have hval : K.lv zs = 1000000000 ^ s * q := by
        have := HGZ.out.2.1
        simpa using this
      have hQ : RefV w4 (.agg #[.bool false, .slice A k4 c]) ((K.lv zs : Nat) : Int) := by
        refine ⟨_, k4, c, zs.take k4, false, rfl, hid ?_, by rw [List.length_take]; omega, by rw [HGZ.out.1] at hk4; omega, ?_, hcut.lim HGZ.out.2.2.1, by rw [hcut.lv]; rfl⟩
        · symm; exact decide_eq_false (by omega)
        · rw [show I64s (zs.take k4) = (I64s zs).take k4 from List.map_take ..]
          exact (HRD.out.ext hx4).take k4
      have hrr := (HK.out _ hx4').2
      have hfin : RGuess R P w (.returned (.agg #[.bool false, .slice A k4 c])) ((w4.setCell ⟨w.heap.size + 1 + 1, 0, none⟩ (.bool false)).setCell ⟨w.heap.size + 1 + 1, 1, none⟩ (.slice A k4 c)) := by
        have hh := NumInt.stored (r := 0) hrr (HW3.out.step hx4') (by omega) hQ
        obtain ⟨v, e1, e2, e3⟩ := hh
        cases e1
        refine ⟨_, K.lv zs, rfl, e2, ?_, by rw [hval]; exact hres.out, e3⟩
        rw [hval]
        exact Nat.mul_pos (Nat.pow_pos (by omega)) (by omega)
      have HF := hid hfin
      obtain ⟨g0, g1, g2, g3⟩ := row_facts hrr
      clear hfin hrr hQ hval hcut
      go_wp2
      refine bodyPost_ret (v := .agg #[.bool false, .slice A k4 c]) (by simp [results, Tryz.results96, go_sem, g0, g1]) rfl HF.out
set_option maxRecDepth 100000 in
set_option maxHeartbeats 3200000 in
theorem rguess_flat (A B : Option Addr) (ca cb jb : Nat) (s : Nat) (x y q P R : Nat) (na nb : Bool) (xs ys : List Nat) (w : World) (ha : Rd w A (I64s xs)) (hb : Rd w B (I64s ys)) (la : xs.length = jb + s + 1) (lb : ys.length = jb + 1)
    (hx : xs[jb + s]? = some x) (hy : ys[jb]? = some y) (gx : x < 1000000000) (gy : y < 1000000000) (hb1 : jb + s ≤ 1000)  (h1 : x ≤ y) (h2 : ¬ 0 < s) (hq : q = max (x / (y + 1)) 1) (hres : Hid (1000000000 ^ s * q * P ≤ R)) :
    Calls Tryz.prog 96 #[.agg #[.bool na, .slice A (jb + s + 1 : Nat) ca], .agg #[.bool nb, .slice B (jb + 1 : Nat) cb]] w (RGuess R P w) := by
  obtain ⟨i0, hi, hz0, hz1, hz2⟩ := info_parts infoI
  have hW3 : Ext w (((w.alloc (.cells #[.bool na, .slice A (jb + s + 1 : Nat) ca] 47)).alloc (.cells #[.bool nb, .slice B (jb + 1 : Nat) cb] 47)).alloc (.cells #[.bool false, .slice none 0 0] 47)) := (((Ext.rfl' w).alloc' _).alloc' _).alloc' _
  have hk : ∀ w', Ext (((w.alloc (.cells #[.bool na, .slice A (jb + s + 1 : Nat) ca] 47)).alloc (.cells #[.bool nb, .slice B (jb + 1 : Nat) cb] 47)).alloc (.cells #[.bool false, .slice none 0 0] 47)) w' →
      (w'.cell? ⟨w.heap.size, 0, none⟩ = some (.bool na) ∧ w'.cell? ⟨w.heap.size, 1, none⟩ = some (.slice A (jb + s + 1 : Nat) ca) ∧ w'.cell? ⟨w.heap.size + 1, 0, none⟩ = some (.bool nb) ∧ w'.cell? ⟨w.heap.size + 1, 1, none⟩ = some (.slice B (jb + 1 : Nat) cb)) ∧ Row w' (w.heap.size + 1 + 1) 47 [.bool false, .slice none 0 0] := by
    intro w' e
    have h1 := two_facts (W := w) (H := w.heap.size) (t := 47) (a := .bool na) (b := .slice A (jb + s + 1 : Nat) ca) (Ext.step (((Ext.rfl' _).alloc' _).alloc' _) e) rfl
    have h2 := two_facts (W := (w.alloc (.cells #[.bool na, .slice A (jb + s + 1 : Nat) ca] 47))) (H := w.heap.size + 1) (t := 47) (a := .bool nb) (b := .slice B (jb + 1 : Nat) cb) (Ext.step ((Ext.rfl' _).alloc' _) e) (by simp)
    have h3 := two_facts (H := w.heap.size + 1 + 1) e (by simp)
    exact ⟨⟨h1.1, h1.2.1, h2.1, h2.2.1⟩, h3.2.2.2.2.2⟩
  obtain ⟨W3, hW3e⟩ : ∃ W3, (((w.alloc (.cells #[.bool na, .slice A (jb + s + 1 : Nat) ca] 47)).alloc (.cells #[.bool nb, .slice B (jb + 1 : Nat) cb] 47)).alloc (.cells #[.bool false, .slice none 0 0] 47)) = W3 := ⟨_, rfl⟩
  have hsz : W3.heap.size = w.heap.size + 1 + 1 + 1 := by rw [← hW3e]; simp
  rw [hW3e] at hW3
  rw [hW3e] at hk
  have ha3 := ha.ext hW3
  obtain ⟨bb, ob, y', eB, ey, hbb, hyc⟩ := (hb.ext hW3).at_ (k := jb) (by omega)
  rw [hy] at ey
  cases ey
  obtain ⟨ba, oa, x', eA, ex, hba, hxc⟩ := ha3.at_ (k := jb + s) (by omega)
  rw [hx] at ex
  cases ex
  subst eA
  subst eB
  have HK := hid hk
  have HSZ := hid hsz
  have HW3 := hid hW3
  have HE := hid hW3e
  obtain ⟨⟨k0, k1, k2, k3⟩, -⟩ := hk _ (Ext.rfl' _)
  clear hx hy la lb ha hb hba hbb ha3 hW3 hk hsz hW3e
  have hmk := fun w => mkInts s (s : Int) rfl (by omega) w
  have hsh : (jb : Int) + ((s : Int)) + 1 - ((jb : Int) + 1) = (s : Int) := by omega
  have hqi : max ((x : Int) / ((y : Int) + 1)) (1 : Int) = (q : Int) := by
    have e : (((x / (y + 1) : Nat)) : Int) = (x : Int) / ((y : Int) + 1) := by rw [Int.natCast_ediv]; simp
    rw [← e, hq]
    rcases Nat.le_total (x / (y + 1)) 1 with h | h
    · rw [Nat.max_eq_right h, Int.max_eq_right (by omega)]; rfl
    · rw [Nat.max_eq_left h, Int.max_eq_left (by omega)]
  have hq1 : 1 ≤ q := by rw [hq]; exact Nat.le_max_right _ _
  have hq2 : q ≤ 1000000000000000000 := by
    rw [hq]; exact Nat.max_le.2 ⟨Nat.le_trans (Nat.div_le_self _ _) (by omega), by omega⟩
  have HQ2 := hid (show q < 1000000000000000000000000000 by omega)
  have HWX := hid hq
  clear hq
  have hwx : wrap64 ((x : Int) / ((y : Int) + 1)) = (x : Int) / ((y : Int) + 1) := IntWalk.wrap64_in _ ⟨by have := Int.ediv_nonneg (a := (x : Int)) (b := (y : Int) + 1) (by omega) (by omega); omega, by have := Int.ediv_le_self (b := (y : Int) + 1) (show (0 : Int) ≤ (x : Int) by omega); omega⟩
  go_enter Tryz.func96, Tryz.ntmps96
  go_upto_region 1 with fail
  rw [HE.out]
  go_upto_region 8 with fail
  have QQ := hid hqi
  clear hqi hsh HWX hwx
  have hown0 := World.ownsRow_lit (base := w.heap.size + 1 + 1 + 1) (e := 3) (size := 1) W3 (madeCells #[.int .i64 0] s) s (by rw [HSZ.out]; exact Nat.le_refl _) (by unfold maxLen; omega) (by rw [made_replicate]; simp)
  rw [HSZ.out, made_replicate, show (List.replicate s (Value.int .i64 0)).toArray.toList = I64s (List.replicate s 0) by rw [← I64s_zeros]] at hown0
  have hW4 : Ext W3 (W3.alloc (.cells (List.replicate s (Value.int .i64 0)).toArray 3)) := (Ext.rfl' W3).alloc' _
  have hgi := GInv.start s q
  have HGI := hid hgi
  have HOWN0 := hid hown0
  have HW4 := hid hW4
  have hmk2 : ∀ w, (Instr.makeSlice 22 (.int .i64 s) (.int .i64 s)).run Tryz.prog w = .ok (.slice (some ⟨w.heap.size, 0, none⟩) s s) (w.alloc (.cells (List.replicate s (Value.int .i64 0)).toArray 3)) := fun w => by rw [← made_replicate]; exact hmk w
  have HSZ2 := HSZ.out
  clear hgi hown0 hW4 hmk k0 k1 k2 k3 hyc hxc
  go_wp2_with fail
  go_loopw [8, 9] (fun pz v wr => ∃ (j p : Nat) (zs : List Nat) (A : Option Addr) (c : Nat), v = .slice A (s + j : Nat) c ∧ pz = .int .i64 (p : Int) ∧ p ≤ q ∧ j ≤ 3 ∧ wr.ownsRow (w.heap.size + 1 + 1 + 1) 3 1 (.slice A (s + j : Nat) c) (s + j) (I64s zs) ∧ Ext W3 wr ∧ w.heap.size + 1 + 1 + 1 ≤ wr.heap.size ∧ Hid (GInv s q j p zs)) (fun pz _ _ => (intOf pz).toNat)
  case atStart => exact ⟨0, q, List.replicate s 0, _, _, rfl, rfl, Nat.le_refl _, by omega, HOWN0.out, HW4.out, Nat.le_trans (Nat.le_of_eq HSZ2.symm) HW4.out.size, HGI⟩
  case round =>
    obtain ⟨j, p, zs, A, c, rfl, rfl, hpq, hj3, hown, hex, hszr, hinv⟩ := hrel
    have HOWN := hid hown
    clear hown
    by_cases hp : 0 < p
    · have hst := hinv.out.step hp HQ2.out
      have HST := hid hst.1
      have hj : j < 3 := hst.2
      clear hst
      go_wp2_with (at_builtin; refine wpList_append_own _ rfl _ _ 22 rfl (w.heap.size + 1 + 1 + 1) 3 i0 (.int .i64 0) 1 8 Tryz.underlying22 hi hz0 hz1 hz2 rfl (by decide) _ _ _ rfl (HOWN.out.alloc _) ⟨wr.heap.size, 0, none⟩ 1 1 [.int .i64 ((p : Int) % 1000000000)] rfl rfl (cell_one_new _ _ _) (fun u hu => by simp at hu; subst hu; rfl) ?c1 ?c2 ?c3 ?_)
      case c1 => unfold maxLen; omega
      case c2 => omega
      case c3 => first | omega | (simp; omega)
      intro v' w1 hown' hgrow hnil
      obtain ⟨g, cap, sp, rfl, hg, hc1, hc2, hrow1, hvl, hsl⟩ := own_form hown' (by omega)
      have hex' : Ext W3 w1 := (hex.alloc' _).grown hgrow (by simp; omega) (by
        intro k hk
        rw [HSZ.out]
        exact (HOWN.out.lt k hk).1)
      have hsz' : w.heap.size + 1 + 1 + 1 ≤ w1.heap.size := by have := hex'.size; omega
      have HO := hid hown'
      clear hown' hgrow hnil hrow1 hvl hsl hg hc1 hc2
      go_wp2
      go_roundw
      case rel => exact ⟨j + 1, p / 1000000000, zs ++ [p % 1000000000], _, _, rfl, by simp, by omega, by omega, by have h := HO.out; rw [show s + (j + 1) = s + j + 1 by omega]; simpa using h, hex', hsz', HST⟩
      case measure => simp [intOf]; omega
    · obtain rfl : p = 0 := by omega
      have hjc : s + j ≤ c := by
        rcases HOWN.out.2 with ⟨h, h0⟩ | ⟨g, cap, cur, h, hg, hh, hc, _⟩
        · injection h with h1 h2 h3; omega
        · injection h with h1 h2 h3; omega
      have hgz := hinv.out
      have hrd := Rd.of_own HOWN.out
      have HRD := hid hrd
      have HGZ := hid hgz
      clear hrd hgz hinv
      go_wp2_with fail
      refine (rtrim_any false A c (s + j) zs _ HRD.out HGZ.out.1 (by omega) hjc).mono ?_
      rintro e w4 ⟨k4, b4, hk4, rfl, hb4, hcut, hx4⟩
      obtain rfl : b4 = false := by rw [hb4.out]; rfl
      have hx4' := hex.step hx4
      have hval : K.lv zs = 1000000000 ^ s * q := by
        have := HGZ.out.2.1
        simpa using this
      have hQ : RefV w4 (.agg #[.bool false, .slice A k4 c]) ((K.lv zs : Nat) : Int) := by
        refine ⟨_, k4, c, zs.take k4, false, rfl, hid ?_, by rw [List.length_take]; omega, by rw [HGZ.out.1] at hk4; omega, ?_, hcut.lim HGZ.out.2.2.1, by rw [hcut.lv]; rfl⟩
        · symm; exact decide_eq_false (by omega)
        · rw [show I64s (zs.take k4) = (I64s zs).take k4 from List.map_take ..]
          exact (HRD.out.ext hx4).take k4
      have hrr := (HK.out _ hx4').2
      have hfin : RGuess R P w (.returned (.agg #[.bool false, .slice A k4 c])) ((w4.setCell ⟨w.heap.size + 1 + 1, 0, none⟩ (.bool false)).setCell ⟨w.heap.size + 1 + 1, 1, none⟩ (.slice A k4 c)) := by
        have hh := NumInt.stored (r := 0) hrr (HW3.out.step hx4') (by omega) hQ
        obtain ⟨v, e1, e2, e3⟩ := hh
        cases e1
        refine ⟨_, K.lv zs, rfl, e2, ?_, by rw [hval]; exact hres.out, e3⟩
        rw [hval]
        exact Nat.mul_pos (Nat.pow_pos (by omega)) (by omega)
      have HF := hid hfin
      obtain ⟨g0, g1, g2, g3⟩ := row_facts hrr
      clear hfin hrr hQ hval hcut
      go_wp2
      refine bodyPost_ret (v := .agg #[.bool false, .slice A k4 c]) (by simp [results, Tryz.results96, go_sem, g0, g1]) rfl HF.out
set_option maxRecDepth 100000 in
set_option maxHeartbeats 3200000 in
theorem rguess_more (A B : Option Addr) (ca cb jb : Nat) (s : Nat) (x y q P R : Nat) (na nb : Bool) (xs ys : List Nat) (w : World) (ha : Rd w A (I64s xs)) (hb : Rd w B (I64s ys)) (la : xs.length = jb + s + 1) (lb : ys.length = jb + 1)
    (hx : xs[jb + s]? = some x) (hy : ys[jb]? = some y) (gx : x < 1000000000) (gy : y < 1000000000) (hb1 : jb + s ≤ 1000)  (h1 : ¬ x ≤ y) (hq : q = max (x / (y + 1)) 1) (hres : Hid (1000000000 ^ s * q * P ≤ R)) :
    Calls Tryz.prog 96 #[.agg #[.bool na, .slice A (jb + s + 1 : Nat) ca], .agg #[.bool nb, .slice B (jb + 1 : Nat) cb]] w (RGuess R P w) := by
  obtain ⟨i0, hi, hz0, hz1, hz2⟩ := info_parts infoI
  have hW3 : Ext w (((w.alloc (.cells #[.bool na, .slice A (jb + s + 1 : Nat) ca] 47)).alloc (.cells #[.bool nb, .slice B (jb + 1 : Nat) cb] 47)).alloc (.cells #[.bool false, .slice none 0 0] 47)) := (((Ext.rfl' w).alloc' _).alloc' _).alloc' _
  have hk : ∀ w', Ext (((w.alloc (.cells #[.bool na, .slice A (jb + s + 1 : Nat) ca] 47)).alloc (.cells #[.bool nb, .slice B (jb + 1 : Nat) cb] 47)).alloc (.cells #[.bool false, .slice none 0 0] 47)) w' →
      (w'.cell? ⟨w.heap.size, 0, none⟩ = some (.bool na) ∧ w'.cell? ⟨w.heap.size, 1, none⟩ = some (.slice A (jb + s + 1 : Nat) ca) ∧ w'.cell? ⟨w.heap.size + 1, 0, none⟩ = some (.bool nb) ∧ w'.cell? ⟨w.heap.size + 1, 1, none⟩ = some (.slice B (jb + 1 : Nat) cb)) ∧ Row w' (w.heap.size + 1 + 1) 47 [.bool false, .slice none 0 0] := by
    intro w' e
    have h1 := two_facts (W := w) (H := w.heap.size) (t := 47) (a := .bool na) (b := .slice A (jb + s + 1 : Nat) ca) (Ext.step (((Ext.rfl' _).alloc' _).alloc' _) e) rfl
    have h2 := two_facts (W := (w.alloc (.cells #[.bool na, .slice A (jb + s + 1 : Nat) ca] 47))) (H := w.heap.size + 1) (t := 47) (a := .bool nb) (b := .slice B (jb + 1 : Nat) cb) (Ext.step ((Ext.rfl' _).alloc' _) e) (by simp)
    have h3 := two_facts (H := w.heap.size + 1 + 1) e (by simp)
    exact ⟨⟨h1.1, h1.2.1, h2.1, h2.2.1⟩, h3.2.2.2.2.2⟩
  obtain ⟨W3, hW3e⟩ : ∃ W3, (((w.alloc (.cells #[.bool na, .slice A (jb + s + 1 : Nat) ca] 47)).alloc (.cells #[.bool nb, .slice B (jb + 1 : Nat) cb] 47)).alloc (.cells #[.bool false, .slice none 0 0] 47)) = W3 := ⟨_, rfl⟩
  have hsz : W3.heap.size = w.heap.size + 1 + 1 + 1 := by rw [← hW3e]; simp
  rw [hW3e] at hW3
  rw [hW3e] at hk
  have ha3 := ha.ext hW3
  obtain ⟨bb, ob, y', eB, ey, hbb, hyc⟩ := (hb.ext hW3).at_ (k := jb) (by omega)
  rw [hy] at ey
  cases ey
  obtain ⟨ba, oa, x', eA, ex, hba, hxc⟩ := ha3.at_ (k := jb + s) (by omega)
  rw [hx] at ex
  cases ex
  subst eA
  subst eB
  have HK := hid hk
  have HSZ := hid hsz
  have HW3 := hid hW3
  have HE := hid hW3e
  obtain ⟨⟨k0, k1, k2, k3⟩, -⟩ := hk _ (Ext.rfl' _)
  clear hx hy la lb ha hb hba hbb ha3 hW3 hk hsz hW3e
  have hmk := fun w => mkInts s (s : Int) rfl (by omega) w
  have hsh : (jb : Int) + ((s : Int)) + 1 - ((jb : Int) + 1) = (s : Int) := by omega
  have hqi : max ((x : Int) / ((y : Int) + 1)) (1 : Int) = (q : Int) := by
    have e : (((x / (y + 1) : Nat)) : Int) = (x : Int) / ((y : Int) + 1) := by rw [Int.natCast_ediv]; simp
    rw [← e, hq]
    rcases Nat.le_total (x / (y + 1)) 1 with h | h
    · rw [Nat.max_eq_right h, Int.max_eq_right (by omega)]; rfl
    · rw [Nat.max_eq_left h, Int.max_eq_left (by omega)]
  have hq1 : 1 ≤ q := by rw [hq]; exact Nat.le_max_right _ _
  have hq2 : q ≤ 1000000000000000000 := by
    rw [hq]; exact Nat.max_le.2 ⟨Nat.le_trans (Nat.div_le_self _ _) (by omega), by omega⟩
  have HQ2 := hid (show q < 1000000000000000000000000000 by omega)
  have HWX := hid hq
  clear hq
  have hwx : wrap64 ((x : Int) / ((y : Int) + 1)) = (x : Int) / ((y : Int) + 1) := IntWalk.wrap64_in _ ⟨by have := Int.ediv_nonneg (a := (x : Int)) (b := (y : Int) + 1) (by omega) (by omega); omega, by have := Int.ediv_le_self (b := (y : Int) + 1) (show (0 : Int) ≤ (x : Int) by omega); omega⟩
  go_enter Tryz.func96, Tryz.ntmps96
  go_upto_region 1 with fail
  rw [HE.out]
  go_upto_region 8 with fail
  have QQ := hid hqi
  clear hqi hsh HWX hwx
  have hown0 := World.ownsRow_lit (base := w.heap.size + 1 + 1 + 1) (e := 3) (size := 1) W3 (madeCells #[.int .i64 0] s) s (by rw [HSZ.out]; exact Nat.le_refl _) (by unfold maxLen; omega) (by rw [made_replicate]; simp)
  rw [HSZ.out, made_replicate, show (List.replicate s (Value.int .i64 0)).toArray.toList = I64s (List.replicate s 0) by rw [← I64s_zeros]] at hown0
  have hW4 : Ext W3 (W3.alloc (.cells (List.replicate s (Value.int .i64 0)).toArray 3)) := (Ext.rfl' W3).alloc' _
  have hgi := GInv.start s q
  have HGI := hid hgi
  have HOWN0 := hid hown0
  have HW4 := hid hW4
  have hmk2 : ∀ w, (Instr.makeSlice 22 (.int .i64 s) (.int .i64 s)).run Tryz.prog w = .ok (.slice (some ⟨w.heap.size, 0, none⟩) s s) (w.alloc (.cells (List.replicate s (Value.int .i64 0)).toArray 3)) := fun w => by rw [← made_replicate]; exact hmk w
  have HSZ2 := HSZ.out
  clear hgi hown0 hW4 hmk k0 k1 k2 k3 hyc hxc
  go_wp2_with fail
  go_loopw [8, 9] (fun pz v wr => ∃ (j p : Nat) (zs : List Nat) (A : Option Addr) (c : Nat), v = .slice A (s + j : Nat) c ∧ pz = .int .i64 (p : Int) ∧ p ≤ q ∧ j ≤ 3 ∧ wr.ownsRow (w.heap.size + 1 + 1 + 1) 3 1 (.slice A (s + j : Nat) c) (s + j) (I64s zs) ∧ Ext W3 wr ∧ w.heap.size + 1 + 1 + 1 ≤ wr.heap.size ∧ Hid (GInv s q j p zs)) (fun pz _ _ => (intOf pz).toNat)
  case atStart => exact ⟨0, q, List.replicate s 0, _, _, rfl, rfl, Nat.le_refl _, by omega, HOWN0.out, HW4.out, Nat.le_trans (Nat.le_of_eq HSZ2.symm) HW4.out.size, HGI⟩
  case round =>
    obtain ⟨j, p, zs, A, c, rfl, rfl, hpq, hj3, hown, hex, hszr, hinv⟩ := hrel
    have HOWN := hid hown
    clear hown
    by_cases hp : 0 < p
    · have hst := hinv.out.step hp HQ2.out
      have HST := hid hst.1
      have hj : j < 3 := hst.2
      clear hst
      go_wp2_with (at_builtin; refine wpList_append_own _ rfl _ _ 22 rfl (w.heap.size + 1 + 1 + 1) 3 i0 (.int .i64 0) 1 8 Tryz.underlying22 hi hz0 hz1 hz2 rfl (by decide) _ _ _ rfl (HOWN.out.alloc _) ⟨wr.heap.size, 0, none⟩ 1 1 [.int .i64 ((p : Int) % 1000000000)] rfl rfl (cell_one_new _ _ _) (fun u hu => by simp at hu; subst hu; rfl) ?c1 ?c2 ?c3 ?_)
      case c1 => unfold maxLen; omega
      case c2 => omega
      case c3 => first | omega | (simp; omega)
      intro v' w1 hown' hgrow hnil
      obtain ⟨g, cap, sp, rfl, hg, hc1, hc2, hrow1, hvl, hsl⟩ := own_form hown' (by omega)
      have hex' : Ext W3 w1 := (hex.alloc' _).grown hgrow (by simp; omega) (by
        intro k hk
        rw [HSZ.out]
        exact (HOWN.out.lt k hk).1)
      have hsz' : w.heap.size + 1 + 1 + 1 ≤ w1.heap.size := by have := hex'.size; omega
      have HO := hid hown'
      clear hown' hgrow hnil hrow1 hvl hsl hg hc1 hc2
      go_wp2
      go_roundw
      case rel => exact ⟨j + 1, p / 1000000000, zs ++ [p % 1000000000], _, _, rfl, by simp, by omega, by omega, by have h := HO.out; rw [show s + (j + 1) = s + j + 1 by omega]; simpa using h, hex', hsz', HST⟩
      case measure => simp [intOf]; omega
    · obtain rfl : p = 0 := by omega
      have hjc : s + j ≤ c := by
        rcases HOWN.out.2 with ⟨h, h0⟩ | ⟨g, cap, cur, h, hg, hh, hc, _⟩
        · injection h with h1 h2 h3; omega
        · injection h with h1 h2 h3; omega
      have hgz := hinv.out
      have hrd := Rd.of_own HOWN.out
      have HRD := hid hrd
      have HGZ := hid hgz
      clear hrd hgz hinv
      go_wp2_with fail
      refine (rtrim_any false A c (s + j) zs _ HRD.out HGZ.out.1 (by omega) hjc).mono ?_
      rintro e w4 ⟨k4, b4, hk4, rfl, hb4, hcut, hx4⟩
      obtain rfl : b4 = false := by rw [hb4.out]; rfl
      have hx4' := hex.step hx4
      have hval : K.lv zs = 1000000000 ^ s * q := by
        have := HGZ.out.2.1
        simpa using this
      have hQ : RefV w4 (.agg #[.bool false, .slice A k4 c]) ((K.lv zs : Nat) : Int) := by
        refine ⟨_, k4, c, zs.take k4, false, rfl, hid ?_, by rw [List.length_take]; omega, by rw [HGZ.out.1] at hk4; omega, ?_, hcut.lim HGZ.out.2.2.1, by rw [hcut.lv]; rfl⟩
        · symm; exact decide_eq_false (by omega)
        · rw [show I64s (zs.take k4) = (I64s zs).take k4 from List.map_take ..]
          exact (HRD.out.ext hx4).take k4
      have hrr := (HK.out _ hx4').2
      have hfin : RGuess R P w (.returned (.agg #[.bool false, .slice A k4 c])) ((w4.setCell ⟨w.heap.size + 1 + 1, 0, none⟩ (.bool false)).setCell ⟨w.heap.size + 1 + 1, 1, none⟩ (.slice A k4 c)) := by
        have hh := NumInt.stored (r := 0) hrr (HW3.out.step hx4') (by omega) hQ
        obtain ⟨v, e1, e2, e3⟩ := hh
        cases e1
        refine ⟨_, K.lv zs, rfl, e2, ?_, by rw [hval]; exact hres.out, e3⟩
        rw [hval]
        exact Nat.mul_pos (Nat.pow_pos (by omega)) (by omega)
      have HF := hid hfin
      obtain ⟨g0, g1, g2, g3⟩ := row_facts hrr
      clear hfin hrr hQ hval hcut
      go_wp2
      refine bodyPost_ret (v := .agg #[.bool false, .slice A k4 c]) (by simp [results, Tryz.results96, go_sem, g0, g1]) rfl HF.out
end Go.Proofs.YtimokpcopeldfaaGreatDoor
/- the reference's guess, of any two numbers -/
namespace Go.Proofs.YtimokpcopeldfaaGreatDoor
open Go.RowKit
theorem top_pos {xs : List Nat} {j x : Nat} (hL : K.Lim xs) (hl : xs.length = j + 1) (hx : xs[j]? = some x) : 0 < x ∧ K.lv xs = K.lv (xs.take j) + 1000000000 ^ j * x ∧ K.lv (xs.take j) < 1000000000 ^ j := by
  have e := lv_take_at hx
  rw [List.take_of_length_le (by omega)] at e
  refine ⟨?_, e, ?_⟩
  · rcases Nat.eq_zero_or_pos x with h | h
    · exfalso
      apply hL.2
      rw [List.getLast?_eq_getElem?, hl, Nat.add_sub_cancel, hx, h]
    · exact h
  · have := K.lv_lt (xs.take j) (fun z hz => hL.1 z (List.mem_of_mem_take hz))
    rwa [List.length_take, Nat.min_eq_left (by omega)] at this
theorem guess_le {s q y jb T P R : Nat} (hq : q * (y + 1) ≤ T) (hP : P ≤ 1000000000 ^ jb * (y + 1)) (hR : 1000000000 ^ (jb + s) * T ≤ R) : 1000000000 ^ s * q * P ≤ R := by
  have h1 : 1000000000 ^ s * q * P ≤ 1000000000 ^ s * q * (1000000000 ^ jb * (y + 1)) := Nat.mul_le_mul_left _ hP
  have h2 : 1000000000 ^ s * q * (1000000000 ^ jb * (y + 1)) = 1000000000 ^ (jb + s) * (q * (y + 1)) := by
    rw [Nat.pow_add]
    simp only [Nat.mul_assoc, Nat.mul_comm, Nat.mul_left_comm]
  have h3 : 1000000000 ^ (jb + s) * (q * (y + 1)) ≤ 1000000000 ^ (jb + s) * T := Nat.mul_le_mul_left _ hq
  omega
theorem rguess_any (va vb : Value) (a b : Nat) (w : World) (ha : RefV w va (a : Int)) (hb : RefV w vb (b : Int)) (la : a ≤ BIG) (h0 : 0 < b) (hba : b ≤ a) :
    Calls Tryz.prog 96 #[va, vb] w (RGuess a b w) := by
  obtain ⟨A, ka, ca, xs, na, rfl, -, hla, hca, hra, hLa, hva⟩ := ha
  obtain ⟨B, kb, cb, ys, nb, rfl, -, hlb, hcb, hrb, hLb, hvb⟩ := hb
  rw [Int.natAbs_natCast] at hva hvb
  have l1 := len_of_big hLa (by omega)
  have l2 := lim_len hLa hLb (by omega)
  have hyne : ys ≠ [] := by intro e; rw [e] at hvb; simp [K.lv] at hvb; omega
  have hypos : 0 < ys.length := List.length_pos_iff.2 hyne
  obtain ⟨jb, rfl⟩ : ∃ jb, kb = jb + 1 := ⟨kb - 1, by omega⟩
  obtain ⟨s, rfl⟩ : ∃ s, ka = jb + s + 1 := ⟨ka - (jb + 1), by omega⟩
  obtain ⟨x, hx⟩ : ∃ x, xs[jb + s]? = some x := ⟨_, List.getElem?_eq_getElem (by omega)⟩
  obtain ⟨y, hy⟩ : ∃ y, ys[jb]? = some y := ⟨_, List.getElem?_eq_getElem (by omega)⟩
  have gx := hLa.1 x (mem_at hx)
  have gy := hLb.1 y (mem_at hy)
  obtain ⟨x0, ex, ex2⟩ := top_pos hLa hla hx
  obtain ⟨y0, ey, ey2⟩ := top_pos hLb hlb hy
  have hP : b ≤ 1000000000 ^ jb * (y + 1) := by rw [Nat.mul_add, ← hvb]; omega
  have hR : 1000000000 ^ (jb + s) * x ≤ a := by rw [← hva]; omega
  by_cases h1 : x ≤ y
  · by_cases h2 : 0 < s
    · obtain ⟨s, rfl⟩ : ∃ t, s = t + 1 := ⟨s - 1, by omega⟩
      obtain ⟨z, hz⟩ : ∃ z, xs[jb + s]? = some z := ⟨_, List.getElem?_eq_getElem (by omega)⟩
      have gz := hLa.1 z (mem_at hz)
      have e3 := lv_take_at hz
      have hR2 : 1000000000 ^ (jb + s) * (x * 1000000000 + z) ≤ a := by
        rw [Nat.mul_add, ← hva, ex]
        rw [show jb + (s + 1) = jb + s + 1 by omega, e3, Nat.pow_succ, Nat.mul_comm x, ← Nat.mul_assoc]
        omega
      have hmax : max ((x * 1000000000 + z) / (y + 1)) 1 = (x * 1000000000 + z) / (y + 1) := by
        refine Nat.max_eq_left ?_
        rw [Nat.le_div_iff_mul_le (by omega)]; omega
      exact rguess_wide A B ca cb jb s z x y _ b a na nb xs ys w hra hrb (by omega) hlb hx hy gx gy (by omega) hz gz h1 rfl (hid (by rw [hmax]; exact guess_le (Nat.div_mul_le_self _ _) hP hR2))
    · have hmax : max (x / (y + 1)) 1 = 1 := by rw [Nat.div_eq_of_lt (by omega)]; rfl
      exact rguess_flat A B ca cb jb s x y _ b a na nb xs ys w hra hrb (by omega) hlb hx hy gx gy (by omega) h1 h2 rfl (hid (by rw [hmax, show s = 0 by omega]; simpa using hba))
  · have hmax : max (x / (y + 1)) 1 = x / (y + 1) := by
      refine Nat.max_eq_left ?_
      rw [Nat.le_div_iff_mul_le (by omega)]; omega
    exact rguess_more A B ca cb jb s x y _ b a na nb xs ys w hra hrb (by omega) hlb hx hy gx gy (by omega) h1 rfl (hid (by rw [hmax]; exact guess_le (Nat.div_mul_le_self _ _) hP hR))
end Go.Proofs.YtimokpcopeldfaaGreatDoor
