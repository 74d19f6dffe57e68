/- Joined texts: package sieve: Sieve, where the map and the number suit; package sieve: Sieve, the error ways; the sieve law package's awake: the numbers; the sieve law package's awake; the reference's Rests of layer 4; the law WordReads; the law WordTerras; the sieve law package's may; TopWords: the mathematics: bounds of numbers of at most 601 signs along 40 steps; package katabasistop: wrapped, power, sameInts, short; the program's calls as TopWords meets them, every text a letter. -/
import Derived.Laws.EntriesVeiled
import Derived.Test.YtleccblkafcidaaGreatDoorJG20
import Derived.Test.YtleccblkafcidaaGreatDoorJG18
import Derived.Test.YtleccblkafcidaaGreatDoorJG16
import Derived.Test.YtleccblkafcidaaGreatDoorJG19
import Derived.Test.YtleccblkafcidaaGreatDoorJG11
import Derived.Test.YtleccblkafcidaaGreatDoorJG07
import Derived.StillTailTactics
import Derived.Test.YtleccblkafcidaaGreatDoorJG17
set_option linter.unusedSimpArgs false
set_option linter.unusedVariables false
/- package sieve: Sieve, where the map and the number suit -/
namespace Go.Proofs.YtleccblkafcidaaGreatDoor
open Go.RowKit
/-- what Sieve tells where all suits -/
def SieveC (m : Int) (us ad : List Int) (k M : Nat) (w : World) (e : Ending) (w' : World) : Prop :=
  ∃ (vF vL : Value) (base nF nL : Nat), e = .returned (.tuple #[vF, vL, .int .i64 0]) ∧ w.heap.size ≤ base ∧ w'.ownsRow base 40 6 vF nF ((srtF (vis M us ad k k 0 0).1).flatMap (encF (fTxt m us ad))) ∧ w'.ownsRow base 3 1 vL nL (Is (srtI (vis M us ad k k 0 0).2)) ∧ Ext w w'
theorem ext_by {w W W' : World} {row : Option Nat} (h : Ext w W) (hg : W.grownBy W' row) (hr : ∀ k, row = some k → w.heap.size ≤ k) : Ext w W' :=
  ⟨hg.os.trans h.os, hg.tape.trans h.tape, hg.output.trans h.output, Nat.le_trans h.size hg.size, fun j hj => (hg.block j (Nat.lt_of_lt_of_le hj h.size) (fun e => by have := hr j e.symm; omega)).trans (h.block j hj)⟩
theorem own_two {w : World} {base n1 n2 s1 s2 : Nat} {v1 v2 : Value} {xs ys : List Value} (h1 : w.ownsRow base 40 s1 v1 n1 xs) (h2 : w.ownsRow base 3 s2 v2 n2 ys) : ∀ g, v1.ownBlock = some g → v2.ownBlock = some g → False := by
  intro g e1 e2
  obtain ⟨-, hF⟩ := h1
  obtain ⟨-, hL⟩ := h2
  rcases hF with ⟨rfl, -⟩ | ⟨g1, c1, u1, rfl, -, e3, -⟩
  · cases e1
  · rcases hL with ⟨rfl, -⟩ | ⟨g2, c2, u2, rfl, -, e4, -⟩
    · cases e2
    · injection e1 with e1
      injection e2 with e2
      have h1' : g1 = g := e1
      have h2' : g2 = g := e2
      subst h1' h2'
      rw [e3] at e4
      injection e4 with e4
      injection e4 with _ e5 _
      exact absurd e5 (by decide)
set_option maxRecDepth 100000 in
set_option maxHeartbeats 12800000 in
theorem sieve_ok (v : Value) (m : Int) (us ad : List Int) (q M : Nat) (w : World) (hv : MapV w v m us ad) (hM : Hid (mapP m us ad)) (hS : Hid (SuitP m us (q : Int))) (hqq : (q : Int) ≤ 9223372036854775807) (hmM : Hid (m = (M : Int))) (ht : Tab w) :
    Calls Tryz.prog 15 #[v, .int .i64 (q : Int)] w (SieveC m us ad q M w) := by
  have hm := hM.out.1
  have hm2 := hM.out.2.1
  have hb1 : Hid (mapB m us ad = true) := hid ((mapB_iff m us ad).2 hM.out)
  have hk1 : 1 ≤ q := by have := hS.out.2.1; omega
  have hk2 : m ^ q ≤ 65536 := by have := hS.out.2.2; rwa [Int.toNat_natCast] at this
  obtain ⟨wh, hwh⟩ : ∃ wh : Int, m ^ q = wh := ⟨_, rfl⟩
  have HWH := hid hwh
  have HK2 := hid hk2
  have HT := hid ht
  have HV := hid hv
  obtain ⟨A, n, cc, B, n2, d2, rfl, -⟩ := hv
  have hx : Ext w (w.alloc (.cells #[.int .i64 m, .slice A n cc, .slice B n2 d2] 24)) := (Ext.rfl' w).alloc' _
  have hr1 : Row (w.alloc (.cells #[.int .i64 m, .slice A n cc, .slice B n2 d2] 24)) w.heap.size 24 [.int .i64 m, .slice A n cc, .slice B n2 d2] := Row.new w _ _
  have hz : (w.alloc (.cells #[.int .i64 m, .slice A n cc, .slice B n2 d2] 24)).heap.size = w.heap.size + 1 := by simp
  obtain ⟨w1, hw1⟩ : ∃ w1, w.alloc (.cells #[.int .i64 m, .slice A n cc, .slice B n2 d2] 24) = w1 := ⟨_, rfl⟩
  rw [hw1] at hx hr1 hz
  have HW1 := hid hw1
  have EX := hid hx
  have RM := hid hr1
  have HZ := hid hz
  obtain ⟨f0, f1, f2, -, -, -⟩ := row_facts3 hr1
  clear hw1 hx hr1 hwh hk1 hk2 hz
  go_enter Tryz.func15, Tryz.ntmps15
  go_upto_region 1 with fail
  rw [HW1.out]
  go_wp2_with fail
  refine (stepvalid_any _ m us ad w1 (HV.out.ext EX.out) hb1).mono ?_
  rintro e w2 ⟨rfl, hx⟩
  replace EX := hid (EX.out.step hx)
  replace RM := hid (RM.out.ext hx)
  have HZ2 := hid (Nat.le_trans (Nat.le_of_eq HZ.out.symm) hx.size)
  clear f0 f1 f2 hx
  obtain ⟨f0, f1, f2, -, -, -⟩ := row_facts3 RM.out
  go_wp2_with fail
  refine (restsOf_any _ m us ad (q : Int) w2 (HV.out.ext EX.out) hM (by omega) hqq).mono ?_
  rintro e w3 ⟨wh2, c2, rfl, hrc, hx⟩
  obtain ⟨-, rfl, rfl⟩ | ⟨hn, -, -⟩ := hrc
  case inr => exact absurd hS.out hn
  rw [Int.toNat_natCast, HWH.out]
  replace EX := hid (EX.out.step hx)
  replace RM := hid (RM.out.ext hx)
  replace HZ2 := hid (Nat.le_trans HZ2.out hx.size)
  clear f0 f1 f2 hx
  have ha : Ext w3 ((((w3.alloc (.cells #[.int .i64 wh] 3)).alloc (.cells #[.slice none 0 0] 26)).alloc (.cells #[.slice none 0 0] 22)).alloc (.cells #[.nilFunc] 102)) := ((((Ext.rfl' w3).alloc' _).alloc' _).alloc' _).alloc' _
  have r1 : Row ((((w3.alloc (.cells #[.int .i64 wh] 3)).alloc (.cells #[.slice none 0 0] 26)).alloc (.cells #[.slice none 0 0] 22)).alloc (.cells #[.nilFunc] 102)) w3.heap.size 3 [.int .i64 wh] := (((Row.new w3 _ _).alloc _).alloc _).alloc _
  have r2 : Row ((((w3.alloc (.cells #[.int .i64 wh] 3)).alloc (.cells #[.slice none 0 0] 26)).alloc (.cells #[.slice none 0 0] 22)).alloc (.cells #[.nilFunc] 102)) (w3.heap.size + 1) 26 [.slice none 0 0] := by
    have := ((Row.new (w3.alloc (.cells #[.int .i64 wh] 3)) 26 [.slice none 0 0]).alloc (.cells #[.slice none 0 0] 22)).alloc (.cells #[.nilFunc] 102)
    rwa [World.size_alloc] at this
  have r3 : Row ((((w3.alloc (.cells #[.int .i64 wh] 3)).alloc (.cells #[.slice none 0 0] 26)).alloc (.cells #[.slice none 0 0] 22)).alloc (.cells #[.nilFunc] 102)) (w3.heap.size + 1 + 1) 22 [.slice none 0 0] := by
    have := (Row.new ((w3.alloc (.cells #[.int .i64 wh] 3)).alloc (.cells #[.slice none 0 0] 26)) 22 [.slice none 0 0]).alloc (.cells #[.nilFunc] 102)
    rwa [World.size_alloc, World.size_alloc] at this
  have r4 : Row ((((w3.alloc (.cells #[.int .i64 wh] 3)).alloc (.cells #[.slice none 0 0] 26)).alloc (.cells #[.slice none 0 0] 22)).alloc (.cells #[.nilFunc] 102)) (w3.heap.size + 1 + 1 + 1) 102 [.nilFunc] := by
    have := Row.new (((w3.alloc (.cells #[.int .i64 wh] 3)).alloc (.cells #[.slice none 0 0] 26)).alloc (.cells #[.slice none 0 0] 22)) 102 [.nilFunc]
    rwa [World.size_alloc, World.size_alloc, World.size_alloc] at this
  have hs4 : ((((w3.alloc (.cells #[.int .i64 wh] 3)).alloc (.cells #[.slice none 0 0] 26)).alloc (.cells #[.slice none 0 0] 22)).alloc (.cells #[.nilFunc] 102)).heap.size = w3.heap.size + 1 + 1 + 1 + 1 := by simp
  obtain ⟨w4, hw4⟩ : ∃ w4, ((((w3.alloc (.cells #[.int .i64 wh] 3)).alloc (.cells #[.slice none 0 0] 26)).alloc (.cells #[.slice none 0 0] 22)).alloc (.cells #[.nilFunc] 102)) = w4 := ⟨_, rfl⟩
  rw [hw4] at ha r1 r2 r3 r4 hs4
  obtain ⟨H, hH⟩ : ∃ H, w3.heap.size = H := ⟨_, rfl⟩
  rw [hH] at r1 r2 r3 r4 hs4
  have hwH : w.heap.size < H := by have := HZ2.out; omega
  have HW4 := hid hw4
  have HH := hid hH
  have HHW := hid hwH
  have HS4 := hid hs4
  replace EX := hid (EX.out.step ha)
  replace RM := hid (RM.out.ext ha)
  have R1 := hid r1
  have R2 := hid r2
  have R3 := hid r3
  have R4 := hid r4
  have y0 : w4.cell? ⟨H + 1 + 1 + 1, 0, none⟩ = some .nilFunc := r4.cell 0
  have y1 := r4.free 0
  clear ha r1 r2 r3 r4 hs4 hw4 hH hwH
  go_upto_region 9 with fail
  rw [HW4.out, HH.out]
  go_upto_region 10 with fail
  have hs5 : (w4.setCell ⟨H + 1 + 1 + 1, 0, none⟩ (.func (.func 63) #[] #[.pointer (some ⟨H + 1, 0, none⟩), .pointer (some ⟨H, 0, none⟩), .pointer (some ⟨H + 1 + 1, 0, none⟩), .pointer (some ⟨w.heap.size, 0, none⟩), .pointer (some ⟨H + 1 + 1 + 1, 0, none⟩)])).heap.size = H + 1 + 1 + 1 + 1 := by simp [HS4.out]
  obtain ⟨w5, hw5⟩ : ∃ w5, w4.setCell ⟨H + 1 + 1 + 1, 0, none⟩ (.func (.func 63) #[] #[.pointer (some ⟨H + 1, 0, none⟩), .pointer (some ⟨H, 0, none⟩), .pointer (some ⟨H + 1 + 1, 0, none⟩), .pointer (some ⟨w.heap.size, 0, none⟩), .pointer (some ⟨H + 1 + 1 + 1, 0, none⟩)]) = w5 := ⟨_, rfl⟩
  rw [hw5] at hs5
  have HW5 := hid hw5
  have HLI : Hid (Lies w (H + 1 + 1 + 1 + 1) (H + 1) (H + 1 + 1) H w.heap.size (H + 1 + 1 + 1)) := hid (by have := HHW.out; unfold Lies; omega)
  have HEN : Hid (Env w (H + 1 + 1 + 1 + 1) (H + 1) (H + 1 + 1) H w.heap.size (H + 1 + 1 + 1) wh [.int .i64 m, .slice A n cc, .slice B n2 d2] w5) := hid (by
    have := HHW.out
    rw [← hw5]
    exact ⟨EX.out.set' (by show w.heap.size ≤ H + 1 + 1 + 1; omega) _, R1.out.far (by show H ≠ H + 1 + 1 + 1; omega) _, RM.out.far (by show w.heap.size ≠ H + 1 + 1 + 1; omega) _, R4.out.set 0 _, by rw [hw5, hs5]; exact Nat.le_refl _⟩)
  have HST : Hid (St (H + 1 + 1 + 1 + 1) (H + 1) (H + 1 + 1) (fTxt m us ad) w5 (.slice none 0 0) (.slice none 0 0) [] []) := hid (by
    rw [← hw5]
    exact ⟨R2.out.far (by show H + 1 ≠ H + 1 + 1 + 1; omega) _, R3.out.far (by show H + 1 + 1 ≠ H + 1 + 1 + 1; omega) _, World.ownsRow_nil _ _ _ _, World.ownsRow_nil _ _ _ _⟩)
  have hMq : M ^ q ≤ 65536 := by
    have h1 := HK2.out
    rw [hmM.out, ← Int.natCast_pow] at h1
    omega
  have HVL := hid (vis_len (M := M) (by have := hmM.out; omega) us ad q q 0 0)
  have HVIS : Hid (∀ W', Env w (H + 1 + 1 + 1 + 1) (H + 1) (H + 1 + 1) H w.heap.size (H + 1 + 1 + 1) wh [.int .i64 m, .slice A n cc, .slice B n2 d2] W' → St (H + 1 + 1 + 1 + 1) (H + 1) (H + 1 + 1) (fTxt m us ad) W' (.slice none 0 0) (.slice none 0 0) [] [] →
      Calls Tryz.prog 63 #[PlV 0 0 1 0 1, .pointer (some ⟨H + 1, 0, none⟩), .pointer (some ⟨H, 0, none⟩), .pointer (some ⟨H + 1 + 1, 0, none⟩), .pointer (some ⟨w.heap.size, 0, none⟩), .pointer (some ⟨H + 1 + 1 + 1, 0, none⟩)] W' (VisPost (H + 1 + 1 + 1 + 1) (H + 1) (H + 1 + 1) (fTxt m us ad) W' (.slice none 0 0) (.slice none 0 0) (vis M us ad q q 0 0).1 (vis M us ad q q 0 0).2)) := hid (by
    intro W' h1 h2
    have h := visit_any w (H + 1 + 1 + 1 + 1) (H + 1) (H + 1 + 1) H w.heap.size (H + 1 + 1 + 1) A n cc B n2 d2 m us ad q M HLI.out HV.out hM.out HT.out HK2.out hmM.out q 0 0 (by omega) (by omega) (by simp) W' _ _ [] [] (by rw [HWH.out]; exact h1) h2 (by simp; omega) (by simp; omega)
    have e0 : lnX m us ad 0 0 = (1, 0, 1) := rfl
    rw [e0, Int.pow_zero] at h
    exact h)
  have HMQ := hid hMq
  have HS : Hid (∀ W', Env w (H + 1 + 1 + 1 + 1) (H + 1) (H + 1 + 1) H w.heap.size (H + 1 + 1 + 1) wh [.int .i64 m, .slice A n cc, .slice B n2 d2] W' → W'.cell? ⟨H + 1 + 1 + 1, 0, none⟩ = some (.func (.func 63) #[] #[.pointer (some ⟨H + 1, 0, none⟩), .pointer (some ⟨H, 0, none⟩), .pointer (some ⟨H + 1 + 1, 0, none⟩), .pointer (some ⟨w.heap.size, 0, none⟩), .pointer (some ⟨H + 1 + 1 + 1, 0, none⟩)])) := hid (fun W' h => h.rv.cell 0)
  have hcur : Ext w5 w5 := Ext.rfl' _
  clear hs5 hw5 y0 y1 hMq R1 R2 R3 R4 RM
  rw [HW5.out]
  go_region_held3 (fun W' => W'.cell? ⟨H + 1 + 1 + 1, 0, none⟩ = some (.func (.func 63) #[] #[.pointer (some ⟨H + 1, 0, none⟩), .pointer (some ⟨H, 0, none⟩), .pointer (some ⟨H + 1 + 1, 0, none⟩), .pointer (some ⟨w.heap.size, 0, none⟩), .pointer (some ⟨H + 1 + 1 + 1, 0, none⟩)]))
    (first | (with_reducible exact HS.out _ HEN7) | (with_reducible exact HS.out _ (HEN.out.of_ext hcur)) | (with_reducible exact HS.out _ (HEN.out.of_ext hcur.drew')) | go_keep)
    (first
      | (go_at_call 69; refine (root_any _).mono ?_; rintro e w6 ⟨rfl, hx⟩; have hcur := Ext.step hcur (by first | exact hx | exact Ext.undrew hx | exact Ext.step ((Ext.rfl' _).alloc' _) hx | exact Ext.step ((Ext.rfl' _).drew'.alloc' _) hx))
      | (go_at_call 63; refine (HVIS.out _ (HEN.out.of_ext ?_) (HST.out.ext ?_)).mono ?_; (first | exact hcur | exact hcur.drew' | exact hcur.alloc' _ | exact hcur.drew'.alloc' _ | exact (hcur.alloc' _).drew'); (first | exact hcur | exact hcur.drew' | exact hcur.alloc' _ | exact hcur.drew'.alloc' _ | exact (hcur.alloc' _).drew'); rintro e w7 ⟨rfl, vF, vL, hst, hch⟩; have HST7 := hid hst; have HEN7 := (HEN.out.of_ext (by (first | exact hcur | exact hcur.drew' | exact hcur.alloc' _ | exact hcur.drew'.alloc' _ | exact (hcur.alloc' _).drew'))).chg HLI.out (fun g hg => by cases hg) (fun g hg => by cases hg) hch))
  all_goals
    have HE7 := hid HEN7
    clear hcur HEN HST HS HVIS hch HEN7 hst
    have q0 : w7.cell? ⟨H + 1, 0, none⟩ = some vF := HST7.out.1.cell 0
    have HVL1 := hid (show (vis M us ad q q 0 0).1.length ≤ 65536 by have := HVL.out.1; have := HMQ.out; omega)
    have HVL2 := hid (show (vis M us ad q q 0 0).2.length ≤ 65536 by have := HVL.out.2; have := HMQ.out; omega)
    have hE8 : Ext w7 (w7.alloc (.cells #[.func (.func 71) #[] #[], .func (.func 72) #[] #[]] 111)) := (Ext.rfl' w7).alloc' _
    have rk : Row (w7.alloc (.cells #[.func (.func 71) #[] #[], .func (.func 72) #[] #[]] 111)) w7.heap.size 111 [.func (.func 71) #[] #[], .func (.func 72) #[] #[]] := Row.new w7 _ _
    have hz8 : w7.heap.size < (w7.alloc (.cells #[.func (.func 71) #[] #[], .func (.func 72) #[] #[]] 111)).heap.size := by simp
    go_upto_region 12 with (go_at_call 70; refine (sortFalls_any (fTxt m us ad) vF _ _ (H + 1 + 1 + 1 + 1) w7.heap.size (w7.alloc (.cells #[.func (.func 71) #[] #[], .func (.func 72) #[] #[]] 111)) (own_at HST7.out.2.2.1 (fun g hg => hE8.block g (HST7.out.2.2.1.lt g hg).2)) (rk.cell 0) (rk.cell 1) hz8 (fun g hg e => by have := (HST7.out.2.2.1.lt g hg).2; omega) (by have := HVL1.out; omega)).mono ?_; rintro e w9 ⟨rfl, hoF, hgF⟩)
    have rL9 : Row w9 (H + 1 + 1) 22 [vL] := (HST7.out.2.1.ext hE8).grownR hgF (fun kk hkk => by have := (HST7.out.2.2.1.lt kk hkk).1; omega)
    have rF9 : Row w9 (H + 1) 26 [vF] := (HST7.out.1.ext hE8).grownR hgF (fun kk hkk => by have := (HST7.out.2.2.1.lt kk hkk).1; omega)
    have hoL9 := own_at (w' := w9) HST7.out.2.2.2 (fun g hg => (hgF.block g (Nat.lt_of_lt_of_le (HST7.out.2.2.2.lt g hg).2 hE8.size) (fun e => HST7.out.apart g e.symm hg)).trans (hE8.block g (HST7.out.2.2.2.lt g hg).2))
    have hxw : Ext w w9 := ext_by (HE7.out.ext.step hE8) hgF (fun kk hkk => by have := (HST7.out.2.2.1.lt kk hkk).1; have := HHW.out; omega)
    have HO9 := hid hoL9
    have HF9 := hid (own_at (w' := w9.alloc (.cells #[.func (.func 74) #[] #[]] 113)) hoF (fun g hg => ((Ext.rfl' w9).alloc' _).block g (hoF.lt g hg).2))
    have HX9 := hid hxw
    have RL9 := hid rL9
    have RF9 := hid rF9
    have q0 : w9.cell? ⟨H + 1 + 1, 0, none⟩ = some vL := rL9.cell 0
    have hE10 : Ext w9 (w9.alloc (.cells #[.func (.func 74) #[] #[]] 113)) := (Ext.rfl' w9).alloc' _
    have rk1 : Row (w9.alloc (.cells #[.func (.func 74) #[] #[]] 113)) w9.heap.size 113 [.func (.func 74) #[] #[]] := Row.new w9 _ _
    have hz10 : w9.heap.size < (w9.alloc (.cells #[.func (.func 74) #[] #[]] 113)).heap.size := by simp
    clear hE8 rk hz8 hoF hgF hoL9 hxw rL9 rF9
    go_upto_region 13 with (go_at_call 73; refine (sortInts_any vL _ _ (H + 1 + 1 + 1 + 1) w9.heap.size (w9.alloc (.cells #[.func (.func 74) #[] #[]] 113)) (own_at HO9.out (fun g hg => hE10.block g (HO9.out.lt g hg).2)) (rk1.cell 0) hz10 (fun g hg e => by have := (HO9.out.lt g hg).2; omega) (by have := HVL2.out; omega)).mono ?_; rintro e w11 ⟨rfl, hoL, hgL⟩)
    have rL11 : Row w11 (H + 1 + 1) 22 [vL] := (RL9.out.ext hE10).grownR hgL (fun kk hkk => by have := (HO9.out.lt kk hkk).1; omega)
    have rF11 : Row w11 (H + 1) 26 [vF] := (RF9.out.ext hE10).grownR hgL (fun kk hkk => by have := (HO9.out.lt kk hkk).1; omega)
    have hoF11 := own_at (w' := w11) HF9.out (fun g hg => (hgL.block g (HF9.out.lt g hg).2 (fun e => own_two HF9.out (own_at HO9.out (fun g hg => hE10.block g (HO9.out.lt g hg).2)) g hg e.symm)))
    have HF : Hid (SieveC m us ad q M w (.returned (.tuple #[vF, vL, .int .i64 0])) w11) := hid ⟨vF, vL, H + 1 + 1 + 1 + 1, _, _, rfl, by have := HHW.out; omega, hoF11, hoL, ext_by (HX9.out.step hE10) hgL (fun kk hkk => by have := (HO9.out.lt kk hkk).1; have := HHW.out; omega)⟩
    have q1 : w11.cell? ⟨H + 1, 0, none⟩ = some vF := rF11.cell 0
    have q2 : w11.cell? ⟨H + 1 + 1, 0, none⟩ = some vL := rL11.cell 0
    clear hE10 rk1 hz10 hoL hgL rL11 rF11 hoF11 q0
    go_quiet (fail)
    all_goals
      go_wp2_with fail
      go_ret3
      obtain ⟨c1, c2, c3, c4, c5, c6, c7, c8, c9, c10⟩ := HF.out
      exact ⟨c1, c2, c3, c4, c5, c6, c7, c8, c9, by first | exact c10 | exact c10.drew' | exact c10.drewN _⟩
end Go.Proofs.YtleccblkafcidaaGreatDoor
/- package sieve: Sieve, the error ways -/
namespace Go.Proofs.YtleccblkafcidaaGreatDoor
open Go.RowKit
set_option maxRecDepth 100000 in
set_option maxHeartbeats 3200000 in
theorem sieve_bad (v : Value) (m : Int) (us ad : List Int) (k : Int) (w : World) (hv : MapV w v m us ad) (hk : -9223372036854775808 ≤ k) (hk2 : k ≤ 9223372036854775807) {b1 : Bool} (hb1 : Hid (mapB m us ad = b1)) (HN : Hid (¬ (b1 = true ∧ SuitP m us k))) {c : Int} (hc : Hid (c = if b1 = true then 2 else 1)) :
    Calls Tryz.prog 15 #[v, .int .i64 k] w (fun e w' => e = .returned (.tuple #[.slice none 0 0, .slice none 0 0, .int .i64 c]) ∧ Ext w w') := by
  have HV := hid hv
  obtain ⟨A, n, cc, B, n2, d2, rfl, -⟩ := hv
  have hx : Ext w (w.alloc (.cells #[.int .i64 m, .slice A n cc, .slice B n2 d2] 24)) := (Ext.rfl' w).alloc' _
  have hr1 : Row (w.alloc (.cells #[.int .i64 m, .slice A n cc, .slice B n2 d2] 24)) w.heap.size 24 [.int .i64 m, .slice A n cc, .slice B n2 d2] := Row.new w _ _
  obtain ⟨w1, hw1⟩ : ∃ w1, w.alloc (.cells #[.int .i64 m, .slice A n cc, .slice B n2 d2] 24) = w1 := ⟨_, rfl⟩
  rw [hw1] at hx hr1
  have HW1 := hid hw1
  have EX := hid hx
  have RM := hid hr1
  obtain ⟨f0, f1, f2, -, -, -⟩ := row_facts3 hr1
  clear hw1 hx hr1
  go_enter Tryz.func15, Tryz.ntmps15
  go_upto_region 1 with fail
  rw [HW1.out]
  go_wp2_with fail
  refine (stepvalid_any _ m us ad w1 (HV.out.ext EX.out) hb1).mono ?_
  rintro e w2 ⟨rfl, hx⟩
  replace EX := hid (EX.out.step hx)
  replace RM := hid (RM.out.ext hx)
  clear f0 f1 f2 hx
  cases b1 with
  | false =>
    obtain rfl : c = 1 := hc.out
    go_wp2_with fail
    go_ret3
    exact ⟨rfl, EX.out⟩
  | true =>
    obtain rfl : c = 2 := hc.out
    have hM : Hid (mapP m us ad) := hid ((mapB_iff m us ad).1 hb1.out)
    obtain ⟨f0, f1, f2, -, -, -⟩ := row_facts3 RM.out
    go_wp2_with fail
    refine (restsOf_any _ m us ad k w2 (HV.out.ext EX.out) hM hk hk2).mono ?_
    rintro e w3 ⟨wh2, c2, rfl, hrc, hx⟩
    obtain ⟨hn, -, -⟩ | ⟨-, rfl, rfl⟩ := hrc
    · exact absurd ⟨by trivial, hn⟩ HN.out
    · replace EX := hid (EX.out.step hx)
      clear f0 f1 f2 hx
      have EX2 := hid (EX.out.alloc' (.cells #[.int .i64 0] 3))
      go_wp2_with fail
      go_ret3
      exact ⟨rfl, EX2.out⟩
end Go.Proofs.YtleccblkafcidaaGreatDoor
/- the sieve law package's awake: the numbers -/
namespace Go.Proofs.YtleccblkafcidaaGreatDoor
open Go.RowKit
theorem rd_own {w : World} {base e size n c g : Nat} {vs : List Value} (h : w.ownsRow base e size (.slice (some ⟨g, 0, none⟩) n c) n vs) : Rd w (some ⟨g, 0, none⟩) vs := by
  refine .inr ⟨g, 0, rfl, (h.lt g rfl).2, fun j u hj => ?_⟩
  have h1 := h.cells (g := g) rfl j u hj
  have hadd : (⟨g, 0, none⟩ : Addr).add j = ⟨g, 0 + j, none⟩ := by unfold Addr.add; split <;> simp_all
  rwa [hadd] at h1
theorem vis3 : vis 2 [1, 3] [0, 1] 3 3 0 0 = ([(1, 0), (2, 1)], [3, 7]) := by decide +kernel
theorem srtF3 : srtF [(1, 0), (2, 1)] = [(1, 0), (2, 1)] := by
  unfold srtF
  exact List.mergeSort_of_pairwise (by simp [lt_P])
theorem srtI3 : srtI [3, 7] = [3, 7] := by
  unfold srtI
  exact List.mergeSort_of_pairwise (by simp [lt_int])
theorem ln01 : lnX 2 [1, 3] [0, 1] 0 1 = (1, 0, 2) := by decide +kernel
theorem ln12 : lnX 2 [1, 3] [0, 1] 1 2 = (3, 1, 4) := by decide +kernel
def XB : Int := 1000000000000000000000003
def LB24 : List UInt8 := [49, 48, 48, 48, 48, 48, 48, 48, 48, 48, 48, 48, 48, 48, 48, 48, 48, 48, 48, 48, 48, 48, 48, 48, 51]
theorem LB_ok : K.validL LB24 = true := by decide +kernel
theorem LB_num : K.numL LB24 = XB := by decide +kernel
theorem lnB : lnX 2 [1, 3] [0, 1] XB 1 = (3, 1, 2) ∧ lnX 2 [1, 3] [0, 1] XB 2 = (9, 5, 4) ∧ lnX 2 [1, 3] [0, 1] XB 3 = (9, 5, 8) ∧ lnX 2 [1, 3] [0, 1] XB 4 = (9, 5, 16) := by decide +kernel
theorem modB : XB % 2 ^ 4 = 3 := by decide +kernel
theorem txt0 : K.txt 0 = [48] := K.txt_of_lit [48] 0 (by decide +kernel) (by decide +kernel)
theorem txt1 : K.txt 1 = [49] := K.txt_of_lit [49] 1 (by decide +kernel) (by decide +kernel)
theorem txt2 : K.txt 2 = [50] := K.txt_of_lit [50] 2 (by decide +kernel) (by decide +kernel)
theorem txt4 : K.txt 4 = [52] := K.txt_of_lit [52] 4 (by decide +kernel) (by decide +kernel)
theorem txt16 : K.txt 16 = [49, 54] := K.txt_of_lit [49, 54] 16 (by decide +kernel) (by decide +kernel)
theorem suit3 : SuitP 2 [1, 3] 3 := ⟨reg13, by omega, by decide⟩
theorem suit4 : SuitP 2 [1, 3] 4 := ⟨reg13, by omega, by decide⟩
theorem falls3 : ([(1, 0), (2, 1)] : List (Int × Int)).flatMap (encF (fTxt 2 [1, 3] [0, 1])) = [.int .i64 1, .int .i64 0, .string ⟨#[49]⟩, .string ⟨#[48]⟩, .string ⟨#[50]⟩, .string ⟨#[48]⟩, .int .i64 2, .int .i64 1, .string ⟨#[51]⟩, .string ⟨#[49]⟩, .string ⟨#[52]⟩, .string ⟨#[49]⟩] := by
  have e1 : fTxt 2 [1, 3] [0, 1] (1, 0) = (⟨#[49]⟩, ⟨#[48]⟩, ⟨#[50]⟩, ⟨#[48]⟩) := by
    unfold fTxt
    simp only [show ((1 : Int)).toNat = 1 from rfl, ln01, show ((2 : Int) ^ 1) = 2 from rfl, show ((0 : Int) / (2 - 1)) = 0 from rfl, txt0, txt1, txt2]
    rfl
  have e2 : fTxt 2 [1, 3] [0, 1] (2, 1) = (⟨#[51]⟩, ⟨#[49]⟩, ⟨#[52]⟩, ⟨#[49]⟩) := by
    unfold fTxt
    simp only [show ((2 : Int)).toNat = 2 from rfl, ln12, show ((2 : Int) ^ 2) = 4 from rfl, show ((1 : Int) / (4 - 3)) = 1 from rfl, txt1, txt3, txt4]
    rfl
  simp only [List.flatMap_cons, List.flatMap_nil, encF, e1, e2]
  rfl
/-- Sieve of Collatz's map, 3 -/
theorem sieve3_ok (v : Value) (w : World) (hv : MapV w v 2 [1, 3] [0, 1]) (ht : Tab w) :
    Calls Tryz.prog 15 #[v, .int .i64 3] w (fun e w' => ∃ (g h c d : Nat), e = .returned (.tuple #[.slice (some ⟨g, 0, none⟩) 2 c, .slice (some ⟨h, 0, none⟩) 2 d, .int .i64 0]) ∧ Rd w' (some ⟨g, 0, none⟩) [.int .i64 1, .int .i64 0, .string ⟨#[49]⟩, .string ⟨#[48]⟩, .string ⟨#[50]⟩, .string ⟨#[48]⟩, .int .i64 2, .int .i64 1, .string ⟨#[51]⟩, .string ⟨#[49]⟩, .string ⟨#[52]⟩, .string ⟨#[49]⟩] ∧ Rd w' (some ⟨h, 0, none⟩) (Is [3, 7]) ∧ Ext w w') := by
  refine (sieve_ok v 2 [1, 3] [0, 1] 3 2 w hv (hid coll_ok) (hid suit3) (by omega) (hid rfl) ht).mono ?_
  rintro e w' ⟨vF, vL, base, nF, nL, rfl, hb, hF, hL, hx⟩
  rw [vis3, srtF3, falls3] at hF
  rw [vis3, srtI3] at hL
  have n1 : nF = 2 := by have := hF.1; simp at this; omega
  have n2 : nL = 2 := by have := hL.1; simp at this; omega
  subst n1 n2
  have hF2 := hF
  have hL2 := hL
  obtain ⟨-, hF⟩ := hF
  obtain ⟨-, hL⟩ := hL
  rcases hF with ⟨-, h⟩ | ⟨g, c, u, rfl, -⟩
  · cases h
  rcases hL with ⟨-, h⟩ | ⟨h, d, u2, rfl, -⟩
  · cases h
  exact ⟨g, h, c, d, rfl, rd_own hF2, rd_own hL2, hx⟩
/-- Find of Collatz's map, 10^24 + 3, 4 -/
theorem find4_ok (v : Value) (w : World) (hv : MapV w v 2 [1, 3] [0, 1]) (ht : Tab w) :
    Calls Tryz.prog 22 #[v, .string (Str LB24), .int .i64 4] w (fun e w' => e = .returned (.tuple #[FaV 4 3 ⟨#[57]⟩ ⟨#[53]⟩ ⟨#[49, 54]⟩ ⟨#[48]⟩, .bool true, .int .i64 0]) ∧ Ext w w') := by
  refine (find_ok v 2 [1, 3] [0, 1] LB24 XB 4 w hv (hid coll_ok) (by decide) (hid LB_ok) (hid LB_num) (hid suit4) (by omega) ht).mono ?_
  rintro e w' ⟨fv, b, rfl, hc, hx⟩
  have n1 : ¬ FallsAt 2 [1, 3] [0, 1] XB 1 := by unfold FallsAt; rw [lnB.1]; decide
  have n2 : ¬ FallsAt 2 [1, 3] [0, 1] XB 2 := by unfold FallsAt; rw [lnB.2.1]; decide
  have n3 : ¬ FallsAt 2 [1, 3] [0, 1] XB 3 := by unfold FallsAt; rw [lnB.2.2.1]; decide
  have n4 : FallsAt 2 [1, 3] [0, 1] XB 4 := by unfold FallsAt; rw [lnB.2.2.2]; decide
  rcases hc with ⟨rfl, i, h1, h2, h3, -, rfl⟩ | ⟨-, -, h⟩
  · have hi : i = 4 := by
      match i, h1, h2, h3 with
      | 1, _, _, h3 => exact absurd h3 n1
      | 2, _, _, h3 => exact absurd h3 n2
      | 3, _, _, h3 => exact absurd h3 n3
      | 4, _, _, _ => rfl
      | j + 5, _, h2, _ => omega
    subst hi
    rw [modB, lnB.2.2.2]
    refine ⟨?_, hx⟩
    simp only [show ((2 : Int) ^ 4) = 16 from rfl, show ((5 : Int) / (16 - 9)) = 0 from rfl, txt9, txt5, txt16, txt0]
    rfl
  · exact absurd n4 (h 4 (by omega) (by omega))
end Go.Proofs.YtleccblkafcidaaGreatDoor
/- the sieve law package's awake -/
namespace Go.Proofs.YtleccblkafcidaaGreatDoor
open Go.RowKit
theorem Rd.at0 {w : World} {g : Nat} {vs : List Value} (h : Rd w (some ⟨g, 0, none⟩) vs) (j : Nat) {u : Value} (hj : vs[j]? = some u) : w.cell? ⟨g, j, none⟩ = some u := by
  rcases h with h | ⟨b, o, e, -, hc⟩
  · rw [h] at hj; simp at hj
  · cases e
    simpa using hc j u hj
set_option maxRecDepth 100000 in
set_option maxHeartbeats 6400000 in
theorem awake4_any (w : World) (ht : Tab w) :
    Calls Tryz.prog 18 #[] w (fun e w' => e = .returned (.bool true) ∧ Ext w w') := by
  have HT := hid ht
  go_enter Tryz.func18, Tryz.ntmps18
  go_wp2_with fail
  refine (refCollatz_any w).mono ?_
  rintro e w1 ⟨v1, rfl, hn1, hx1⟩
  have hv1 := hn1.mapV
  obtain ⟨g1, g2, k1, rfl, -⟩ := hn1
  have r1 : Row (w1.alloc (.cells #[.int .i64 2, .slice (some ⟨g1, 0, none⟩) k1 k1, .slice (some ⟨g2, 0, none⟩) k1 k1] 24)) w1.heap.size 24 [.int .i64 2, .slice (some ⟨g1, 0, none⟩) k1 k1, .slice (some ⟨g2, 0, none⟩) k1 k1] := Row.new w1 _ _
  have hx1a := hx1.alloc' (.cells #[.int .i64 2, .slice (some ⟨g1, 0, none⟩) k1 k1, .slice (some ⟨g2, 0, none⟩) k1 k1] 24)
  have hv1a := hv1.ext ((Ext.rfl' w1).alloc' (.cells #[.int .i64 2, .slice (some ⟨g1, 0, none⟩) k1 k1, .slice (some ⟨g2, 0, none⟩) k1 k1] 24))
  obtain ⟨W1, hW1⟩ : ∃ W1, w1.alloc (.cells #[.int .i64 2, .slice (some ⟨g1, 0, none⟩) k1 k1, .slice (some ⟨g2, 0, none⟩) k1 k1] 24) = W1 := ⟨_, rfl⟩
  rw [hW1] at hx1a hv1a r1
  have HW1 := hid hW1
  have EX := hid hx1a
  have HV := hid hv1a
  have RM := hid r1
  obtain ⟨f0, f1, f2, -, -, -⟩ := row_facts3 r1
  clear hx1 hx1a hv1 hv1a r1 hW1
  go_upto_region 2 with fail
  rw [HW1.out]
  go_wp2_with fail
  refine (sieve3_ok _ _ HV.out (HT.out.ext EX.out)).mono ?_
  rintro e w2 ⟨g, h, c, d, rfl, hF, hL, hx⟩
  have RF := hid hF
  have RL := hid hL
  replace EX := hid (EX.out.step hx)
  replace HV := hid (HV.out.ext hx)
  replace RM := hid (RM.out.ext hx)
  clear f0 f1 f2 hx hF hL
  obtain ⟨f0, f1, f2, -, -, -⟩ := row_facts3 RM.out
  go_wp2_with fail
  refine (find4_ok _ _ HV.out (HT.out.ext EX.out)).mono ?_
  unfold FaV
  rintro e w3 ⟨rfl, hx⟩
  replace RF := hid (RF.out.ext hx)
  replace RL := hid (RL.out.ext hx)
  replace EX := hid (EX.out.step hx)
  clear f0 f1 f2 hx
  have ha := (Ext.rfl' w3).alloc' (.cells #[.int .i64 4, .int .i64 3, .string ⟨#[57]⟩, .string ⟨#[53]⟩, .string ⟨#[49, 54]⟩, .string ⟨#[48]⟩] 40)
  have rb : Row (w3.alloc (.cells #[.int .i64 4, .int .i64 3, .string ⟨#[57]⟩, .string ⟨#[53]⟩, .string ⟨#[49, 54]⟩, .string ⟨#[48]⟩] 40)) w3.heap.size 40 [.int .i64 4, .int .i64 3, .string ⟨#[57]⟩, .string ⟨#[53]⟩, .string ⟨#[49, 54]⟩, .string ⟨#[48]⟩] := Row.new w3 _ _
  obtain ⟨w4, hw4⟩ : ∃ w4, w3.alloc (.cells #[.int .i64 4, .int .i64 3, .string ⟨#[57]⟩, .string ⟨#[53]⟩, .string ⟨#[49, 54]⟩, .string ⟨#[48]⟩] 40) = w4 := ⟨_, rfl⟩
  rw [hw4] at ha rb
  have HW4 := hid hw4
  replace RF := hid (RF.out.ext ha)
  replace RL := hid (RL.out.ext ha)
  replace EX := hid (EX.out.step ha)
  have RB := hid rb
  clear ha rb hw4
  go_upto_region 4 with fail
  rw [HW4.out]
  have c0 : w4.cell? ⟨g, 0, none⟩ = some (.int .i64 1) := RF.out.at0 0 rfl
  have c1 : w4.cell? ⟨g, 1, none⟩ = some (.int .i64 0) := RF.out.at0 1 rfl
  have c2 : w4.cell? ⟨g, 2, none⟩ = some (.string ⟨#[49]⟩) := RF.out.at0 2 rfl
  have c3 : w4.cell? ⟨g, 3, none⟩ = some (.string ⟨#[48]⟩) := RF.out.at0 3 rfl
  have c4 : w4.cell? ⟨g, 4, none⟩ = some (.string ⟨#[50]⟩) := RF.out.at0 4 rfl
  have c5 : w4.cell? ⟨g, 5, none⟩ = some (.string ⟨#[48]⟩) := RF.out.at0 5 rfl
  have c6 : w4.cell? ⟨g, 6, none⟩ = some (.int .i64 2) := RF.out.at0 6 rfl
  have c7 : w4.cell? ⟨g, 7, none⟩ = some (.int .i64 1) := RF.out.at0 7 rfl
  have c8 : w4.cell? ⟨g, 8, none⟩ = some (.string ⟨#[51]⟩) := RF.out.at0 8 rfl
  have c9 : w4.cell? ⟨g, 9, none⟩ = some (.string ⟨#[49]⟩) := RF.out.at0 9 rfl
  have c10 : w4.cell? ⟨g, 10, none⟩ = some (.string ⟨#[52]⟩) := RF.out.at0 10 rfl
  have c11 : w4.cell? ⟨g, 11, none⟩ = some (.string ⟨#[49]⟩) := RF.out.at0 11 rfl
  go_wp2_with fail
  refine (ralike_eq _ _ 2 _ _ [3, 7] _ (RL.out.ext ((Ext.rfl' _).alloc' _)) (Row.new _ _ _).rd0 rfl (by omega)).mono ?_
  rintro e w5 ⟨rfl, hx⟩
  have hy := ((Ext.rfl' w4).alloc' _).step hx
  replace EX := hid (EX.out.step hy)
  replace RB := hid (RB.out.ext hy)
  clear hx hy c0 c1 c2 c3 c4 c5 c6 c7 c8 c9 c10 c11
  obtain ⟨⟨y0, y1, y2, y3, y4, y5⟩, -⟩ := row_facts6 RB.out
  go_wp2
  go_ret
  exact ⟨rfl, EX.out⟩
end Go.Proofs.YtleccblkafcidaaGreatDoor
/- the reference's Rests of layer 4 -/
namespace Go.Proofs.YtleccblkafcidaaGreatDoor
open Go.RowKit
/-- what the reference's Rests tells -/
def RRests (m k r : Int) : Prop := (1 ≤ k ∧ m ^ k.toNat ≤ 65536 ∧ r = m ^ k.toNat) ∨ (¬ (1 ≤ k ∧ m ^ k.toNat ≤ 65536) ∧ r = 0)
set_option maxRecDepth 100000 in
set_option maxHeartbeats 3200000 in
theorem rrests_any (v : Value) (m : Int) (us ad : List Int) (k : Int) (w : World) (hv : MapV w v m us ad) (hM : Hid (mapP m us ad)) (hk : -9223372036854775808 ≤ k) (hk2 : k ≤ 9223372036854775807) :
    Calls Tryz.prog 27 #[v, .int .i64 k] w (fun e w' => ∃ r, e = .returned (.int .i64 r) ∧ RRests m k r ∧ Ext w w') := by
  have hm := hM.out.1
  have hm2 := hM.out.2.1
  obtain ⟨A, n, cc, B, n2, d, rfl, -⟩ := hv
  have hx : Ext w (w.alloc (.cells #[.int .i64 m, .slice A n cc, .slice B n2 d] 24)) := (Ext.rfl' w).alloc' _
  have hr : Row (w.alloc (.cells #[.int .i64 m, .slice A n cc, .slice B n2 d] 24)) w.heap.size 24 [.int .i64 m, .slice A n cc, .slice B n2 d] := Row.new w _ _
  obtain ⟨W1, hW1⟩ : ∃ W1, (w.alloc (.cells #[.int .i64 m, .slice A n cc, .slice B n2 d] 24)) = W1 := ⟨_, rfl⟩
  rw [hW1] at hx hr
  have HX := hid hx
  have HR := hid hr
  have HW1 := hid hW1
  clear hW1 hx hr
  by_cases h1 : k < 1
  · have HN : Hid (RRests m k 0) := hid (.inr ⟨(fun h => by omega), rfl⟩)
    have h2 : ¬ (0 : Int) < k := by omega
    go_enter Tryz.func27, Tryz.ntmps27
    go_upto_region 1 with fail
    rw [HW1.out]
    go_wp2_with fail
    go_loopw [5, 6] (fun nv iv wr => nv = .int .i64 1 ∧ iv = .int .i64 0 ∧ Ext W1 wr) (fun _ _ _ => 0)
    case atStart => exact ⟨rfl, rfl, Ext.rfl' _⟩
    case round =>
      obtain ⟨rfl, rfl, hex⟩ := hrel
      have HF := hid (HX.out.step hex)
      go_wp2
      go_ret
      exact ⟨0, rfl, HN.out, HF.out⟩
  · obtain ⟨q, rfl⟩ : ∃ q : Nat, k = (q : Int) := ⟨k.toNat, by omega⟩
    have HK1 := hid h1
    go_enter Tryz.func27, Tryz.ntmps27
    go_upto_region 1 with fail
    rw [HW1.out]
    go_wp2_with fail
    go_loopw [5, 6] (fun wv iv wr => ∃ j : Nat, j ≤ q ∧ wv = .int .i64 (m ^ j) ∧ iv = .int .i64 (j : Int) ∧ Hid (m ^ j ≤ 65536) ∧ Ext W1 wr) (fun _ iv _ => q - (intOf iv).toNat)
    case atStart => exact ⟨0, by omega, by simp, rfl, hid (by simp), Ext.rfl' _⟩
    case round =>
      obtain ⟨j, hj, rfl, rfl, HP, hex⟩ := hrel
      by_cases hlt : j < q
      · obtain ⟨P, hP⟩ : ∃ P, m ^ j = P := ⟨_, rfl⟩
        have hp0 : 0 < m ^ j := Int.pow_pos (by omega)
        rw [hP] at hp0
        have hp1 : P ≤ 65536 := by rw [← hP]; exact HP.out
        have c1 : (P * m).natAbs ≤ 65536 * 12 := by rw [Int.natAbs_mul]; exact Nat.mul_le_mul (by omega) (by omega)
        have W1w : IntKind.i64.wrap (P * m) = P * m := IntWalk.i64_in _ (by omega)
        have HPE := hid hP
        have HEX := hid hex
        rw [hP]
        obtain ⟨f0, f1, f2, -, -, -⟩ := row_facts3 (HR.out.ext hex)
        clear hP hp0 hp1 c1 hex
        by_cases hg : 65536 < P * m
        · have HN : Hid (RRests m (q : Int) 0) := hid (.inr ⟨(fun h => by
            have h2 := h.2
            rw [Int.toNat_natCast] at h2
            have h3 := pow_grow (m := m) hm (show j + 1 ≤ q by omega)
            rw [Int.pow_succ, HPE.out] at h3
            omega), rfl⟩)
          have HF := hid (HX.out.step HEX.out)
          go_wp2
          go_ret
          exact ⟨0, rfl, HN.out, HF.out⟩
        · have HPN := hid (show m ^ (j + 1) ≤ 65536 by rw [Int.pow_succ, HPE.out]; omega)
          go_wp2
          go_roundw
          case rel => exact ⟨j + 1, by omega, by rw [Int.pow_succ, HPE.out], by simp, HPN, HEX.out⟩
          case measure => first | (simp [intOf]; done) | (simp [intOf]; omega)
      · obtain rfl : j = q := by omega
        have HN : Hid (RRests m (j : Int) (m ^ j)) := hid (.inl ⟨by have := HK1.out; omega, by rw [Int.toNat_natCast]; exact HP.out, by rw [Int.toNat_natCast]⟩)
        have HF := hid (HX.out.step hex)
        go_wp2
        go_ret
        exact ⟨m ^ j, rfl, HN.out, HF.out⟩
end Go.Proofs.YtleccblkafcidaaGreatDoor
/- the law WordReads -/
namespace Go.Proofs.YtleccblkafcidaaGreatDoor
open Go.RowKit
theorem seqO_zero (m : Int) (us ad : List Int) (x : Int) : seqO m us ad 0 x = [] := rfl
theorem seqO_succ (m : Int) (us ad : List Int) (k : Nat) (x : Int) : seqO m us ad (k + 1) x = if fitsB (stepI m us ad x) = true then some (stepI m us ad x) :: seqO m us ad k (stepI m us ad x) else [none] := rfl
theorem fits_of_B {x : Int} (h : fitsB x = true) : K.fits x := by
  by_cases hh : K.fits x
  · exact hh
  · rw [fitsB_no hh] at h; cases h
theorem seq_none {m : Int} {us ad : List Int} (k : Nat) : ∀ (x : Int), none ∈ seqO m us ad k x → ∃ i, i < k + 1 ∧ ¬ K.fits (orbN m us ad i x) := by
  induction k with
  | zero => intro x h; rw [seqO_zero] at h; cases h
  | succ k ih =>
    intro x h
    rw [seqO_succ] at h
    by_cases hf : fitsB (stepI m us ad x) = true
    · rw [if_pos hf] at h
      rcases List.mem_cons.1 h with h2 | h2
      · cases h2
      · obtain ⟨i, hi, hn⟩ := ih _ h2
        exact ⟨i + 1, by omega, by rw [orbN_cons]; exact hn⟩
    · refine ⟨1, by omega, fun hh => hf ?_⟩
      exact fitsB_yes hh
theorem seq_all {m : Int} {us ad : List Int} (k : Nat) : ∀ (x : Int), none ∉ seqO m us ad k x → K.fits x → ∀ i, i < k + 1 → K.fits (orbN m us ad i x) := by
  induction k with
  | zero =>
    intro x h hx i hi
    obtain rfl : i = 0 := by omega
    exact hx
  | succ k ih =>
    intro x h hx i hi
    rw [seqO_succ] at h
    by_cases hf : fitsB (stepI m us ad x) = true
    · rw [if_pos hf] at h
      have h2 : none ∉ seqO m us ad k (stepI m us ad x) := fun hh => h (List.mem_cons_of_mem _ hh)
      rcases Nat.eq_zero_or_pos i with h0 | h0
      · subst h0; exact hx
      · obtain ⟨j, rfl⟩ : ∃ j, i = j + 1 := ⟨i - 1, by omega⟩
        rw [orbN_cons]
        exact ih _ h2 (fits_of_B hf) j (by omega)
    · rw [if_neg hf] at h
      exact absurd (List.mem_singleton.2 rfl) h
/-- what Word tells where it may be asked -/
def WordC (m : Int) (us ad : List Int) (k : Nat) (x : Int) (ws : List Int) (f : Int) : Prop := (f = 0 ∧ ws = wordI m us ad k x ∧ ∀ i, i < k → K.fits (orbN m us ad i x)) ∨ (f = 3 ∧ ws = [] ∧ ∃ i, i < k ∧ ¬ K.fits (orbN m us ad i x))
end Go.Proofs.YtleccblkafcidaaGreatDoor
/- the law WordTerras -/
namespace Go.Proofs.YtleccblkafcidaaGreatDoor
open Go.RowKit
theorem rregular_b (v : Value) (m : Int) (us ad : List Int) (w : World) (hv : MapV w v m us ad) (hM : Hid (mapP m us ad)) {b : Bool} (hb : Hid (regB m us = b)) :
    Calls Tryz.prog 43 #[v] w (fun e w' => e = .returned (.bool b) ∧ Ext w w') := by
  rw [← hb.out]; exact rregular_any v m us ad w hv hM
theorem rvalid_s (X : Int) (s : ByteArray) (w : World) (hf : K.fits X) (hs : Hid (Str (K.txt X) = s)) :
    Calls Tryz.prog 23 #[.string s] w fun e w' => e = .returned (.bool true) ∧ w = w' := by
  have h := rvalid_at (K.txt X) (v := true) w (hid (K.valid_txt X hf)) (len_of (K.txt_len _ hf))
  rwa [hs.out] at h
theorem rcmp_s (va vb : Value) (a b : Int) (w : World) (ha : RefV w va a) (hb : RefV w vb b) (la : a.natAbs ≤ BIG) (lb : b.natAbs ≤ BIG) {c : Int} (hc : Hid (sgnI a b = c)) :
    Calls Tryz.prog 34 #[va, vb] w (fun e w' => e = .returned (.int .i64 c) ∧ Ext w w') := by
  rw [← hc.out]; exact rcmp_any va vb a b w ha hb la lb
theorem terras_big {X D R : Int} (hX : K.fits X) (hD : K.fits D) (h0 : 0 ≤ R) (h1 : R < D) : (X - X % D).natAbs ≤ BIG ∧ (X - X % D + R).natAbs ≤ BIG := by
  have h2 := Int.emod_nonneg X (show D ≠ 0 by omega)
  have h3 := Int.emod_lt_of_pos X (show 0 < D by omega)
  have t1 := fits_top hX
  have t2 := fits_top hD
  have e1 : TOP 224 = TOP 1 * TOP 223 := TOP_add 1 223
  have e2 : TOP 1 = 1000000000 := by decide
  have e3 := TOP_pos 223
  have h4 : (X - X % D).natAbs < TOP 224 ∧ (X - X % D + R).natAbs < TOP 224 := by
    rw [e1, e2]
    generalize TOP 223 = t at *
    generalize X % D = q at *
    omega
  exact ⟨le_big h4.1 (by omega), le_big h4.2 (by omega)⟩
theorem terras_mod {X D R : Int} (h0 : 0 ≤ R) (h1 : R < D) : (X - X % D + R) % D = R := by
  have e : X - X % D + R = R + D * (X / D) := by
    have := Int.emod_add_mul_ediv X D
    omega
  rw [e, Int.add_mul_emod_self_left, Int.emod_eq_of_lt h0 h1]
end Go.Proofs.YtleccblkafcidaaGreatDoor
/- the sieve law package's may -/
namespace Go.Proofs.YtleccblkafcidaaGreatDoor
open Go.RowKit
set_option maxRecDepth 100000 in
set_option maxHeartbeats 3200000 in
theorem may_any (v : Value) (m : Int) (us ad : List Int) (k : Int) (w : World) (hv : MapV w v m us ad) (hk : -9223372036854775808 ≤ k) (hk2 : k ≤ 9223372036854775807) {b : Bool} (hb : Hid (b = true ↔ (mapP m us ad ∧ SuitP m us k))) :
    Calls Tryz.prog 19 #[v, .int .i64 k] w (fun e w' => e = .returned (.bool b) ∧ Ext w w') := by
  have HV := hid hv
  obtain ⟨A, n, cc, B, n2, d2, rfl, -⟩ := hv
  have hx : Ext w (w.alloc (.cells #[.int .i64 m, .slice A n cc, .slice B n2 d2] 24)) := (Ext.rfl' w).alloc' _
  have hr1 : Row (w.alloc (.cells #[.int .i64 m, .slice A n cc, .slice B n2 d2] 24)) w.heap.size 24 [.int .i64 m, .slice A n cc, .slice B n2 d2] := Row.new w _ _
  obtain ⟨w1, hw1⟩ : ∃ w1, w.alloc (.cells #[.int .i64 m, .slice A n cc, .slice B n2 d2] 24) = w1 := ⟨_, rfl⟩
  rw [hw1] at hx hr1
  have HW1 := hid hw1
  have EX := hid hx
  have RM := hid hr1
  obtain ⟨f0, f1, f2, -, -, -⟩ := row_facts3 hr1
  obtain ⟨x1, h1⟩ : ∃ x, mapB m us ad = x := ⟨_, rfl⟩
  have hb1 := hid h1
  clear hw1 hx hr1 h1
  go_enter Tryz.func19, Tryz.ntmps19
  go_upto_region 1 with fail
  rw [HW1.out]
  go_wp2_with fail
  refine (refvalid_any _ m us ad w1 (HV.out.ext EX.out) hb1).mono ?_
  rintro e w2 ⟨rfl, hx⟩
  replace EX := hid (EX.out.step hx)
  replace RM := hid (RM.out.ext hx)
  clear f0 f1 f2 hx
  cases x1 with
  | false =>
    have HB : Hid (b = false) := hid (by
      rw [← Bool.not_eq_true]
      intro h
      have h2 := (mapB_iff m us ad).2 (hb.out.1 h).1
      rw [hb1.out] at h2
      cases h2)
    go_wp2_with fail
    go_ret
    exact ⟨by rw [HB.out]; rfl, EX.out⟩
  | true =>
    have hM : Hid (mapP m us ad) := hid ((mapB_iff m us ad).1 hb1.out)
    obtain ⟨x2, h2⟩ : ∃ x, regB m us = x := ⟨_, rfl⟩
    have hb2 := hid h2
    clear h2
    obtain ⟨f0, f1, f2, -, -, -⟩ := row_facts3 RM.out
    go_wp2_with fail
    refine (rregular_b _ m us ad w2 (HV.out.ext EX.out) hM hb2).mono ?_
    rintro e w3 ⟨rfl, hx⟩
    replace EX := hid (EX.out.step hx)
    replace RM := hid (RM.out.ext hx)
    clear f0 f1 f2 hx
    cases x2 with
    | false =>
      have HB : Hid (b = false) := hid (by
        rw [← Bool.not_eq_true]
        intro h
        have h2 := (hb.out.1 h).2.1
        rw [hb2.out] at h2
        cases h2)
      go_wp2_with fail
      go_ret
      exact ⟨by rw [HB.out]; rfl, EX.out⟩
    | true =>
      obtain ⟨f0, f1, f2, -, -, -⟩ := row_facts3 RM.out
      go_wp2_with fail
      refine (rrests_any _ m us ad k w3 (HV.out.ext EX.out) hM hk hk2).mono ?_
      rintro e w4 ⟨r, rfl, hr, hx⟩
      replace EX := hid (EX.out.step hx)
      have HR := hid hr
      clear f0 f1 f2 hx hr
      by_cases h0 : 0 < r
      · have HB : Hid (b = true) := hid (hb.out.2 ⟨hM.out, by
          rcases HR.out with ⟨a1, a2, -⟩ | ⟨-, rfl⟩
          · exact ⟨hb2.out, a1, a2⟩
          · omega⟩)
        go_wp2_with fail
        go_ret
        exact ⟨by rw [HB.out]; rfl, EX.out⟩
      · have HB : Hid (b = false) := hid (by
          rw [← Bool.not_eq_true]
          intro h
          have h2 := (hb.out.1 h).2
          rcases HR.out with ⟨-, -, a3⟩ | ⟨a1, -⟩
          · have : 0 < m ^ k.toNat := Int.pow_pos (by have := hM.out.1; omega)
            omega
          · exact a1 ⟨h2.2.1, h2.2.2⟩)
        go_wp2_with fail
        go_ret
        exact ⟨by rw [HB.out]; show Ending.returned (.bool (decide (0 < r))) = _; rw [decide_eq_false (by omega)], EX.out⟩
end Go.Proofs.YtleccblkafcidaaGreatDoor
/- TopWords: the mathematics: bounds of numbers of at most 601 signs along 40 steps -/
namespace Go.Proofs.YtleccblkafcidaaGreatDoor
open Go.RowKit
/-- less than 10^(9 e), with room for a million -/
def Sm (e : Nat) (x : Int) : Prop := x.natAbs + 1000000 ≤ TOP e
theorem top_lim : TOP 222 ≤ K.LIM := by rw [← pw_top]; exact K.pw_mono (by omega)
theorem Sm.mono {e f : Nat} {x : Int} (h : Sm e x) (hf : e ≤ f) : Sm f x := Nat.le_trans h (TOP_mono hf)
theorem Sm.fits {e : Nat} {x : Int} (h : Sm e x) (he : e ≤ 222) : K.fits x := by
  have h1 : x.natAbs + 1000000 ≤ TOP 222 := h.mono he
  have h2 := top_lim
  have h3 : x.natAbs < K.LIM := by omega
  exact h3
theorem Sm.big {e : Nat} {x : Int} (h : Sm e x) (he : e ≤ 222) : x.natAbs ≤ BIG := fits_big (h.fits he)
theorem top_step (e f : Nat) (h : e < f) : 1000000000 * TOP e ≤ TOP f := by
  have h1 : TOP (1 + e) ≤ TOP f := TOP_mono (by omega)
  rw [TOP_add] at h1
  exact h1
theorem Sm.add {e f : Nat} {x y : Int} (hx : Sm e x) (hy : Sm e y) (h : e < f) : Sm f (x + y) := by
  have h1 := top_step e f h
  have h2 := Int.natAbs_add_le x y
  unfold Sm at *
  omega
theorem Sm.mul {e d f : Nat} {x y : Int} (hx : Sm e x) (hy : y.natAbs ≤ TOP d) (h : e + d < f) : Sm f (x * y) := by
  have h1 := top_step (e + d) f h
  have h3 := TOP_pos (e + d)
  have h4 : x.natAbs * y.natAbs ≤ TOP e * TOP d := Nat.mul_le_mul (by unfold Sm at hx; omega) hy
  rw [← TOP_add] at h4
  unfold Sm
  rw [Int.natAbs_mul]
  omega
theorem pw_plus (a b : Nat) : K.pw (a + b) = K.pw a * K.pw b := Nat.pow_add _ _ _
theorem valid_sm {l : List UInt8} (hv : K.validL l = true) (hl : l.length ≤ 601) : Sm 67 (K.numL l) := by
  have h1 := (K.txt_numL l hv).1
  have h2 : (K.dgs (K.numL l).natAbs).length ≤ l.length := by
    have : (K.dgs (K.numL l).natAbs).length ≤ (K.txt (K.numL l)).length := by unfold K.txt; split <;> simp
    rwa [h1] at this
  have h3 := (K.dgs_lenp (K.numL l).natAbs 601 (by omega)).1 (by omega)
  have h4 : K.pw 2 * K.pw 601 = TOP 67 := by
    rw [← pw_top, ← pw_plus]
  have h7 : K.pw 2 = 100 := rfl
  rw [h7] at h4
  have h5 : K.pw 6 ≤ K.pw 601 := K.pw_mono (by omega)
  have h6 : K.pw 6 = 1000000 := rfl
  unfold Sm
  omega
theorem pow_le_top {m : Int} (hm : 0 ≤ m) (hm2 : m ≤ 1000) {k : Nat} (hk : k ≤ 40) : (m ^ k).natAbs ≤ TOP 14 := by
  have h2 : (m ^ k).natAbs ≤ 1000 ^ k := by rw [Int.natAbs_pow]; exact Nat.pow_le_pow_left (by omega) k
  exact Nat.le_trans h2 (thousand_le k 14 (by omega))
theorem orb_le {m : Int} {us ad : List Int} (hM : mapP m us ad) (x : Int) : ∀ k, (orbN m us ad k x).natAbs + 1000000 ≤ 1000 ^ k * (x.natAbs + 1000000)
  | 0 => by simp [orbN]
  | k + 1 => by
    have ih := orb_le hM x k
    have h := stepI_le hM (x := orbN m us ad k x)
    show (stepI m us ad (orbN m us ad k x)).natAbs + 1000000 ≤ _
    rw [Nat.pow_succ, Nat.mul_assoc, Nat.mul_left_comm]
    omega
theorem Sm.orb {m : Int} {us ad : List Int} (hM : mapP m us ad) {e f : Nat} {x : Int} (hx : Sm e x) {k : Nat} (hk : k ≤ 40) (h : e + 14 ≤ f) : Sm f (orbN m us ad k x) := by
  have h1 := orb_le hM x k
  have h2 : 1000 ^ k ≤ TOP 14 := thousand_le k 14 (by omega)
  have h3 : 1000 ^ k * (x.natAbs + 1000000) ≤ TOP 14 * TOP e := Nat.mul_le_mul h2 hx
  rw [← TOP_add] at h3
  have h4 : TOP (14 + e) ≤ TOP f := TOP_mono (by omega)
  unfold Sm
  omega
theorem grow_top14 {m : Int} {us ad : List Int} (hM : mapP m us ad) (x : Int) {k : Nat} (hk : k ≤ 40) : (growN m us ad k x).natAbs ≤ TOP 14 :=
  Nat.le_trans (grow_le hM x k) (thousand_le k 14 (by omega))
/-- the other number, and all along its orbit -/
theorem words_sm {m : Int} {us ad : List Int} (hM : mapP m us ad) {X D : Int} {k : Nat} (hX : Sm 67 X) (hD : Sm 67 D) (hk : k ≤ 40) : Sm 83 (X + D * m ^ k) ∧ Sm 82 (D * m ^ k) ∧ Sm 82 (D * growN m us ad k X) := by
  have hm := hM.1
  have hm2 := hM.2.1
  have h1 : Sm 82 (D * m ^ k) := hD.mul (pow_le_top (by omega) (by omega) hk) (by omega)
  have h2 : Sm 82 (D * growN m us ad k X) := hD.mul (grow_top14 hM X hk) (by omega)
  have h3 : Sm 82 X := hX.mono (by omega)
  exact ⟨h3.add h1 (by omega), h1, h2⟩
theorem run_all {m : Int} {us ad : List Int} : ∀ (k : Nat) (x : Int), (∀ j, j ≤ k → K.fits (orbN m us ad j x)) → none ∉ seqO m us ad k x
  | 0, x, _ => by simp [seqO]
  | k + 1, x, h => by
    have h1 : K.fits (stepI m us ad x) := h 1 (by omega)
    have ih := run_all k (stepI m us ad x) (fun j hj => by rw [← orbN_cons]; exact h (j + 1) (by omega))
    rw [seqO_succ, if_pos (by unfold fitsB; exact decide_eq_true h1)]
    intro h2
    rcases List.mem_cons.1 h2 with h2 | h2
    · cases h2
    · exact ih h2
theorem word_is {m : Int} {us ad : List Int} (k : Nat) (x : Int) : IsWord m us ad (wordI m us ad k x) x := by
  have h : wordI m us ad (wordI m us ad k x).length x = wordI m us ad k x := by rw [word_len]
  exact wordI_iff.1 h
theorem grow_word {m : Int} {us ad : List Int} (k : Nat) (x : Int) : growN m us ad k x = (lineI m us ad (wordI m us ad k x)).1 := growN_line k _ (word_len m us ad k x) (word_is k x)
theorem words_same {m : Int} {us ad : List Int} (hm : 0 < m) (k : Nat) (X D : Int) : wordI m us ad k (X + D * m ^ k) = wordI m us ad k X := by
  apply wordI_congr hm
  rw [Int.add_mul_emod_self_right]
theorem words_end {m : Int} {us ad : List Int} (hm : 0 < m) (k : Nat) (X D : Int) : orbN m us ad k (X + D * m ^ k) = orbN m us ad k X + D * growN m us ad k X := by
  have := alike_end (us := us) (ad := ad) hm k X D
  omega
/-- the line of the word, at the other number -/
theorem words_line {m : Int} {us ad : List Int} (hM : mapP m us ad) {X D : Int} {k : Nat} (hX : Sm 67 X) (hD : Sm 67 D) (hk : k ≤ 40) :
    let l := lineI m us ad (wordI m us ad k X)
    K.fits (l.1 * (X + D * m ^ k) + l.2.1) ∧ l.1 * (X + D * m ^ k) + l.2.1 = l.2.2 * orbN m us ad k (X + D * m ^ k) ∧ 0 < l.2.2 ∧ l.2.2 = m ^ k := by
  have hm := hM.1
  have hm2 := hM.2.1
  have h1 := lin_orb (us := us) (ad := ad) hM (X + D * m ^ k) k
  rw [words_same (by omega)] at h1
  have h2 : (lineI m us ad (wordI m us ad k X)).2.2 = m ^ k := by rw [lineI_div, word_len]
  have h3 := (words_sm (us := us) (ad := ad) hM hX hD hk).1
  have h4 : Sm 97 (orbN m us ad k (X + D * m ^ k)) := h3.orb hM hk (by omega)
  refine ⟨?_, h1, ?_, h2⟩
  · rw [h1, h2, Int.mul_comm]
    exact (h4.mul (pow_le_top (by omega) (by omega) hk) (show 97 + 14 < 112 by omega)).fits (by omega)
  · rw [h2]; exact Int.pow_pos (by omega)
end Go.Proofs.YtleccblkafcidaaGreatDoor
/- package katabasistop: wrapped, power, sameInts, short -/
namespace Go.Proofs.YtleccblkafcidaaGreatDoor
open Go.RowKit
theorem tmod_lt {i n : Int} (hn : 0 < n) : -n < i.tmod n ∧ i.tmod n < n := by
  rcases Int.le_total 0 i with h | h
  · rw [Int.tmod_eq_emod_of_nonneg h]
    have := Int.emod_nonneg i (show n ≠ 0 by omega)
    have := Int.emod_lt_of_pos i hn
    omega
  · have e : i.tmod n = -((-i).tmod n) := by rw [Int.neg_tmod]; omega
    rw [e, Int.tmod_eq_emod_of_nonneg (by omega)]
    have := Int.emod_nonneg (-i) (show n ≠ 0 by omega)
    have := Int.emod_lt_of_pos (-i) hn
    omega
theorem wrapped_mod {i n : Int} (hn : 0 < n) : (i.tmod n + n).tmod n = i % n := by
  have h1 := tmod_lt (i := i) hn
  rw [Int.tmod_eq_emod_of_nonneg (by omega), Int.add_emod_right]
  have h2 : i.tmod n = i - n * (i.tdiv n) := by have := Int.mul_tdiv_add_tmod i n; omega
  rw [h2, Int.sub_mul_emod_self_left]
set_option maxRecDepth 100000 in
set_option maxHeartbeats 800000 in
theorem wrapped_any (i n : Int) (w : World) (hn : 1 ≤ n) (hn2 : n ≤ 1000000) :
    Calls Tryz.prog 53 #[.int .i64 i, .int .i64 n] w (fun e w' => e = .returned (.int .i64 (i % n)) ∧ w = w') := by
  have h1 := tmod_lt (i := i) (n := n) (by omega)
  have hw := wrapped_mod (i := i) (n := n) (by omega)
  have q0 : ¬ n = 0 := by omega
  have q1 : (n == 0) = false := beq_eq_false_iff_ne.2 q0
  obtain ⟨a, ha⟩ : ∃ a, i.tmod n = a := ⟨_, rfl⟩
  rw [ha] at h1 hw
  obtain ⟨b, hb⟩ : ∃ b, (a + n).tmod n = b := ⟨_, rfl⟩
  rw [hb] at hw
  have h2 : (IntKind.wrap .i64 (a + n)) = a + n := IntWalk.i64_in _ ⟨by omega, by omega⟩
  go_enter Tryz.func53, Tryz.ntmps53
  go_wp2_with fail
  go_ret
  exact ⟨by rw [← hw]; rfl, rfl⟩
set_option maxRecDepth 100000 in
set_option maxHeartbeats 6400000 in
theorem hpower_any (m : Int) (n : Nat) (w : World) (hm : 0 ≤ m) (hm2 : m ≤ 1000) (hn : n ≤ 40) :
    Calls Tryz.prog 58 #[.int .i64 m, .int .i64 (n : Int)] w (RefPost (m ^ n) w) := by
  have HMS := hid (show m.natAbs < 1000000000000000000 by omega)
  have HMB := hid (small_big (show m.natAbs < 1000000000 by omega))
  have hx : Ext w (w.alloc (.cells #[.bool false, .slice none 0 0] 47)) := (Ext.rfl' w).alloc' _
  have r0 : Row (w.alloc (.cells #[.bool false, .slice none 0 0] 47)) w.heap.size 47 [.bool false, .slice none 0 0] := Row.new w _ _
  have hz1 : w.heap.size < (w.alloc (.cells #[.bool false, .slice none 0 0] 47)).heap.size := by simp
  obtain ⟨W1, hW1⟩ : ∃ W1, (w.alloc (.cells #[.bool false, .slice none 0 0] 47)) = W1 := ⟨_, rfl⟩
  rw [hW1] at hx r0 hz1
  have HX := hid hx
  have HW1 := hid hW1
  have R0 := hid r0
  clear hW1 hx r0
  go_enter Tryz.func58, Tryz.ntmps58
  go_upto_region 1 with fail
  rw [HW1.out]
  go_wp2_with fail
  refine (of_one W1).mono ?_
  rintro e w2 ⟨v2, rfl, hv2, hx2⟩
  have HV2 := hid hv2
  obtain ⟨A2, k2, c2, xs2, b2, rfl, -⟩ := hv2
  have hz2 : w.heap.size < w2.heap.size := Nat.lt_of_lt_of_le hz1 hx2.size
  have hx3 : Ext W1 (w2.alloc (.cells #[.bool b2, .slice A2 k2 c2] 47)) := hx2.alloc' _
  have r2 : Row (w2.alloc (.cells #[.bool b2, .slice A2 k2 c2] 47)) w2.heap.size 47 [.bool b2, .slice A2 k2 c2] := Row.new w2 _ _
  have hv3 := HV2.out.ext ((Ext.rfl' w2).alloc' (.cells #[.bool b2, .slice A2 k2 c2] 47))
  obtain ⟨W3, hW3⟩ : ∃ W3, (w2.alloc (.cells #[.bool b2, .slice A2 k2 c2] 47)) = W3 := ⟨_, rfl⟩
  rw [hW3] at hx3 r2 hv3
  have HW3 := hid hW3
  have HX3 := hid (HX.out.step hx3)
  have R03 := hid (R0.out.ext hx3)
  have R23 := hid r2
  have HV3 := hid hv3
  clear hW3 hx3 r2 hv3 hx2 HV2 R0 HX
  go_upto_region 2 with fail
  rw [HW3.out]
  go_wp2_with fail
  go_loopw [6] (fun iz wr => ∃ (j : Nat) (b : Bool) (P : Option Addr) (q c : Nat), j ≤ n ∧ iz = .int .i64 (j : Int) ∧ Row wr w.heap.size 47 [.bool false, .slice none 0 0] ∧ Row wr w2.heap.size 47 [.bool b, .slice P q c] ∧ RefV wr (.agg #[.bool b, .slice P q c]) (m ^ j) ∧ Ext w wr) (fun iz _ => n - (intOf iz).toNat)
  case atStart => exact ⟨0, b2, A2, k2, c2, by omega, rfl, R03.out, R23.out, by rw [Int.pow_zero]; exact HV3.out, HX3.out⟩
  case round =>
    obtain ⟨j, b, P, q, c, hj, rfl, hr0, hr2, hvz, hex⟩ := hrel
    have RZ := hid hr0
    have RP := hid hr2
    have VZ := hid hvz
    have EX := hid hex
    clear hr0 hr2 hvz hex R03 R23 HV3
    obtain ⟨y0, y1, y2, y3⟩ := row_facts RP.out
    by_cases hlt : j < n
    · have HB := hid (show (m ^ j).natAbs ≤ BIG from le_big (Nat.lt_of_le_of_lt (pow_le_top hm hm2 (by omega)) (Nat.lt_of_lt_of_le (show TOP 14 < 1000000000 * TOP 14 by have := TOP_pos 14; omega) (top_step 14 15 (by omega)))) (by omega))
      have hcur : Ext wr wr := Ext.rfl' _
      go_wp2_with fail
      go_region_with (first
        | (go_at_call 28; refine (of_any m _ HMS.out).mono ?_; rintro e w10 ⟨v10, rfl, hv10, hx⟩; have hcur := Ext.step hcur (by first | exact hx | exact Ext.undrew hx | exact Ext.step ((Ext.rfl' _).alloc' _) hx | exact Ext.step ((Ext.rfl' _).drew'.alloc' _) hx); have HV10 := hid hv10; obtain ⟨A10, k10, c10, xs10, b10, rfl, -⟩ := hv10; obtain ⟨y0, y1, y2, y3⟩ := row_facts (RP.out.ext hcur))
        | (go_at_call 30; refine (rmul_any _ _ (m ^ j) m _ (VZ.out.ext ?_) (HV10.out.ext ?_) HB.out HMB.out).mono ?_; (first | exact hcur | exact hcur.drew' | exact hcur.alloc' _ | exact hcur.drew'.alloc' _ | exact (hcur.alloc' _).drew'); (first | exact Ext.rfl' _ | exact (Ext.rfl' _).drew' | exact (Ext.rfl' _).alloc' _ | exact (Ext.rfl' _).drew'.alloc' _); rintro e w11 ⟨v11, rfl, hv11, hx⟩; have hcur := Ext.step hcur (by first | exact hx | exact Ext.undrew hx | exact Ext.step ((Ext.rfl' _).alloc' _) hx | exact Ext.step ((Ext.rfl' _).drew'.alloc' _) hx); have HV11 := hid hv11; obtain ⟨A11, k11, c11, xs11, b11, rfl, -⟩ := hv11; obtain ⟨y0, y1, y2, y3⟩ := row_facts (RP.out.ext hcur)))
      all_goals
        have HFIN : Hid (∀ WF, WF = ((w11.setCell ⟨w2.heap.size, 0, none⟩ (.bool b11)).setCell ⟨w2.heap.size, 1, none⟩ (.slice A11 k11 c11)) → ∃ (j' : Nat) (b : Bool) (P : Option Addr) (q c : Nat), j' ≤ n ∧ Value.int .i64 ((j : Int) + 1) = .int .i64 (j' : Int) ∧ Row WF w.heap.size 47 [.bool false, .slice none 0 0] ∧ Row WF w2.heap.size 47 [.bool b, .slice P q c] ∧ RefV WF (.agg #[.bool b, .slice P q c]) (m ^ j') ∧ Ext w WF) := hid (by
          rintro WF rfl
          refine ⟨j + 1, b11, A11, k11, c11, by omega, by simp, ((RZ.out.ext hcur).far (by show w.heap.size ≠ w2.heap.size; omega) _).far (by show w.heap.size ≠ w2.heap.size; omega) _, ((RP.out.ext hcur).set 0 _).set 1 _, ?_, ((EX.out.step hcur).set' (by show w.heap.size ≤ w2.heap.size; omega) _).set' (by show w.heap.size ≤ w2.heap.size; omega) _⟩
          rw [Int.pow_succ]
          exact HV11.out.box (RP.out.ext hcur))
        clear hcur
        go_wp2
        go_roundw
        case rel => exact HFIN.out _ rfl
        case measure => first | (simp [intOf]; done) | (simp [intOf]; omega)
    · obtain rfl : j = n := by omega
      obtain ⟨z0, z1, z2, z3⟩ := row_facts RZ.out
      have HF : Hid (RefPost (m ^ j) w (.returned (.agg #[.bool b, .slice P q c])) ((wr.setCell ⟨w.heap.size, 0, none⟩ (.bool b)).setCell ⟨w.heap.size, 1, none⟩ (.slice P q c))) := hid (RefPost.put RZ.out EX.out (Nat.le_refl _) VZ.out)
      go_wp2
      refine bodyPost_ret (v := .agg #[.bool b, .slice P q c]) (by simp [results, Tryz.results58, go_sem, z0, z1]) rfl HF.out
set_option maxRecDepth 100000 in
set_option maxHeartbeats 1600000 in
theorem sames_any (A B : Option Addr) (n c k d : Nat) (xs ys : List Int) (w : World) (ra : Rd w A (Is xs)) (rb : Rd w B (Is ys)) (hn : xs.length = n) (hk : ys.length = k) (hb : n ≤ 140737488351232) (hb2 : k ≤ 140737488351232) {b : Bool} (hb3 : Hid (b = true ↔ xs = ys)) :
    Calls Tryz.prog 104 #[.slice A n c, .slice B k d] w (fun e w' => e = .returned (.bool b) ∧ Ext w w') := by
  have HN := hid hn
  have HK := hid hk
  have HA := hid ra
  have HB := hid rb
  by_cases hnk : n = k
  case neg =>
    obtain rfl : b = false := by
      cases b with
      | false => rfl
      | true => exact absurd (by rw [← hn, ← hk, hb3.out.1 rfl]) hnk
    have q0 : ¬ ((n : Int) = (k : Int)) := by omega
    have q1 : ((n : Int) == (k : Int)) = false := beq_eq_false_iff_ne.2 q0
    have q2 : ((n : Int) != (k : Int)) = true := by rw [bne, q1]; rfl
    clear hn hk ra rb hb3
    go_enter Tryz.func104, Tryz.ntmps104
    go_wp2_with fail
    go_ret
    exact ⟨rfl, Ext.rfl' _⟩
  case pos =>
    subst hnk
    have hb4 : n ≤ 9223372036854775807 := by omega
    clear hn hk ra rb
    go_enter Tryz.func104, Tryz.ntmps104
    go_wp2_with fail
    go_loopw [5] (fun iz wr => ∃ j : Nat, j ≤ n ∧ iz = .int .i64 (j : Int) ∧ Hid (∀ i, i < j → xs.getD i 0 = ys.getD i 0) ∧ Ext w wr) (fun iz _ => n - (intOf iz).toNat)
    case atStart => exact ⟨0, by omega, rfl, hid (fun i hi => absurd hi (by omega)), Ext.rfl' _⟩
    case round =>
      obtain ⟨j, hj, rfl, HJ, hex⟩ := hrel
      by_cases hlt : j < n
      · obtain ⟨b1, o1, e1, -, hc1⟩ := (HA.out.ext hex).atI (k := j) (by rw [HN.out]; exact hlt)
        obtain ⟨b2, o2, e2, -, hc2⟩ := (HB.out.ext hex).atI (k := j) (by rw [HK.out]; exact hlt)
        subst e1 e2
        obtain ⟨u, hu⟩ : ∃ u, xs.getD j 0 = u := ⟨_, rfl⟩
        obtain ⟨v, hv⟩ : ∃ v, ys.getD j 0 = v := ⟨_, rfl⟩
        rw [hu] at hc1
        rw [hv] at hc2
        have HU := hid hu
        have HV := hid hv
        clear hu hv
        by_cases huv : u = v
        · subst huv
          go_wp2_with fail
          go_quiet (fail)
          have hex2 := hex.drewN nq
          go_wp2
          go_roundw
          case rel => exact ⟨j + 1, by omega, by simp, hid (fun i hi => by
            rcases Nat.lt_or_ge i j with h | h
            · exact HJ.out i h
            · obtain rfl : i = j := by omega
              rw [HU.out, HV.out]), hex2⟩
          case measure => simp [intOf]; omega
        · obtain rfl : b = false := by
            cases b with
            | false => rfl
            | true => exact absurd (by rw [← HU.out, ← HV.out, hb3.out.1 rfl]) huv
          have q1 : (u == v) = false := beq_eq_false_iff_ne.2 huv
          have q2 : (u != v) = true := by rw [bne, q1]; rfl
          go_wp2_with fail
          go_quiet (fail)
          have hex2 := hex.drewN nq
          have HX := hid hex2
          go_wp2
          go_ret
          exact ⟨rfl, HX.out⟩
      · have HX := hid hex
        obtain rfl : j = n := by omega
        obtain rfl : b = true := hb3.out.2 (List.ext_getElem (by rw [HN.out, HK.out]) fun i h1 h2 => by
          have := HJ.out i (by rw [← HN.out]; exact h1)
          rwa [List.getD_eq_getElem?_getD, List.getElem?_eq_getElem h1, List.getD_eq_getElem?_getD, List.getElem?_eq_getElem h2] at this)
        go_wp2
        go_ret
        exact ⟨rfl, HX.out⟩
/-- the strings of a list -/
def Strs (ls : List (List UInt8)) : List Value := ls.map (fun l => .string (Str l))
def shortB (l : List UInt8) : Bool := decide (l.length ≤ 601) && K.validL l
theorem Rd.atStr {w : World} {A : Option Addr} {ls : List (List UInt8)} (h : Rd w A (Strs ls)) {k : Nat} (hk : k < ls.length) : ∃ b o, A = some ⟨b, o, none⟩ ∧ w.cell? ⟨b, o + k, none⟩ = some (.string (Str ls[k])) := by
  rcases h with h | ⟨b, o, rfl, -, hc⟩
  · simp [Strs] at h; subst h; simp at hk
  · exact ⟨b, o, rfl, hc k _ (by simp [Strs, hk])⟩
set_option maxRecDepth 100000 in
set_option maxHeartbeats 3200000 in
theorem hshort_any (A : Option Addr) (n c : Nat) (ls : List (List UInt8)) (w : World) (hr : Rd w A (Strs ls)) (hl : ls.length = n) (hn : n ≤ 1000) (hlen : ∀ l ∈ ls, l.length ≤ 140737488351232) {b : Bool} (hb : Hid (ls.all shortB = b)) :
    Calls Tryz.prog 51 #[.slice A n c] w (fun e w' => e = .returned (.bool b) ∧ Ext w w') := by
  have HR := hid hr
  have HL := hid hl
  have HLN := hid hlen
  clear hr hl hlen
  go_enter Tryz.func51, Tryz.ntmps51
  go_wp2_with fail
  go_loopw [3] (fun iz wr => ∃ j : Nat, j ≤ n ∧ iz = .int .i64 (j : Int) ∧ Hid (∀ i (h : i < ls.length), i < j → shortB ls[i] = true) ∧ Ext w wr) (fun iz _ => n - (intOf iz).toNat)
  case atStart => exact ⟨0, by omega, rfl, hid (fun i _ hi => absurd hi (by omega)), Ext.rfl' _⟩
  case round =>
    obtain ⟨j, hj, rfl, HJ, hex⟩ := hrel
    have EX := hid hex
    by_cases hlt : j < n
    · have hjl : j < ls.length := by rw [HL.out]; exact hlt
      obtain ⟨bl, o, e1, hc1⟩ := (HR.out.ext hex).atStr hjl
      subst e1
      have HAT : Hid (∀ b : Bool, shortB ls[j] = b → b = false → ls.all shortB = false) := hid (fun b h1 h2 => by
        rw [h2] at h1
        rw [← Bool.not_eq_true]
        intro h3
        rw [List.all_eq_true.1 h3 _ (List.getElem_mem hjl)] at h1
        cases h1)
      have HJ2 : Hid (shortB ls[j] = true → ∀ i (h : i < ls.length), i < j + 1 → shortB ls[i] = true) := hid (fun h1 i h hi => by
        rcases Nat.lt_or_ge i j with h2 | h2
        · exact HJ.out i h h2
        · obtain rfl : i = j := by omega
          exact h1)
      have HLJ := hid (HLN.out ls[j] (List.getElem_mem hjl))
      obtain ⟨l, hle⟩ : ∃ l, ls[j] = l := ⟨_, rfl⟩
      rw [hle] at hc1 HAT HJ2 HLJ
      obtain ⟨s, hs⟩ : ∃ s, s = l.length := ⟨_, rfl⟩
      have hss : (Str l).size = s := by rw [Str_size, hs]
      have i0 : (0 : Int) ≤ (j : Int) := by omega
      have i1 : (j : Int) < (n : Int) := by omega
      clear hle hex hjl
      by_cases h6 : s ≤ 601
      · have q0 : ¬ (601 : Int) < (s : Int) := by omega
        cases hv : K.validL l with
        | true =>
          have HFIN := hid (show shortB l = true by unfold shortB; rw [hv, ← hs, decide_eq_true h6]; rfl)
          go_wp2_with fail
          refine (rvalid_at l wr (hid hv) HLJ.out).mono ?_
          rintro e wz ⟨rfl, rfl⟩
          go_wp2_with fail
          go_roundw
          case rel => exact ⟨j + 1, by omega, by simp, hid (HJ2.out HFIN.out), EX.out⟩
          case measure => first | (simp [intOf]; done) | (simp [intOf]; omega)
        | false =>
          have HFIN := hid (HAT.out false (by unfold shortB; rw [hv, Bool.and_false]) rfl)
          obtain rfl : b = false := by rw [← hb.out]; exact HFIN.out
          go_wp2_with fail
          refine (rvalid_at l wr (hid hv) HLJ.out).mono ?_
          rintro e wz ⟨rfl, rfl⟩
          go_wp2
          go_ret
          exact ⟨rfl, EX.out⟩
      · have q0 : (601 : Int) < (s : Int) := by omega
        have HFIN := hid (HAT.out false (by unfold shortB; rw [← hs, decide_eq_false h6]; rfl) rfl)
        obtain rfl : b = false := by rw [← hb.out]; exact HFIN.out
        go_wp2_with fail
        go_ret
        exact ⟨rfl, EX.out⟩
    · obtain rfl : j = n := by omega
      have HFIN : Hid (b = true) := hid (by
        rw [← hb.out, List.all_eq_true]
        intro x hx
        obtain ⟨i, hi, rfl⟩ := List.getElem_of_mem hx
        exact HJ.out i hi (by rw [← HL.out]; exact hi))
      go_wp2_with fail
      go_ret
      exact ⟨by rw [HFIN.out]; rfl, EX.out⟩
end Go.Proofs.YtleccblkafcidaaGreatDoor
/- the program's calls as TopWords meets them, every text a letter -/
namespace Go.Proofs.YtleccblkafcidaaGreatDoor
open Go.RowKit
theorem line_h (v : Value) (m : Int) (us ad : List Int) (Wd : Option Addr) (wn wc : Nat) (ws : List Int) (M A D : Int) (su sa sd : ByteArray) (w : World) (hv : MapV w v m us ad) (hw : Rd w Wd (Is ws)) (hl : Hid (ws.length = wn)) (hwb : wn ≤ 140737488351232) (hM : Hid (mapP m us ad)) (hW : Hid (wordB m ws = true)) (ht : Tab w)
    (hL : Hid (lineI m us ad ws = (M, A, D))) (h1 : Hid (Str (K.txt M) = su)) (h2 : Hid (Str (K.txt A) = sa)) (h3 : Hid (Str (K.txt D) = sd)) :
    Calls Tryz.prog 118 #[v, .slice Wd wn wc] w (fun e w' => e = .returned (.tuple #[.agg #[.string su, .string sa, .string sd], .int .i64 0]) ∧ Ext w w') :=
  line_s v m us ad Wd wn wc ws su sa sd w hv hw hl.out hwb hM hW ht (hid (by rw [hL.out]; exact h1.out)) (hid (by rw [hL.out]; exact h2.out)) (hid (by rw [hL.out]; exact h3.out))
theorem apply_h (M A D N y : Int) (su sa sd sn sy : ByteArray) (w : World) (ht : Tab w) (HF : Hid (K.fits M ∧ K.fits A ∧ K.fits D ∧ K.fits N ∧ 0 < D ∧ K.fits (M * N + A) ∧ M * N + A = D * y))
    (h1 : Hid (Str (K.txt M) = su)) (h2 : Hid (Str (K.txt A) = sa)) (h3 : Hid (Str (K.txt D) = sd)) (h5 : Hid (Str (K.txt N) = sn)) (h4 : Hid (Str (K.txt y) = sy)) :
    Calls Tryz.prog 125 #[.agg #[.string su, .string sa, .string sd], .string sn] w (fun e w' => e = .returned (.tuple #[.string sy, .bool true, .int .i64 0]) ∧ Ext w w') := by
  obtain ⟨f1, f2, f3, f4, f5, f6, f7⟩ := HF.out
  have h := apply_yes M A D N w (hid f1) (hid f2) (hid f3) (hid f4) ht f5 (hid f6) (by rw [f7]; exact Int.mul_emod_right _ _)
  rw [f7, Int.mul_ediv_cancel_left _ (by omega), h1.out, h2.out, h3.out, h4.out, h5.out] at h
  exact h
/-- a word has one rest -/
theorem rest_exists {m : Int} {us ad : List Int} (hM : mapP m us ad) (hR : regB m us = true) {ws : List Int} (hw : ∀ r ∈ ws, 0 ≤ r ∧ r < m) {R0 : Int} (h0 : 0 ≤ R0) (h1 : R0 < m ^ ws.length) (hI : IsWord m us ad ws R0) : ∀ R', 0 ≤ R' → R' < m ^ ws.length → IsWord m us ad ws R' → R' = R0 := by
  intro R' h2 h3 h4
  have h5 := (word_iff hM hR hw h0 h1 hI R').1 h4
  rwa [Int.emod_eq_of_lt h2 h3] at h5
end Go.Proofs.YtleccblkafcidaaGreatDoor
