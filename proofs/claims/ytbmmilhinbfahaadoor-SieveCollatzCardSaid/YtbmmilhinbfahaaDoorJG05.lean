/- Joined texts: step.Valid; small facts of the law packages; values of texts; the shape of a law's answer; a told answer, by its number; step.check, step.nextOfShort; step.timesPlus, step.nextOfLong, step.next; step.next, step.after; step.after and what it hands on, round by round; step.Run, step.Step; step.Orbit; step.Falls; step.kin, step.Collatz; the reference's Collatz, Alike, Same; the law's same; the reference's Twin: a copy of a map; step.commonDivisor, step.Regular; the reference's Prime, Regular; num.Sub, num.Gcd by contract; the reference's guess; the reference's guess, of any two numbers; the reference's Div; the reckoner of package word; words and their linear maps: plain mathematics; word.check; word.lineOfNoStep, lineOfStep, the function literal of Line; the function literal of word.Line; word.Line; numbers whose difference is a multiple of a power of the modulus: plain mathematics. -/
import Derived.Test.YtbmmilhinbfahaaDoorJG03
import Derived.Deep.RegionHeld3
import Derived.RangeFuncNested
import Derived.RangeFuncBound
import Derived.RangeFuncCalls
import Derived.RangeFuncLeaves
import Derived.RangeFuncFrom
import Derived.RangeFuncWrites
import Derived.Shelf.Abstract
import Derived.Shelf.RegionOpen
import Derived.WalkKit
import Derived.OwnWalkIn
import Derived.TacticsInMore
import Derived.LoopNIn
import Derived.LoopIn
import Derived.RangeFuncBox
import Derived.Maps.AppendAt
import Derived.Maps.OwnIn
import Derived.Deep.RegionLawGrows
import Derived.Deep.Upon
import Derived.Deep.LoopGhost
import Derived.IntWalk
import Derived.Test.YtbmmilhinbfahaaDoorJG02
import Derived.Deep.DeepCutAuto
set_option linter.unusedSimpArgs false
set_option linter.unusedVariables false
/- step.Valid -/
namespace Go.Proofs.YtbmmilhinbfahaaDoor
open Go.RowKit
set_option maxRecDepth 100000 in
set_option maxHeartbeats 1600000 in
theorem stepvalid_any (v : Value) (m : Int) (us ad : List Int) (w : World) (hv : MapV w v m us ad) {b : Bool} (hb : Hid (mapB m us ad = b)) :
    Calls Tryd.prog 10 #[v] w (fun e w' => e = .returned (.bool b) ∧ Ext w w') := by
  obtain ⟨A, k, c, B, l, d, rfl, hk, hkc, hl, hld, ra, rb, bk, bl⟩ := hv
  have hno : ∀ (_ : ¬ mapP m us ad), Hid (b = false) := fun h => hid (by
    rw [← hb.out]
    cases hB : mapB m us ad with
    | false => rfl
    | true => exact absurd ((mapB_iff m us ad).1 hB) h)
  have hbk : k ≤ 9223372036854775807 := by omega
  have hbl : l ≤ 9223372036854775807 := by omega
  have hx : Ext w (w.alloc (.cells #[.int .i64 m, .slice A k c, .slice B l d] 24)) := (Ext.rfl' w).alloc' _
  have hk3 : ∀ w', Ext (w.alloc (.cells #[.int .i64 m, .slice A k c, .slice B l d] 24)) w' → _ := fun w' e => three_facts e rfl
  by_cases c1 : m < 2
  · have HF := hno (fun h => by have := h.1; omega)
    have HX := hid hx
    clear hno hb hk hl ra rb hx hk3
    go_enter Tryd.func10, Tryd.ntmps10
    go_wp2
    go_ret
    exact ⟨by rw [HF.out]; rfl, HX.out⟩
  · by_cases c2 : 12 < m
    · have HF := hno (fun h => by have := h.2.1; omega)
      have HX := hid hx
      clear hno hb hk hl ra rb hx hk3
      go_enter Tryd.func10, Tryd.ntmps10
      go_wp2
      go_ret
      exact ⟨by rw [HF.out]; rfl, HX.out⟩
    · by_cases c3 : (k : Int) = m
      · by_cases c4 : (l : Int) = m
        · subst c3
          obtain rfl : l = k := by omega
          have HNO := hid hno
          have HK := hid hk
          have HL := hid hl
          have HX := hid hx
          have HK3 := hid hk3
          have HRA := hid ra
          have HRB := hid rb
          have k12 : l ≤ 12 := by omega
          have k2 : 2 ≤ l := by omega
          obtain ⟨f0, f1, f2, -⟩ := hk3 _ (Ext.rfl' _)
          obtain ⟨W1, hW1⟩ : ∃ W1, w.alloc (.cells #[.int .i64 (l : Int), .slice A l c, .slice B l d] 24) = W1 := ⟨_, rfl⟩
          rw [hW1] at HX HK3 f0 f1 f2
          have HW1 := hid hW1
          clear hno hk hl hx hk3 hW1 ra rb c4 hbk hbl c1 c2
          go_enter Tryd.func10, Tryd.ntmps10
          go_upto_region 1 with fail
          rw [HW1.out]
          go_wp2_with fail
          clear f0 f1 f2
          go_loopw [3, 4, 32] (fun _ _ iz wr => ∃ j : Nat, j ≤ l ∧ iz = .int .i64 (j : Int) ∧ Hid (∀ r : Nat, r < j → ruleP (l : Int) r (us.getD r 0) (ad.getD r 0)) ∧ Ext W1 wr) (fun _ _ iz _ => l - (intOf iz).toNat)
          case atStart => exact ⟨0, by omega, rfl, hid (fun r h => absurd h (by omega)), Ext.rfl' _⟩
          case round =>
            obtain ⟨j, hj, rfl, HR, hex⟩ := hrel
            obtain ⟨f0, f1, f2, -⟩ := HK3.out _ hex
            by_cases hlt : j < l
            · obtain ⟨ba, oa, eA, hba, hca⟩ := ((HRA.out.ext HX.out).ext hex).atI (k := j) (by rw [HK.out]; exact hlt)
              obtain ⟨bb, ob, eB, hbb, hcb⟩ := ((HRB.out.ext HX.out).ext hex).atI (k := j) (by rw [HL.out]; exact hlt)
              subst eA eB
              obtain ⟨u, hu⟩ : ∃ u, us.getD j 0 = u := ⟨_, rfl⟩
              obtain ⟨a, ha⟩ : ∃ a, ad.getD j 0 = a := ⟨_, rfl⟩
              rw [hu] at hca
              rw [ha] at hcb
              have HU := hid hu
              have HA := hid ha
              clear hu ha hba hbb
              by_cases hr : ruleP (l : Int) j u a
              · have HNEXT : Hid (∀ r : Nat, r < j + 1 → ruleP (l : Int) r (us.getD r 0) (ad.getD r 0)) := hid (by
                  intro r h
                  rcases Nat.lt_or_ge r j with h1 | h1
                  · exact HR.out r h1
                  · obtain rfl : r = j := by omega
                    rw [HU.out, HA.out]; exact hr)
                have HRU : Hid (ruleB (l : Int) j u a = true) := hid (decide_eq_true hr)
                clear hr
                go_wp2_with fail
                go_quiet ((go_at_call 26; exact Calls.quiet_of_same ((validRule_any (l : Int) (j : Int) u a _ (by omega) (by omega) (by omega) (by omega) HRU).mono fun _ _ h => ⟨h.1, h.2.symm⟩)))
                have hex2 := hex.drewN nq
                go_wp2
                go_roundw
                case rel => exact ⟨j + 1, by omega, by simp, HNEXT, hex2⟩
                case measure => simp [intOf]; omega
              · have HF := HNO.out (fun h => hr (by have := h.2.2.2.2 j (by rw [HK.out]; exact hlt); rwa [HU.out, HA.out] at this))
                have HRU : Hid (ruleB (l : Int) j u a = false) := hid (decide_eq_false hr)
                clear hr
                go_wp2_with fail
                go_quiet ((go_at_call 26; exact Calls.quiet_of_same ((validRule_any (l : Int) (j : Int) u a _ (by omega) (by omega) (by omega) (by omega) HRU).mono fun _ _ h => ⟨h.1, h.2.symm⟩)))
                have HY := hid (HX.out.step (hex.drewN nq))
                go_wp2
                go_ret
                exact ⟨by rw [HF.out]; rfl, HY.out⟩
            · have HF : Hid (b = true) := hid (by
                rw [← hb.out]
                exact (mapB_iff _ _ _).2 ⟨by omega, by omega, by rw [HK.out], by rw [HL.out], fun r h => HR.out r (by rw [HK.out] at h; omega)⟩)
              have HY := hid (HX.out.step hex)
              go_wp2
              go_ret
              exact ⟨by rw [HF.out]; rfl, HY.out⟩
        · have HF := hno (fun h => c4 (by have := h.2.2.2.1; omega))
          have HX := hid hx
          subst c3
          have e4 : ((l : Int) == (k : Int)) = false := by rw [beq_eq_false_iff_ne]; exact c4
          have e5 : (l == k) = false := by rw [beq_eq_false_iff_ne]; omega
          clear hno hb hk hl ra rb hx hk3 c4
          go_enter Tryd.func10, Tryd.ntmps10
          go_wp2
          go_ret
          exact ⟨by rw [HF.out]; rfl, HX.out⟩
      · have HF := hno (fun h => c3 (by have := h.2.2.1; omega))
        have HX := hid hx
        have e3 : ((k : Int) == m) = false := by rw [beq_eq_false_iff_ne]; exact c3
        clear hno hb hk hl ra rb hx hk3 c3
        go_enter Tryd.func10, Tryd.ntmps10
        go_wp2
        go_ret
        exact ⟨by rw [HF.out]; rfl, HX.out⟩
end Go.Proofs.YtbmmilhinbfahaaDoor
/- small facts of the law packages -/
namespace Go.Proofs.YtbmmilhinbfahaaDoor
open Go.RowKit
theorem Str_inj {a b : List UInt8} (h : Str a = Str b) : a = b := by
  have := congrArg ByteArray.toList h
  rwa [Str_toList, Str_toList] at this
def Alike (a b : List UInt8) : Prop := a = [] ∨ b = [] ∨ a = b
theorem valid_lit (l : List UInt8) (b : Bool) (s : ByteArray) (hs : Str l = s) (hb : K.validL l = b) (hl : l.length ≤ 2001) (w : World) :
    Calls Tryd.prog 24 #[.string s] w (fun e w' => e = .returned (.bool b) ∧ Ext w w') := by
  subst hs hb
  exact valid_any l w (by omega)
end Go.Proofs.YtbmmilhinbfahaaDoor
/- values of texts; the shape of a law's answer -/
namespace Go.Proofs.YtbmmilhinbfahaaDoor
open Go.RowKit
def TruePost (w : World) (e : Ending) (w' : World) : Prop := e = .returned (.bool true) ∧ Ext w w'
def Val (x : List UInt8) (m : Int) : Prop := x = [] ∨ (K.validL x = true ∧ K.numL x = m)
theorem Val.of {x : List UInt8} (h : K.validL x = true) : Val x (K.numL x) := .inr ⟨h, rfl⟩
theorem valid_nil : K.validL [] = false := rfl
theorem same_num {x y : List UInt8} (hx : K.validL x = true) (hy : K.validL y = true) (e : K.numL x = K.numL y) : x = y := by
  rw [← (K.txt_numL x hx).1, ← (K.txt_numL y hy).1, e]
theorem Val.told (n : Int) : Val (told n) n := by
  by_cases h : K.fits n
  · exact .inr ⟨by rw [told_fits h]; exact K.valid_txt n h, by rw [told_fits h, K.numL_txt]⟩
  · exact .inl (told_not h)
theorem Val.num {x : List UInt8} {m : Int} (h : Val x m) (v : K.validL x = true) : K.numL x = m := by
  rcases h with h | h
  · rw [h] at v; cases v
  · exact h.2
theorem Val.sum {x y : List UInt8} {m n : Int} (hx : Val x m) (hy : Val y n) : Val (sL x y) (m + n) := by
  unfold sL
  split
  · rename_i h
    rw [hx.num h.1, hy.num h.2]; exact Val.told _
  · exact .inl rfl
theorem Val.prod {x y : List UInt8} {m n : Int} (hx : Val x m) (hy : Val y n) : Val (mL x y) (m * n) := by
  unfold mL
  split
  · rename_i h
    rw [hx.num h.1, hy.num h.2]; exact Val.told _
  · exact .inl rfl
theorem Val.alike {x y : List UInt8} {m : Int} (hx : Val x m) (hy : Val y m) : Alike x y := by
  rcases hx with h | h
  · exact .inl h
  · rcases hy with k | k
    · exact .inr (.inl k)
    · exact .inr (.inr (same_num h.1 k.1 (h.2.trans k.2.symm)))
theorem Val.alike' {x y : List UInt8} {m n : Int} (hx : Val x m) (hy : Val y n) (e : m = n) : Alike x y := (e ▸ hx).alike hy
theorem sL_comm (a b : List UInt8) : sL a b = sL b a := by
  unfold sL; simp only [And.comm, Int.add_comm]
theorem mL_comm (a b : List UInt8) : mL a b = mL b a := by
  unfold mL; simp only [And.comm, Int.mul_comm]
theorem sum_form {a b : List UInt8} (ha : K.validL a = true) (hb : K.validL b = true) : sL a b = told (K.numL a + K.numL b) := if_pos ⟨ha, hb⟩
theorem len_of {l : List UInt8} (h : l.length ≤ 2001) : l.length ≤ 140737488351232 := by omega
def AddPost (s : List UInt8) (n : Int) (w : World) (e : Ending) (w' : World) : Prop :=
  ((e = .returned (.tuple #[.string (Str s), .int .i64 0]) ∧ Hid (K.validL s = true ∧ K.numL s = n ∧ s.length ≤ 2001)) ∨ (e = .returned (.tuple #[.string ⟨#[]⟩, .int .i64 3]) ∧ Hid (¬ K.fits n))) ∧ Ext w w'
theorem told_post {n : Int} {w : World} {e : Ending} {w' : World} (h : ToldPost n w e w') : ∃ s, AddPost s n w e w' := by
  by_cases hf : K.fits n
  · exact ⟨K.txt n, .inl ⟨h.1 hf, hid ⟨K.valid_txt n hf, K.numL_txt n, K.txt_len n hf⟩⟩, h.2.2⟩
  · exact ⟨[], .inr ⟨h.2.1 hf, hid hf⟩, h.2.2⟩
theorem told_eq {n : Int} {l : List UInt8} {w : World} {e : Ending} {w' : World} (h : ToldPost n w e w') (v : K.validL l = true) (k : K.numL l = n) : e = .returned (.tuple #[.string (Str l), .int .i64 0]) ∧ Ext w w' := by
  have := lit_eq v k
  exact ⟨by rw [h.1 this.1, this.2], h.2.2⟩
end Go.Proofs.YtbmmilhinbfahaaDoor
/- a told answer, by its number -/
namespace Go.Proofs.YtbmmilhinbfahaaDoor
open Go.RowKit
def Told2 (n : Int) (s : ByteArray) (c : Int) : Prop := (K.fits n → s = Str (K.txt n) ∧ c = 0) ∧ (¬ K.fits n → s = ⟨#[]⟩ ∧ c = 3)
theorem told2_of {n : Int} {w : World} {e : Ending} {w' : World} (h : ToldPost n w e w') : ∃ (s : ByteArray) (c : Int), e = .returned (.tuple #[.string s, .int .i64 c]) ∧ Told2 n s c ∧ Ext w w' := by
  by_cases hf : K.fits n
  · exact ⟨_, _, h.1 hf, ⟨fun _ => ⟨rfl, rfl⟩, fun k => absurd hf k⟩, h.2.2⟩
  · exact ⟨_, _, h.2.1 hf, ⟨fun k => absurd k hf, fun _ => ⟨rfl, rfl⟩⟩, h.2.2⟩
theorem valid_at (l : List UInt8) {v : Bool} (w : World) (hv : Hid (K.validL l = v)) (hl : l.length ≤ 140737488351232) :
    Calls Tryd.prog 24 #[.string (Str l)] w (fun e w' => e = .returned (.bool v) ∧ Ext w w') := by
  rw [← hv.out]; exact valid_any l w hl
end Go.Proofs.YtbmmilhinbfahaaDoor
/- step.check, step.nextOfShort -/
namespace Go.Proofs.YtbmmilhinbfahaaDoor
open Go.RowKit
def ErrPost (c : Int) (w : World) (e : Ending) (w' : World) : Prop := e = .returned (.int .i64 c) ∧ Ext w w'
theorem short_lt {l : List UInt8} (h : K.validL l = true) (hl : l.length ≤ 15) : (K.numL l).natAbs < 1000000000000000 := by
  obtain ⟨hd, -, -⟩ := body_all h
  obtain ⟨hval, hll⟩ := body_val h
  have h1 := K.dv_lt (K.body l) hd
  have h2 : 10 ^ (K.body l).length ≤ 10 ^ 15 := Nat.pow_le_pow_right (by omega) (by omega)
  have h3 : (10 : Nat) ^ 15 = 1000000000000000 := rfl
  omega
theorem rest_go {x m : Int} (hm : 2 ≤ m) : (x.tmod m + m).tmod m = (rOf m x : Int) := by
  have h1 := (rOf_lt (m := m) (x := x) (by omega)).2
  have h2 : x.tmod m = x - m * x.tdiv m := by have := Int.mul_tdiv_add_tmod x m; omega
  have h3 : -m < x.tmod m := by
    rcases Int.le_total 0 x with h | h
    · have := Int.tmod_nonneg m h
      omega
    · have e1 : x.tmod m = -((-x).tmod m) := by rw [Int.neg_tmod]; omega
      have e2 := Int.tmod_lt_of_pos (-x) (show 0 < m by omega)
      omega
  rw [Int.tmod_eq_emod_of_nonneg (by omega), h1, h2, show x - m * x.tdiv m + m = x + m * (1 - x.tdiv m) by rw [Int.mul_sub]; omega, Int.add_mul_emod_self_left]
theorem rest_wrap {x m : Int} (hm : 2 ≤ m) (hm2 : m ≤ 12) : (wrap64 (x.tmod m + m)).tmod m = (rOf m x : Int) := by
  have e2 := Int.tmod_lt_of_pos x (show 0 < m by omega)
  have e3 : -m < x.tmod m := by
    rcases Int.le_total 0 x with h | h
    · have := Int.tmod_nonneg m h
      omega
    · have e1 : x.tmod m = -((-x).tmod m) := by rw [Int.neg_tmod]; omega
      have e2 := Int.tmod_lt_of_pos (-x) (show 0 < m by omega)
      omega
  rw [IntWalk.wrap64_in _ (by omega)]
  exact rest_go hm
/-- the step of a short number is short -/
theorem step_small {m x : Int} {us ad : List Int} (h : mapP m us ad) (hx : x.natAbs < 1000000000000000) :
    (us.getD (rOf m x) 0 * x).natAbs ≤ 999000000000000000 ∧ (us.getD (rOf m x) 0 * x + ad.getD (rOf m x) 0).tdiv m = stepI m us ad x ∧ (stepI m us ad x).natAbs < 1000000000000000000 := by
  have hr := rule_at h x
  have hm := h.1
  have h1 := rOf_lt (m := m) (x := x) (by omega)
  unfold stepI
  generalize us.getD (rOf m x) 0 = u at *
  generalize ad.getD (rOf m x) 0 = a at *
  obtain ⟨r1, r2, r3, r4, r5⟩ := hr
  have hu : (u * x).natAbs ≤ 999000000000000000 := by
    rw [Int.natAbs_mul]
    have := Nat.mul_le_mul (show u.natAbs ≤ 999 by omega) (show x.natAbs ≤ 1000000000000000 by omega)
    omega
  have hdiv : m ∣ u * x + a := by
    have e : u * x + a = (u * (rOf m x : Int) + a) + m * (u * (x / m)) := by
      have h2 := Int.mul_ediv_add_emod x m
      have h3 : u * x = u * (m * (x / m)) + u * (x % m) := by rw [← Int.mul_add, h2]
      have h4 : u * (m * (x / m)) = m * (u * (x / m)) := by rw [← Int.mul_assoc, Int.mul_comm u m, Int.mul_assoc]
      rw [h1.2, h3, h4]; omega
    rw [e]
    exact Int.dvd_add (Int.dvd_of_emod_eq_zero r5) (Int.dvd_mul_right _ _)
  refine ⟨hu, Int.tdiv_eq_ediv_of_dvd hdiv, ?_⟩
  have h5 := Int.natAbs_ediv_le_natAbs (u * x + a) m
  omega
end Go.Proofs.YtbmmilhinbfahaaDoor
/- step.timesPlus, step.nextOfLong, step.next -/
namespace Go.Proofs.YtbmmilhinbfahaaDoor
open Go.RowKit
theorem fits_small {n : Int} (h : n.natAbs < 1000000000000000000) : K.fits n := by
  have h2 : (1000000000000000000 : Nat) ≤ K.LIM := by decide +kernel
  unfold K.fits
  omega
theorem valid_small {n : Int} (h : n.natAbs < 1000000000000000000) : K.validL (K.txt n) = true := K.valid_txt n (fits_small h)
theorem len_small {n : Int} (h : n.natAbs < 1000000000000000000) : (K.txt n).length ≤ 140737488351232 := len_of (K.txt_len n (fits_small h))
theorem fits_le {a b : Int} (h : a.natAbs ≤ b.natAbs) (hb : K.fits b) : K.fits a := by unfold K.fits at *; omega
theorem long_ge {l : List UInt8} (h : K.validL l = true) (hl : 15 < l.length) : 100000000000000 ≤ (K.numL l).natAbs := by
  obtain ⟨hval, hll⟩ := body_val h
  have e := (K.txt_numL l h).1
  have hb : K.body l = K.dgs (K.numL l).natAbs := by conv => lhs; rw [← e, K.body_txt]
  rw [hb] at hll
  have h3 : (10 : Nat) ^ 14 = 100000000000000 := rfl
  rcases Nat.lt_or_ge (K.numL l).natAbs 100000000000000 with h4 | h4
  · have := (K.dgs_len (K.numL l).natAbs 14 (by omega)).2 (by rw [h3]; exact h4)
    split at hll <;> omega
  · exact h4
theorem quot_ge {x m : Int} (hm : 2 ≤ m) (hm2 : m ≤ 12) (hx : 100000000000000 ≤ x.natAbs) : 2000000000000 ≤ (x / m).natAbs := by
  have h1 := Int.mul_ediv_add_emod x m
  have h2 := Int.emod_nonneg x (show m ≠ 0 by omega)
  have h3 := Int.emod_lt_of_pos x (show 0 < m by omega)
  generalize x / m = q at *
  generalize x % m = r at *
  have h4 : (m * q).natAbs = m.natAbs * q.natAbs := Int.natAbs_mul m q
  have h5 : m.natAbs * q.natAbs ≤ 12 * q.natAbs := Nat.mul_le_mul_right _ (by omega)
  omega
end Go.Proofs.YtbmmilhinbfahaaDoor
/- step.next, step.after -/
namespace Go.Proofs.YtbmmilhinbfahaaDoor
open Go.RowKit
end Go.Proofs.YtbmmilhinbfahaaDoor
/- step.after and what it hands on, round by round -/
namespace Go.Proofs.YtbmmilhinbfahaaDoor
open Go.RowKit Go.Proofs
attribute [local go_sem] Oper.semAt_some
/-- what a round is handed: a number that fits, or nothing -/
def Item : Type := { t : Option Int // ∀ y, t = some y → K.fits y }
def strO : Option Int → ByteArray
  | some y => Str (K.txt y)
  | none => ⟨#[]⟩
def codeO : Option Int → Int
  | some _ => 0
  | none => 3
def encI (t : Item) : Array Value := #[.string (strO t.1), .int .i64 (codeO t.1)]
def seqO (m : Int) (us ad : List Int) : Nat → Int → List (Option Int)
  | 0, _ => []
  | k + 1, x => if fitsB (stepI m us ad x) = true then some (stepI m us ad x) :: seqO m us ad k (stepI m us ad x) else [none]
theorem grown_of_ext {w w' : World} (h : Ext w w') : w.grownBy w' none := ⟨h.os, h.tape, h.output, h.size, fun k hk _ => h.block k hk⟩
theorem AbidesFrom.ext {β : Type} {B : Nat} {J : β → World → Prop} (h : AbidesFrom B J) {s : β} {w w' : World} (hs : J s w) (e : Ext w w') : J s w' :=
  h s w w' none hs (grown_of_ext e) (fun r e => by cases e)
/-- what lay below n₀ stands, and block Bm -/
def KeptM (n₀ Bm : Nat) (W W' : World) : Prop := Below n₀ W W' ∧ W'.heap[Bm]? = W.heap[Bm]?
theorem KeptM.t {n₀ Bm : Nat} {A B C : World} (h : KeptM n₀ Bm A B) (k : KeptM n₀ Bm B C) : KeptM n₀ Bm A C := ⟨h.1.trans k.1, k.2.trans h.2⟩
theorem KeptM.row {n₀ Bm : Nat} {W W' : World} {t : TypeId} {vs : List Value} (h : KeptM n₀ Bm W W') (r : Row W Bm t vs) : Row W' Bm t vs := h.2.trans r
end Go.Proofs.YtbmmilhinbfahaaDoor
/- step.Run, step.Step -/
namespace Go.Proofs.YtbmmilhinbfahaaDoor
open Go.RowKit Go.Proofs
attribute [local go_sem] Oper.semAt_some
def lastO (x : Int) (l : List (Option Int)) : Int := l.foldl (fun a o => o.getD a) x
theorem seq_run (m : Int) (us ad : List Int) : ∀ (k : Nat) (x : Int), (none ∉ seqO m us ad k x → runO m us ad k x = some (lastO x (seqO m us ad k x))) ∧ (none ∈ seqO m us ad k x → runO m us ad k x = none)
  | 0, x => ⟨fun _ => rfl, fun h => by simp [seqO] at h⟩
  | k + 1, x => by
    have ih := seq_run m us ad k (stepI m us ad x)
    rw [seqO, runO_succ]
    by_cases hf : fitsB (stepI m us ad x) = true
    · rw [if_pos hf, if_pos hf]
      refine ⟨fun h => ?_, fun h => ?_⟩
      · rw [ih.1 (fun h2 => h (List.mem_cons_of_mem _ h2))]; rfl
      · exact ih.2 (by simpa using h)
    · rw [if_neg hf, if_neg hf]
      exact ⟨fun h => absurd (List.mem_singleton.2 rfl) h, fun _ => rfl⟩
theorem lastO_snoc (x : Int) (l : List (Option Int)) (y : Int) : lastO x (l ++ [some y]) = y := by simp [lastO]
/-- a result, or ErrSize -/
def OptPost (o : Option Int) (w : World) (e : Ending) (w' : World) : Prop := e = .returned (.tuple #[.string (strO o), .int .i64 (codeO o)]) ∧ Ext w w'
theorem one_facts {W w' : World} {a : Value} {t : TypeId} {H : Nat} (e : Ext (W.alloc (.cells #[a] t)) w') (hH : W.heap.size = H) : Row w' H t [a] := by
  subst hH; exact (Row.new W t [a]).ext e
theorem Row.grown {W W' : World} {B g : Nat} {t : TypeId} {vs : List Value} {row : Option Nat} (h : Row W g t vs) (hg : W.grownBy W' row) (hr : ∀ r, row = some r → B ≤ r ∧ ∃ o : Obj, W.heap[r]? = some o ∧ o.isCells = false) : Row W' g t vs := by
  refine (hg.block g h.lt ?_).trans h
  intro e
  obtain ⟨-, o, ho, hc⟩ := hr g e.symm
  have h' : W.heap[g]? = some (.cells vs.toArray t (0, 0)) := h
  rw [h'] at ho
  cases ho
  simp [Obj.isCells] at hc
theorem ext_grown {w W W' : World} {B : Nat} {row : Option Nat} (h : Ext w W) (hB : w.heap.size ≤ B) (hg : W.grownBy W' row) (hr : ∀ r, row = some r → B ≤ r ∧ ∃ o : Obj, W.heap[r]? = some o ∧ o.isCells = false) : Ext w W' :=
  h.grown hg h.size (fun k e => Nat.le_trans hB (hr k e).1)
end Go.Proofs.YtbmmilhinbfahaaDoor
/- step.Orbit -/
namespace Go.Proofs.YtbmmilhinbfahaaDoor
open Go.RowKit Go.Proofs
attribute [local go_sem] Oper.semAt_some
theorem infoS : (Tryd.prog.info? 9).map (fun i => (i.zero, i.size, i.bytes)) = some (some (.string ⟨#[]⟩), 1, 16) := by kernel_rfl
/-- texts as values -/
abbrev Txs (l : List (Option Int)) : List Value := l.map fun o => Value.string (strO o)
/-- an orbit's numbers, or ErrSize -/
def OrbPost (s : List (Option Int)) (x : Int) (w : World) (e : Ending) (w' : World) : Prop :=
  (none ∉ s → ∃ A k c, e = .returned (.tuple #[.slice A k c, .int .i64 0]) ∧ k = s.length + 1 ∧ k ≤ c ∧ Rd w' A (Txs (some x :: s))) ∧ (none ∈ s → e = .returned (.tuple #[.slice none 0 0, .int .i64 3])) ∧ Ext w w'
theorem Row.boxed {W : World} {g : Nat} {t : TypeId} {v : Value} (h : Row W g t [v]) : Boxed W g t v := h
theorem Boxed.row {W : World} {g : Nat} {t : TypeId} {v : Value} (h : Boxed W g t v) : Row W g t [v] := h
theorem Row.not_own {W : World} {g : Nat} {t e : TypeId} {vs xs : List Value} {base size k : Nat} {v : Value} (h : Row W g t vs) (hte : t ≠ e) (ho : W.ownsRow base e size v k xs) : v.ownBlock ≠ some g := by
  rcases ho.2 with ⟨rfl, -⟩ | ⟨b, cap, cur, rfl, -, hb, -⟩
  · simp [Value.ownBlock]
  · intro e'
    have e2 : b = g := by simpa [Value.ownBlock] using e'
    subst e2
    have h' : W.heap[b]? = some (.cells vs.toArray t (0, 0)) := h
    rw [hb] at h'
    cases h'
    exact hte rfl
theorem Row.appended {W w1 : World} {g : Nat} {t e : TypeId} {vs xs : List Value} {base size k : Nat} {v : Value} {tmp : Obj} (h : Row W g t vs) (hte : t ≠ e) (ho : W.ownsRow base e size v k xs) (hg : (W.alloc tmp).grownBy w1 v.ownBlock) : Row w1 g t vs :=
  (hg.block g (by have := h.lt; rw [World.size_alloc]; omega) (fun e' => h.not_own hte ho e'.symm)).trans (h.alloc tmp)
theorem Txs_snoc (l : List (Option Int)) (o : Option Int) : Txs (l ++ [o]) = Txs l ++ [.string (strO o)] := by simp [Txs]
end Go.Proofs.YtbmmilhinbfahaaDoor
/- step.Falls -/
namespace Go.Proofs.YtbmmilhinbfahaaDoor
open Go.RowKit Go.Proofs
attribute [local go_sem] Oper.semAt_some
/-- the first fall among the numbers that follow -/
def fallL (x : Int) : Nat → List (Option Int) → Int × ByteArray × Int
  | _, [] => (0, ⟨#[]⟩, 4)
  | _, none :: _ => (0, ⟨#[]⟩, 3)
  | i, some y :: r => if y < x then ((i : Int) + 1, Str (K.txt y), 0) else fallL x (i + 1) r
theorem keeps_ext {W W' : World} (e : Ext W W') : KeepsOthers W W' := KeepsOthers.of_grownBy (grown_of_ext e) (fun j o ej _ => by cases ej)
theorem sgnI_lt {a b : Int} (h : a < b) : sgnI a b = -1 := by unfold sgnI; rw [if_pos h]
theorem sgnI_ge {a b : Int} (h : ¬ a < b) : 0 ≤ sgnI a b := by unfold sgnI; rw [if_neg h]; split <;> omega
def FallPost (r : Int × ByteArray × Int) (w : World) (e : Ending) (w' : World) : Prop := e = .returned (.tuple #[.int .i64 r.1, .string r.2.1, .int .i64 r.2.2]) ∧ Ext w w'
end Go.Proofs.YtbmmilhinbfahaaDoor
/- step.kin, step.Collatz; the reference's Collatz, Alike, Same; the law's same -/
namespace Go.Proofs.YtbmmilhinbfahaaDoor
open Go.RowKit
/-- a map in new memory -/
def MapNew (m : Int) (us ad : List Int) (b : Nat) (v : Value) (w' : World) : Prop :=
  ∃ g1 g2 k, v = .agg #[.int .i64 m, .slice (some ⟨g1, 0, none⟩) k k, .slice (some ⟨g2, 0, none⟩) k k] ∧ Row w' g1 3 (Is us) ∧ Row w' g2 3 (Is ad) ∧ b ≤ g1 ∧ b ≤ g2 ∧ us.length = k ∧ ad.length = k ∧ k ≤ 12
def MapPost (m : Int) (us ad : List Int) (w : World) (e : Ending) (w' : World) : Prop := ∃ v, e = .returned v ∧ MapNew m us ad w.heap.size v w' ∧ Ext w w'
/-- a map whose lists lie in two new blocks -/
theorem MapV.fresh {W : World} {g1 g2 : Nat} {t : TypeId} {m : Int} {us ad : List Int} {k : Nat} (h1 : Row W g1 t (Is us)) (h2 : Row W g2 t (Is ad)) (e1 : us.length = k) (e2 : ad.length = k) (hk : k ≤ 12) :
    MapV W (.agg #[.int .i64 m, .slice (some ⟨g1, 0, none⟩) k k, .slice (some ⟨g2, 0, none⟩) k k]) m us ad :=
  ⟨_, k, k, _, k, k, rfl, e1, Nat.le_refl _, e2, Nat.le_refl _, h1.rd0, h2.rd0, by omega, by omega⟩
theorem Row.set3 {W : World} {H g : Nat} {t : TypeId} {vs : List Value} {a b c : Value} (h : Row W g t vs) (hne : g ≠ H) : Row (((W.setCell ⟨H, 0, none⟩ a).setCell ⟨H, 1, none⟩ b).setCell ⟨H, 2, none⟩ c) g t vs :=
  ((h.far (by show g ≠ H; exact hne) _).far (by show g ≠ H; exact hne) _).far (by show g ≠ H; exact hne) _
theorem Row.put3 {W : World} {H : Nat} {t : TypeId} {x y z a b c : Value} (h : Row W H t [x, y, z]) : Row (((W.setCell ⟨H, 0, none⟩ a).setCell ⟨H, 1, none⟩ b).setCell ⟨H, 2, none⟩ c) H t [a, b, c] :=
  ((h.set 0 a).set 1 b).set 2 c
theorem Ext.set3 {w W : World} {H : Nat} {a b c : Value} (h : Ext w W) (hH : w.heap.size ≤ H) : Ext w (((W.setCell ⟨H, 0, none⟩ a).setCell ⟨H, 1, none⟩ b).setCell ⟨H, 2, none⟩ c) :=
  ((h.set' (by show _ ≤ H; exact hH) _).set' (by show _ ≤ H; exact hH) _).set' (by show _ ≤ H; exact hH) _
theorem row_facts3 {w : World} {g : Nat} {t : TypeId} {a b c : Value} (h : Row w g t [a, b, c]) : w.cell? ⟨g, 0, none⟩ = some a ∧ w.cell? ⟨g, 1, none⟩ = some b ∧ w.cell? ⟨g, 2, none⟩ = some c ∧ w.frozen? ⟨g, 0, none⟩ = false ∧ w.frozen? ⟨g, 1, none⟩ = false ∧ w.frozen? ⟨g, 2, none⟩ = false :=
  ⟨by rw [h.cell]; rfl, by rw [h.cell]; rfl, by rw [h.cell]; rfl, h.free 0, h.free 1, h.free 2⟩
set_option maxRecDepth 100000 in
set_option maxHeartbeats 800000 in
theorem refCollatz_any (w : World) : Calls Tryd.prog 4 #[] w (MapPost 2 [1, 3] [0, 1] w) := by
  have h1 : Row (((w.alloc (.cells #[.int .i64 2, .slice (some ⟨w.heap.size + 1, 0, none⟩) 2 2, .slice (some ⟨w.heap.size + 1 + 1, 0, none⟩) 2 2] 24)).alloc (.cells #[.int .i64 1, .int .i64 3] 3)).alloc (.cells #[.int .i64 0, .int .i64 1] 3)) (w.heap.size + 1) 3 (Is [1, 3]) := by
    have := (Row.new (w.alloc (.cells #[.int .i64 2, .slice (some ⟨w.heap.size + 1, 0, none⟩) 2 2, .slice (some ⟨w.heap.size + 1 + 1, 0, none⟩) 2 2] 24)) 3 [.int .i64 1, .int .i64 3]).alloc (.cells #[.int .i64 0, .int .i64 1] 3)
    rwa [World.size_alloc] at this
  have h2 : Row (((w.alloc (.cells #[.int .i64 2, .slice (some ⟨w.heap.size + 1, 0, none⟩) 2 2, .slice (some ⟨w.heap.size + 1 + 1, 0, none⟩) 2 2] 24)).alloc (.cells #[.int .i64 1, .int .i64 3] 3)).alloc (.cells #[.int .i64 0, .int .i64 1] 3)) (w.heap.size + 1 + 1) 3 (Is [0, 1]) := by
    have := Row.new ((w.alloc (.cells #[.int .i64 2, .slice (some ⟨w.heap.size + 1, 0, none⟩) 2 2, .slice (some ⟨w.heap.size + 1 + 1, 0, none⟩) 2 2] 24)).alloc (.cells #[.int .i64 1, .int .i64 3] 3)) 3 [.int .i64 0, .int .i64 1]
    rwa [World.size_alloc, World.size_alloc] at this
  have hfin : MapPost 2 [1, 3] [0, 1] w (.returned (.agg #[.int .i64 2, .slice (some ⟨w.heap.size + 1, 0, none⟩) 2 2, .slice (some ⟨w.heap.size + 1 + 1, 0, none⟩) 2 2])) (((w.alloc (.cells #[.int .i64 2, .slice (some ⟨w.heap.size + 1, 0, none⟩) 2 2, .slice (some ⟨w.heap.size + 1 + 1, 0, none⟩) 2 2] 24)).alloc (.cells #[.int .i64 1, .int .i64 3] 3)).alloc (.cells #[.int .i64 0, .int .i64 1] 3)) :=
    ⟨_, rfl, ⟨_, _, _, rfl, h1, h2, by omega, by omega, rfl, rfl, by omega⟩, (((Ext.rfl' w).alloc' _).alloc' _).alloc' _⟩
  have HF := hid hfin
  clear hfin h1 h2
  go_enter Tryd.func4, Tryd.ntmps4
  go_wp2
  refine bodyPost_ret (v := .agg #[.int .i64 2, .slice (some ⟨w.heap.size + 1, 0, none⟩) 2 2, .slice (some ⟨w.heap.size + 1 + 1, 0, none⟩) 2 2]) (by simp [results, Tryd.results4, go_sem]) rfl HF.out
theorem MapNew.ext {m : Int} {us ad : List Int} {b : Nat} {v : Value} {w w' : World} (h : MapNew m us ad b v w) (e : Ext w w') : MapNew m us ad b v w' := by
  obtain ⟨g1, g2, k, h1, h2, h3, h4⟩ := h
  exact ⟨g1, g2, k, h1, h2.ext e, h3.ext e, h4⟩
theorem MapNew.mapV {m : Int} {us ad : List Int} {b : Nat} {v : Value} {w : World} (h : MapNew m us ad b v w) : MapV w v m us ad := by
  obtain ⟨g1, g2, k, rfl, h2, h3, -, -, h6, h7, h8⟩ := h
  exact MapV.fresh h2 h3 h6 h7 h8
/-- a new map stored into an older box -/
theorem MapNew.stored {m : Int} {us ad : List Int} {b H : Nat} {v x y z : Value} {w : World} (h : MapNew m us ad b v w) (hH : H < b) : MapNew m us ad b v (((w.setCell ⟨H, 0, none⟩ x).setCell ⟨H, 1, none⟩ y).setCell ⟨H, 2, none⟩ z) := by
  obtain ⟨g1, g2, k, h1, h2, h3, h4, h5, h6⟩ := h
  exact ⟨g1, g2, k, h1, h2.set3 (by omega), h3.set3 (by omega), h4, h5, h6⟩
theorem MapNew.mono {m : Int} {us ad : List Int} {b c : Nat} {v : Value} {w : World} (h : MapNew m us ad b v w) (hc : c ≤ b) : MapNew m us ad c v w := by
  obtain ⟨g1, g2, k, h1, h2, h3, h4, h5, h6⟩ := h
  exact ⟨g1, g2, k, h1, h2, h3, by omega, by omega, h6⟩
/-- the pair that Kin returns -/
def MapErr (m : Int) (us ad : List Int) (w : World) (e : Ending) (w' : World) : Prop := ∃ v, e = .returned (.tuple #[v, .int .i64 0]) ∧ MapNew m us ad w.heap.size v w' ∧ Ext w w'
set_option maxRecDepth 100000 in
set_option maxHeartbeats 800000 in
theorem ralike_eq (A B : Option Addr) (n c d : Nat) (xs : List Int) (w : World) (ra : Rd w A (Is xs)) (rb : Rd w B (Is xs)) (hn : xs.length = n) (hb : n ≤ 140737488351232) :
    Calls Tryd.prog 9 #[.slice A n c, .slice B n d] w (fun e w' => e = .returned (.bool true) ∧ Ext w w') := by
  have HN := hid hn
  have HA := hid ra
  have HB := hid rb
  have hb2 : n ≤ 9223372036854775807 := by omega
  clear hn ra rb
  go_enter Tryd.func9, Tryd.ntmps9
  go_wp2_with fail
  go_loopw [5] (fun iz wr => ∃ j : Nat, j ≤ n ∧ iz = .int .i64 (j : Int) ∧ Ext w wr) (fun iz _ => n - (intOf iz).toNat)
  case atStart => exact ⟨0, by omega, rfl, Ext.rfl' _⟩
  case round =>
    obtain ⟨j, hj, rfl, hex⟩ := hrel
    by_cases hlt : j < n
    · obtain ⟨b1, o1, e1, -, hc1⟩ := (HA.out.ext hex).atI (k := j) (by rw [HN.out]; exact hlt)
      obtain ⟨b2, o2, e2, -, hc2⟩ := (HB.out.ext hex).atI (k := j) (by rw [HN.out]; exact hlt)
      subst e1 e2
      obtain ⟨u, hu⟩ : ∃ u, xs.getD j 0 = u := ⟨_, rfl⟩
      rw [hu] at hc1 hc2
      clear hu
      go_wp2_with fail
      go_quiet (fail)
      have hex2 := hex.drewN nq
      go_wp2
      go_roundw
      case rel => exact ⟨j + 1, by omega, by simp, hex2⟩
      case measure => simp [intOf]; omega
    · have HX := hid hex
      go_wp2
      go_ret
      exact ⟨rfl, HX.out⟩
end Go.Proofs.YtbmmilhinbfahaaDoor
/- the reference's Twin: a copy of a map -/
namespace Go.Proofs.YtbmmilhinbfahaaDoor
open Go.RowKit
/-- the slice reads as the values, out of a block from B on -/
def RdN (B : Nat) (w : World) (A : Option Addr) (vs : List Value) : Prop :=
  vs = [] ∨ ∃ b o, A = some ⟨b, o, none⟩ ∧ B ≤ b ∧ b < w.heap.size ∧ ∀ j u, vs[j]? = some u → w.cell? ⟨b, o + j, none⟩ = some u
theorem RdN.rd {B : Nat} {w : World} {A : Option Addr} {vs : List Value} (h : RdN B w A vs) : Rd w A vs := by
  rcases h with h | ⟨b, o, ha, -, hb, hc⟩
  · exact .inl h
  · exact .inr ⟨b, o, ha, hb, hc⟩
theorem RdN.ext {B : Nat} {w w' : World} {A : Option Addr} {vs : List Value} (h : RdN B w A vs) (e : Ext w w') : RdN B w' A vs := by
  rcases h with h | ⟨b, o, ha, hB, hb, hc⟩
  · exact .inl h
  · exact .inr ⟨b, o, ha, hB, Nat.lt_of_lt_of_le hb e.size, fun j u hu => (e.cell (p := ⟨b, o + j, none⟩) hb).trans (hc j u hu)⟩
theorem RdN.far {B : Nat} {w : World} {A : Option Addr} {vs : List Value} (h : RdN B w A vs) {p : Addr} (hp : p.block < B) (u : Value) : RdN B (w.setCell p u) A vs := by
  rcases h with h | ⟨b, o, ha, hB, hb, hc⟩
  · exact .inl h
  · refine .inr ⟨b, o, ha, hB, by rw [World.size_setCell]; exact hb, fun j v hv => ?_⟩
    rw [World.cell?_of_block (Below.heap_setCell w p u b (by omega))]
    exact hc j v hv
/-- a list appended to an empty one, as one step of a region that draws -/
theorem step_twin {P : Program} {ops : Array Oper} {o : Oper} {a : Act} {w : World} {K : Act → World → Prop} {Q : Exit → Act → World → Prop} {E : Prop}
    (hg : o.guard = none) (s x : Operand) (t : TypeId) (hop : o.op = Op.call { callee := Callee.builtin Builtin.append, args := #[s, x], argTypes := #[t, t] })
    (e : TypeId) (i : TypeInfo) (h1 : P.underlying t = some (.slice e)) (h2 : P.info? e = some i) (h3 : i.zero = some (.int .i64 0)) (h4 : i.size = 1) (h5 : i.bytes = 8)
    (b : Addr) (hs : a.eval s = .slice (some b) 0 0) (A : Option Addr) (k c : Nat) (hx : a.eval x = .slice A k c) (us : List Int) (hl : us.length = k) (hr : Rd w A (Is us)) (hb : k * 8 ≤ 140737488355328)
    (B0 : Nat) (hB0 : B0 ≤ w.heap.size)
    (hK : ∀ A' c' w', k ≤ c' → RdN B0 w' A' (Is us) → Ext w w' → K (a.put o.dst (.slice A' k c')) w') :
    if Region.wanted o (yielded ops a.tmps) = true then Oper.wp P o a w K Q else E := by
  rcases Nat.eq_zero_or_pos k with h0 | h0
  · subst h0
    have hw : Region.wanted o (yielded ops a.tmps) = true := by simp [Region.wanted, hg]
    rw [if_pos hw]
    have hsrc : Src P i.size t (.slice A 0 c) 0 [] w := by
      cases A with
      | none => exact Src.ofNil w h1 c
      | some ad => exact Src.ofSlice w h1 ad 0 c [] (by simp) (by simp) (by simp)
    have hrun := run_append_nothing (P := P) w t t o.type e i h1 h2 (some b) 0 0 (Nat.le_refl _) (.slice A 0 c) hsrc
    unfold Oper.wp
    simp [execOp, hop, resolve, invoke, builtin, hs, hx, hrun, Result.andThen]
    exact hK (some b) 0 w (Nat.le_refl _) (by rw [List.eq_nil_of_length_eq_zero hl]; exact .inl rfl) (Ext.rfl' w)
  · rcases hr with hn | ⟨g, off, rfl, hlt, hc⟩
    · rw [List.map_eq_nil_iff] at hn; subst hn; simp at hl; omega
    · refine step_append_grows hg s x t hop e i (.int .i64 0) 1 8 h1 h2 h3 h4 h5 rfl (by decide) (some b) 0 0 [] hs (fun h => by cases h) (by simp) (fun b' _ j u hu => by simp at hu) ⟨g, off, none⟩ k c (Is us) hx (by simp [hl]) (fun j u hu => ?_) (fun u hu => ?_) (by omega) (by unfold maxLen; omega) (by omega) ?_
      · have : (⟨g, off, none⟩ : Addr).add j = ⟨g, off + j, none⟩ := by unfold Addr.add; split <;> simp_all
        rw [this]; exact hc j u hu
      · obtain ⟨y, _, rfl⟩ := List.mem_map.1 hu; rfl
      · intro v' w' hown hgrow
        rw [Nat.zero_add, List.nil_append] at hown
        obtain ⟨g', cap, sp, rfl, hge, hcap, -⟩ := own_form hown (by omega)
        refine hK _ _ w' hcap ?_ ⟨hgrow.os, hgrow.tape, hgrow.output, hgrow.size, fun j hj => hgrow.block j hj (by simp)⟩
        rcases Rd.of_own hown with h | ⟨b1, o1, e1, hb1, hc1⟩
        · exact .inl h
        · refine .inr ⟨b1, o1, e1, ?_, hb1, hc1⟩
          cases e1
          omega
theorem infoI2 : (Tryd.prog.info? 3).map (fun i => (i.zero, i.size, i.bytes)) = some (some (.int .i64 0), 1, 8) := by kernel_rfl
end Go.Proofs.YtbmmilhinbfahaaDoor
/- step.commonDivisor, step.Regular; the reference's Prime, Regular -/
namespace Go.Proofs.YtbmmilhinbfahaaDoor
open Go.RowKit
/-- a regular map -/
def regB (m : Int) (us : List Int) : Bool := us.all fun u => decide (Nat.gcd u.natAbs m.natAbs ≤ 1)
theorem tmod_nat (x y : Nat) : (x : Int).tmod (y : Int) = ((x % y : Nat) : Int) := by rw [Int.tmod_eq_emod_of_nonneg (by omega)]; rfl
set_option maxRecDepth 100000 in
set_option maxHeartbeats 1600000 in
theorem commonDivisor_any (a b : Nat) (w : World) (ha : a ≤ 1000000) (hb : b ≤ 1000000) :
    Calls Tryd.prog 38 #[.int .i64 (a : Int), .int .i64 (b : Int)] w (fun e w' => e = .returned (.int .i64 ((Nat.gcd a b : Nat) : Int)) ∧ Ext w w') := by
  go_enter Tryd.func38, Tryd.ntmps38
  go_wp2_with fail
  go_loopg [0, 1] b (fun g av bv wr => ∃ x y : Nat, y = g ∧ x ≤ 1000000 ∧ y ≤ 1000000 ∧ av = .int .i64 (x : Int) ∧ bv = .int .i64 (y : Int) ∧ Hid (Nat.gcd x y = Nat.gcd a b) ∧ Ext w wr)
  case atStart => exact ⟨a, b, rfl, ha, hb, rfl, rfl, hid rfl, Ext.rfl' _⟩
  case round =>
    obtain ⟨x, y, rfl, hx, hy, rfl, rfl, HG, hex⟩ := hrel
    have HEX := hid hex
    clear hex
    by_cases hy0 : y = 0
    · subst hy0
      have HGX : Hid (x = Nat.gcd a b) := hid (by rw [← HG.out, Nat.gcd_zero_right])
      go_wp2
      go_ret
      exact ⟨by rw [← HGX.out]; rfl, HEX.out⟩
    · have hyp : (0 : Int) < (y : Int) := by omega
      have hyne : (y : Int) ≠ 0 := by omega
      have hyb : ((y : Int) == 0) = false := by rw [beq_eq_false_iff_ne]; exact hyne
      have HMD := hid (tmod_nat x y)
      have HLT : Hid (x % y < y) := hid (Nat.mod_lt _ (by omega))
      have HNX : Hid (Nat.gcd y (x % y) = Nat.gcd a b) := hid (by rw [← HG.out, Nat.gcd_comm y, Nat.gcd_comm x y]; exact (Nat.gcd_rec y x).symm)
      go_wp2_with fail
      first | (go_quiet (fail)) | (go_region)
      all_goals
        have HE2 := hid (HEX.out.drewN nq)
        go_wp2
        go_roundg (x % y)
        case measure => exact HLT.out
        case rel => exact ⟨y, x % y, rfl, hy, by have := HLT.out; omega, rfl, by rw [Int.natCast_emod], HNX, HE2.out⟩
theorem commonDivisor_int (a b : Int) (w : World) (ha : 0 ≤ a) (ha2 : a ≤ 1000000) (hb : 0 ≤ b) (hb2 : b ≤ 1000000) :
    Calls Tryd.prog 38 #[.int .i64 a, .int .i64 b] w (fun e w' => e = .returned (.int .i64 ((Nat.gcd a.natAbs b.natAbs : Nat) : Int)) ∧ Ext w w') := by
  obtain ⟨x, rfl⟩ : ∃ x : Nat, a = (x : Int) := ⟨a.toNat, by omega⟩
  obtain ⟨y, rfl⟩ : ∃ y : Nat, b = (y : Int) := ⟨b.toNat, by omega⟩
  exact commonDivisor_any x y w (by omega) (by omega)
theorem regB_no {m : Int} {us : List Int} {j : Nat} (hj : j < us.length) (h : ¬ Nat.gcd (us.getD j 0).natAbs m.natAbs ≤ 1) : regB m us = false := by
  unfold regB
  rw [List.all_eq_false]
  refine ⟨us.getD j 0, ?_, by simpa using h⟩
  rw [List.getD_eq_getElem?_getD, List.getElem?_eq_getElem hj]
  exact List.getElem_mem hj
theorem regB_yes {m : Int} {us : List Int} (h : ∀ j, j < us.length → Nat.gcd (us.getD j 0).natAbs m.natAbs ≤ 1) : regB m us = true := by
  unfold regB
  rw [List.all_eq_true]
  intro u hu
  obtain ⟨j, hj, rfl⟩ := List.getElem_of_mem hu
  have := h j hj
  rw [List.getD_eq_getElem?_getD, List.getElem?_eq_getElem hj] at this
  simpa using this
set_option maxRecDepth 100000 in
set_option maxHeartbeats 3200000 in
theorem regular_ok (v : Value) (m : Int) (us ad : List Int) (w : World) (hv : MapV w v m us ad) (hM : Hid (mapP m us ad)) :
    Calls Tryd.prog 27 #[v] w (fun e w' => e = .returned (.tuple #[.bool (regB m us), .int .i64 0]) ∧ Ext w w') := by
  have HV := hid hv
  obtain ⟨A, n, cc, B, n2, d, rfl, h1, h2, h3, h4, h5, h6, h7, h9⟩ := hv
  obtain ⟨dm, hdm⟩ : ∃ dm : Nat, m = (dm : Int) := ⟨m.toNat, by have := hM.out.1; omega⟩
  have HDM := hid hdm
  have HMB := hid (show 2 ≤ m ∧ m ≤ 12 from ⟨hM.out.1, hM.out.2.1⟩)
  have HNM : Hid ((n : Int) = m) := hid (by have := hM.out.2.2.1; omega)
  obtain ⟨r, hr⟩ : ∃ r, regB m us = r := ⟨_, rfl⟩
  rw [hr]
  have HRB := hid hr
  have hx : Ext w (w.alloc (.cells #[.int .i64 m, .slice A n cc, .slice B n2 d] 24)) := (Ext.rfl' w).alloc' _
  have hrw : Row (w.alloc (.cells #[.int .i64 m, .slice A n cc, .slice B n2 d] 24)) w.heap.size 24 [.int .i64 m, .slice A n cc, .slice B n2 d] := Row.new w _ _
  obtain ⟨W1, hW1⟩ : ∃ W1, (w.alloc (.cells #[.int .i64 m, .slice A n cc, .slice B n2 d] 24)) = W1 := ⟨_, rfl⟩
  rw [hW1] at hx hrw
  have HX := hid hx
  have HR := hid hrw
  have HW1 := hid hW1
  have HA := hid (h5.ext hx)
  have HL := hid h1
  obtain ⟨f0, f1, f2, -, -, -⟩ := row_facts3 hrw
  clear hW1 hx hrw h5 h6 h1 h3 hdm hr
  go_enter Tryd.func27, Tryd.ntmps27
  go_upto_region 1 with fail
  rw [HW1.out]
  go_wp2_with fail
  refine (stepvalid_any _ m us ad W1 (HV.out.ext HX.out) (hid ((mapB_iff m us ad).2 hM.out))).mono ?_
  rintro e w2 ⟨rfl, hx2⟩
  have HX2 := hid hx2
  clear f0 f1 f2 hx2
  obtain ⟨f0, f1, f2, -, -, -⟩ := row_facts3 (HR.out.ext HX2.out)
  go_wp2_with fail
  go_loopw [12] (fun iz wr => ∃ j : Nat, j ≤ n ∧ iz = .int .i64 (j : Int) ∧ Hid (∀ i, i < j → Nat.gcd (us.getD i 0).natAbs m.natAbs ≤ 1) ∧ Ext w2 wr) (fun iz _ => n - (intOf iz).toNat)
  case atStart => exact ⟨0, by omega, rfl, hid (fun i hi => by omega), Ext.rfl' _⟩
  case round =>
    obtain ⟨j, hj, rfl, HALL, hex⟩ := hrel
    have HEX := hid hex
    have HEW := hid (HX.out.step (HX2.out.step hex))
    clear f0 f1 f2
    obtain ⟨f0, f1, f2, -, -, -⟩ := row_facts3 (HR.out.ext (HX2.out.step HEX.out))
    clear hex
    by_cases hlt : j < n
    · obtain ⟨b1, o1, e1, -, hc1⟩ := (HA.out.ext (HX2.out.step HEX.out)).atI (k := j) (by rw [HL.out]; exact hlt)
      subst e1
      have hrule := hM.out.2.2.2.2 j (by rw [HL.out]; exact hlt)
      obtain ⟨u, hu⟩ : ∃ u, us.getD j 0 = u := ⟨_, rfl⟩
      rw [hu] at hc1 hrule
      have HU := hid hu
      have HRU := hid (show 1 ≤ u ∧ u ≤ 999 from ⟨hrule.1, hrule.2.1⟩)
      obtain ⟨gg, hgg⟩ : ∃ gg : Nat, Nat.gcd u.natAbs m.natAbs = gg := ⟨_, rfl⟩
      have HGG := hid hgg
      clear hu hrule hgg
      have hjn : (j : Int) < (n : Int) := by omega
      go_wp2_with fail
      refine (commonDivisor_int u m wr (by have := HRU.out; omega) (by have := HRU.out; omega) (by have := HMB.out; omega) (by have := HMB.out; omega)).mono ?_
      rintro e w5 ⟨rfl, hx5⟩
      rw [HGG.out]
      have HX5 := hid (HEX.out.step hx5)
      have HW5 := hid (HEW.out.step hx5)
      clear f0 f1 f2 hc1 hx5
      by_cases hg : gg ≤ 1
      · have hgi : ¬ (1 : Int) < (gg : Int) := by omega
        have HNX : Hid (∀ i, i < j + 1 → Nat.gcd (us.getD i 0).natAbs m.natAbs ≤ 1) := hid (fun i hi => by
          rcases Nat.lt_or_ge i j with h | h
          · exact HALL.out i h
          · obtain rfl : i = j := by omega
            rw [HU.out, HGG.out]; exact hg)
        go_wp2
        go_roundw
        case rel => exact ⟨j + 1, by omega, by simp, HNX, HX5.out⟩
        case measure => first | (simp [intOf]; done) | (simp [intOf]; omega)
      · have hgi : (1 : Int) < (gg : Int) := by omega
        have HF : Hid (r = false) := hid (by rw [← HRB.out]; exact regB_no (j := j) (by rw [HL.out]; exact hlt) (by rw [HU.out, HGG.out]; exact hg))
        go_wp2
        go_ret2
        exact ⟨by rw [HF.out]; rfl, HW5.out⟩
    · obtain rfl : j = n := by omega
      have HF : Hid (r = true) := hid (by rw [← HRB.out]; exact regB_yes (fun i hi => HALL.out i (by rw [HL.out] at hi; exact hi)))
      go_wp2
      go_ret2
      exact ⟨by rw [HF.out]; rfl, HEW.out⟩
set_option maxRecDepth 100000 in
set_option maxHeartbeats 1600000 in
theorem regular_bad (v : Value) (m : Int) (us ad : List Int) (w : World) (hv : MapV w v m us ad) (hM : Hid (mapB m us ad = false)) :
    Calls Tryd.prog 27 #[v] w (fun e w' => e = .returned (.tuple #[.bool false, .int .i64 1]) ∧ Ext w w') := by
  have HV := hid hv
  obtain ⟨A, n, cc, B, n2, d, rfl, -⟩ := hv
  have hx : Ext w (w.alloc (.cells #[.int .i64 m, .slice A n cc, .slice B n2 d] 24)) := (Ext.rfl' w).alloc' _
  obtain ⟨f0, f1, f2, -⟩ := three_facts (Ext.rfl' (w.alloc (.cells #[.int .i64 m, .slice A n cc, .slice B n2 d] 24))) rfl
  obtain ⟨W1, hW1⟩ : ∃ W1, (w.alloc (.cells #[.int .i64 m, .slice A n cc, .slice B n2 d] 24)) = W1 := ⟨_, rfl⟩
  rw [hW1] at hx f0 f1 f2
  have HX := hid hx
  have HW1 := hid hW1
  clear hW1 hx
  go_enter Tryd.func27, Tryd.ntmps27
  go_upto_region 1 with fail
  rw [HW1.out]
  go_wp2_with fail
  refine (stepvalid_any _ m us ad W1 (HV.out.ext HX.out) hM).mono ?_
  rintro e w2 ⟨rfl, hx2⟩
  have HY := hid (HX.out.step hx2)
  clear f0 f1 f2 hx2
  go_wp2
  go_ret2
  exact ⟨rfl, HY.out⟩
end Go.Proofs.YtbmmilhinbfahaaDoor
/- num.Sub, num.Gcd by contract -/
namespace Go.Proofs.YtbmmilhinbfahaaDoor
open Go.RowKit
theorem gcd_le {a b c : Nat} (ha : a ≤ c) (hb : b ≤ c) : Nat.gcd a b ≤ c := by
  rcases Nat.eq_zero_or_pos a with h | h
  · subst h; rw [Nat.gcd_zero_left]; exact hb
  · exact Nat.le_trans (Nat.gcd_le_left b h) ha
end Go.Proofs.YtbmmilhinbfahaaDoor
/- the reference's guess -/
namespace Go.Proofs.YtbmmilhinbfahaaDoor
open Go.RowKit
/-- a guess: at least 1, and not too many -/
def RGuess (a b : Nat) (w : World) (e : Ending) (w' : World) : Prop := ∃ (v : Value) (g : Nat), e = .returned v ∧ RefV w' v (g : Int) ∧ 1 ≤ g ∧ g * b ≤ a ∧ Ext w w'
/-- digits of a quotient behind zeros -/
def GInv (s q : Nat) (j p : Nat) (zs : List Nat) : Prop := zs.length = s + j ∧ K.lv zs + 1000000000 ^ (s + j) * p = 1000000000 ^ s * q ∧ (∀ z ∈ zs, z < 1000000000) ∧ j ≤ 3 ∧ 1000000000 ^ j * p ≤ q
theorem GInv.start (s q : Nat) : GInv s q 0 q (List.replicate s 0) := ⟨by simp, by rw [K.lv_zeros]; simp, by simp, by omega, by simp⟩
theorem GInv.step {s q j p : Nat} {zs : List Nat} (h : GInv s q j p zs) (hp : 0 < p) (hq : q < 1000000000000000000000000000) : GInv s q (j + 1) (p / 1000000000) (zs ++ [p % 1000000000]) ∧ j < 3 := by
  obtain ⟨h1, h2, h3, h4, h5⟩ := h
  have hm := Nat.div_add_mod p 1000000000
  have hj : j < 3 := by
    rcases Nat.lt_or_ge j 3 with h | h
    · exact h
    · obtain rfl : j = 3 := by omega
      have : 1000000000 ^ 3 * 1 ≤ 1000000000 ^ 3 * p := Nat.mul_le_mul_left _ hp
      have e : (1000000000 : Nat) ^ 3 = 1000000000000000000000000000 := rfl
      rw [e] at this h5
      omega
  refine ⟨⟨by simp [h1]; omega, ?_, ?_, by omega, ?_⟩, hj⟩
  · rw [lv_snoc, h1, ← h2, show s + (j + 1) = s + j + 1 by omega, Nat.pow_succ, Nat.mul_assoc, Nat.add_assoc, ← Nat.mul_add]
    congr 2
    omega
  · intro z hz
    rcases List.mem_append.1 hz with h | h
    · exact h3 z h
    · obtain rfl : z = p % 1000000000 := by simpa using h
      omega
  · rw [Nat.pow_succ, Nat.mul_assoc]
    exact Nat.le_trans (Nat.mul_le_mul_left _ (by omega)) h5
end Go.Proofs.YtbmmilhinbfahaaDoor
/- the reference's guess, of any two numbers -/
namespace Go.Proofs.YtbmmilhinbfahaaDoor
open Go.RowKit
theorem top_pos {xs : List Nat} {j x : Nat} (hL : K.Lim xs) (hl : xs.length = j + 1) (hx : xs[j]? = some x) : 0 < x ∧ K.lv xs = K.lv (xs.take j) + 1000000000 ^ j * x ∧ K.lv (xs.take j) < 1000000000 ^ j := by
  have e := lv_take_at hx
  rw [List.take_of_length_le (by omega)] at e
  refine ⟨?_, e, ?_⟩
  · rcases Nat.eq_zero_or_pos x with h | h
    · exfalso
      apply hL.2
      rw [List.getLast?_eq_getElem?, hl, Nat.add_sub_cancel, hx, h]
    · exact h
  · have := K.lv_lt (xs.take j) (fun z hz => hL.1 z (List.mem_of_mem_take hz))
    rwa [List.length_take, Nat.min_eq_left (by omega)] at this
theorem guess_le {s q y jb T P R : Nat} (hq : q * (y + 1) ≤ T) (hP : P ≤ 1000000000 ^ jb * (y + 1)) (hR : 1000000000 ^ (jb + s) * T ≤ R) : 1000000000 ^ s * q * P ≤ R := by
  have h1 : 1000000000 ^ s * q * P ≤ 1000000000 ^ s * q * (1000000000 ^ jb * (y + 1)) := Nat.mul_le_mul_left _ hP
  have h2 : 1000000000 ^ s * q * (1000000000 ^ jb * (y + 1)) = 1000000000 ^ (jb + s) * (q * (y + 1)) := by
    rw [Nat.pow_add]
    simp only [Nat.mul_assoc, Nat.mul_comm, Nat.mul_left_comm]
  have h3 : 1000000000 ^ (jb + s) * (q * (y + 1)) ≤ 1000000000 ^ (jb + s) * T := Nat.mul_le_mul_left _ hq
  omega
end Go.Proofs.YtbmmilhinbfahaaDoor
/- the reference's Div -/
namespace Go.Proofs.YtbmmilhinbfahaaDoor
open Go.RowKit
def RPair (q r : Int) (w : World) (e : Ending) (w' : World) : Prop := ∃ v1 v2, e = .returned (.tuple #[v1, v2]) ∧ RefV w' v1 q ∧ RefV w' v2 r ∧ Ext w w'
/-- a number survives a store into another's box -/
theorem RefV.box {w : World} {v : Value} {q : Int} {A1 : Option Addr} {H k1 c1 : Nat} {t : TypeId} {x : Bool} {a b : Value} (h : RefV w v q) (r : Row w H t [.bool x, .slice A1 k1 c1]) :
    RefV ((w.setCell ⟨H, 0, none⟩ a).setCell ⟨H, 1, none⟩ b) v q := by
  obtain ⟨A', k', c', xs, b', rfl, h1, h2, h3, h4, h5, h6⟩ := h
  exact ⟨_, _, _, xs, _, rfl, h1, h2, h3, RefV.two h4 r, h5, h6⟩
theorem RPair.stored {w w3 : World} {q r : Int} {v1 v2 : Value} {b1 b2 : Bool} {A1 A2 : Option Addr} {k1 c1 k2 c2 H : Nat} {t : TypeId} (r1 : Row w3 H t [.bool false, .slice none 0 0]) (r2 : Row w3 (H + 1) t [.bool false, .slice none 0 0])
    (hw : Ext w w3) (hH : w.heap.size ≤ H) (h1 : RefV w3 v1 q) (h2 : RefV w3 v2 r) (e1 : v1 = .agg #[.bool b1, .slice A1 k1 c1]) (e2 : v2 = .agg #[.bool b2, .slice A2 k2 c2]) :
    RPair q r w (.returned (.tuple #[.agg #[.bool b1, .slice A1 k1 c1], .agg #[.bool b2, .slice A2 k2 c2]]))
      ((((w3.setCell ⟨H, 0, none⟩ (.bool b1)).setCell ⟨H, 1, none⟩ (.slice A1 k1 c1)).setCell ⟨H + 1, 0, none⟩ (.bool b2)).setCell ⟨H + 1, 1, none⟩ (.slice A2 k2 c2)) := by
  subst e1 e2
  have r2' : Row ((w3.setCell ⟨H, 0, none⟩ (.bool b1)).setCell ⟨H, 1, none⟩ (.slice A1 k1 c1)) (H + 1) t [.bool false, .slice none 0 0] :=
    (r2.far (by show H + 1 ≠ H; omega) _).far (by show H + 1 ≠ H; omega) _
  exact ⟨_, _, rfl, (h1.box r1).box r2', (h2.box r1).box r2',
    (((hw.set' (by show _ ≤ H; omega) _).set' (by show _ ≤ H; omega) _).set' (by show _ ≤ H + 1; omega) _).set' (by show _ ≤ H + 1; omega) _⟩
theorem far2 {w : World} {H i g j : Nat} {u : Value} (h : H ≠ g) : (w.setCell ⟨H, i, none⟩ u).cell? ⟨g, j, none⟩ = w.cell? ⟨g, j, none⟩ := World.cell?_setCell_far _ _ _ _ h
theorem RPair.drew {w w' : World} {q r : Int} {e : Ending} (h : RPair q r w e w') : RPair q r w e w'.drew := by
  obtain ⟨v1, v2, h1, h2, h3, h4⟩ := h
  exact ⟨v1, v2, h1, h2.ext (Ext.rfl' _).drew', h3.ext (Ext.rfl' _).drew', h4.drew'⟩
end Go.Proofs.YtbmmilhinbfahaaDoor
/- the reckoner of package word -/
namespace Go.Proofs.YtbmmilhinbfahaaDoor
open Go.RowKit
theorem Row.same {w : World} {g : Nat} {t : TypeId} {v : Value} (h : Row w g t [v]) : Ext w (w.setCell ⟨g, 0, none⟩ v) := by
  refine ⟨rfl, rfl, rfl, by rw [World.size_setCell]; exact Nat.le_refl _, fun j hj => ?_⟩
  by_cases e : j = g
  · subst e
    exact (h.set 0 v : Row _ _ _ [v]).trans h.symm
  · exact Below.heap_setCell w ⟨g, 0, none⟩ v j (by show j ≠ g; exact e)
def NoteW (g : Nat) (f c : Int) (w : World) : World := if f = 0 then w.setCell ⟨g, 0, none⟩ (.int .i64 c) else w
def RecOk (r : Int) (w : World) (e : Ending) (w' : World) : Prop := e = .returned (.string (Str (K.txt r))) ∧ Ext w w'
theorem NoteW.ext {g : Nat} {f c : Int} {w w0 : World} (e : Ext w0 w) (hg : w0.heap.size ≤ g) : Ext w0 (NoteW g f c w) := by
  unfold NoteW
  by_cases h : f = 0
  · rw [if_pos h]; exact e.set' (by show _ ≤ g; exact hg) _
  · rw [if_neg h]; exact e
end Go.Proofs.YtbmmilhinbfahaaDoor
/- words and their linear maps: plain mathematics; word.check -/
namespace Go.Proofs.YtbmmilhinbfahaaDoor
open Go.RowKit
/-- a word of a map -/
def wordB (m : Int) (ws : List Int) : Bool := decide (ws.length ≤ 200) && ws.all fun r => decide (0 ≤ r ∧ r < m)
theorem wordB_iff {m : Int} {ws : List Int} : wordB m ws = true ↔ ws.length ≤ 200 ∧ ∀ r ∈ ws, 0 ≤ r ∧ r < m := by
  unfold wordB; simp
/-- the linear map of a word and one rest more -/
def thenL (m : Int) (us ad : List Int) (l : Int × Int × Int) (r : Int) : Int × Int × Int := (us.getD r.toNat 0 * l.1, us.getD r.toNat 0 * l.2.1 + ad.getD r.toNat 0 * l.2.2, l.2.2 * m)
def lineI (m : Int) (us ad : List Int) (ws : List Int) : Int × Int × Int := ws.foldl (thenL m us ad) (1, 0, 1)
theorem lineI_snoc (m : Int) (us ad : List Int) (ws : List Int) (r : Int) : lineI m us ad (ws ++ [r]) = thenL m us ad (lineI m us ad ws) r := by
  unfold lineI; rw [List.foldl_append]; rfl
theorem rule_of {m : Int} {us ad : List Int} (h : mapP m us ad) {r : Int} (h0 : 0 ≤ r) (h1 : r < m) : 1 ≤ us.getD r.toNat 0 ∧ us.getD r.toNat 0 ≤ 999 ∧ -999999 ≤ ad.getD r.toNat 0 ∧ ad.getD r.toNat 0 ≤ 999999 ∧ r.toNat < us.length ∧ r.toNat < ad.length := by
  have l1 : r.toNat < us.length := by have := h.2.2.1; omega
  have l2 : r.toNat < ad.length := by have := h.2.2.2.1; omega
  have hh := h.2.2.2.2 _ l1
  exact ⟨hh.1, hh.2.1, hh.2.2.1, hh.2.2.2.1, l1, l2⟩
/-- the numbers of a word's linear map are small -/
def LineB (k : Nat) (l : Int × Int × Int) : Prop := l.1.natAbs ≤ 1000 ^ k ∧ l.2.2.natAbs ≤ 1000 ^ k ∧ l.2.1.natAbs ≤ k * 1000000 * 1000 ^ k ∧ 1 ≤ l.2.2
theorem LineB.next {m : Int} {us ad : List Int} (hM : mapP m us ad) {k : Nat} {l : Int × Int × Int} (h : LineB k l) {r : Int} (h0 : 0 ≤ r) (h1 : r < m) : LineB (k + 1) (thenL m us ad l r) := by
  obtain ⟨u1, u2, a1, a2, -, -⟩ := rule_of hM h0 h1
  obtain ⟨b1, b2, b3, b4⟩ := h
  have hm1 := hM.1
  have hm2 := hM.2.1
  unfold thenL
  generalize us.getD r.toNat 0 = u at *
  generalize ad.getD r.toNat 0 = a at *
  obtain ⟨x, y, z⟩ := l
  simp only at b1 b2 b3 b4 ⊢
  have hp : 1000 ^ (k + 1) = 1000 * 1000 ^ k := by rw [Nat.pow_succ, Nat.mul_comm]
  generalize hP : 1000 ^ k = P at *
  have e1 : (u * x).natAbs ≤ 999 * P := by rw [Int.natAbs_mul]; exact Nat.mul_le_mul (by omega) b1
  have e2 : (z * m).natAbs ≤ P * 12 := by rw [Int.natAbs_mul]; exact Nat.mul_le_mul b2 (by omega)
  have e3 : (u * y).natAbs ≤ 999 * (k * 1000000 * P) := by rw [Int.natAbs_mul]; exact Nat.mul_le_mul (by omega) b3
  have e4 : (a * z).natAbs ≤ 999999 * P := by rw [Int.natAbs_mul]; exact Nat.mul_le_mul (by omega) b2
  have e5 : (u * y + a * z).natAbs ≤ (u * y).natAbs + (a * z).natAbs := Int.natAbs_add_le _ _
  refine ⟨by show (u * x).natAbs ≤ _; rw [hp]; omega, by show (z * m).natAbs ≤ _; rw [hp]; omega, ?_, ?_⟩
  · show (u * y + a * z).natAbs ≤ _
    rw [hp]
    have e6 : (k + 1) * 1000000 * (1000 * P) = 1000 * (k * 1000000 * P) + 1000000 * (1000 * P) := by
      rw [Nat.add_mul, Nat.add_mul, Nat.one_mul]
      congr 1
      rw [Nat.mul_left_comm]
    rw [e6]
    obtain ⟨R, hR⟩ : ∃ R, k * 1000000 * P = R := ⟨_, rfl⟩
    rw [hR] at e3 ⊢
    clear e6 hR b3 hP hp
    omega
  · show 1 ≤ z * m
    have : 1 * 1 ≤ z * m := Int.mul_le_mul b4 (by omega) (by omega) (by omega)
    omega
theorem LineB.zero : LineB 0 (1, 0, 1) := ⟨by simp, by simp, by simp, by simp⟩
theorem lineI_B {m : Int} {us ad : List Int} (hM : mapP m us ad) (ws : List Int) (hw : ∀ r ∈ ws, 0 ≤ r ∧ r < m) : LineB ws.length (lineI m us ad ws) := by
  obtain ⟨k, hk⟩ : ∃ k, ws.length = k := ⟨_, rfl⟩
  rw [hk]
  induction k generalizing ws with
  | zero => rw [List.eq_nil_of_length_eq_zero hk]; exact LineB.zero
  | succ k ih =>
    rcases List.eq_nil_or_concat ws with rfl | ⟨p, r, rfl⟩
    · simp at hk
    · rw [List.concat_eq_append] at *
      rw [lineI_snoc]
      have hr := hw r (by simp)
      exact (ih p (fun x hx => hw x (by simp [hx])) (by simpa using hk)).next hM hr.1 hr.2
theorem thousand_pw (k : Nat) : 1000 ^ k = K.pw (3 * k) := by
  unfold K.pw; rw [Nat.pow_mul]
theorem fits_pw {x : Int} {a b : Nat} (h : x.natAbs ≤ a * K.pw b) (ha : a < K.pw 12) (hb : b ≤ 1900) : K.fits x := by
  have h1 : a * K.pw b < K.pw 12 * K.pw b := Nat.mul_lt_mul_of_pos_right ha (K.pw_pos b)
  have h2 : K.pw 12 * K.pw b = K.pw (12 + b) := (Nat.pow_add 10 12 b).symm
  have h3 : K.pw (12 + b) ≤ K.pw 2000 := K.pw_mono (by omega)
  show x.natAbs < K.LIM
  unfold K.LIM
  omega
theorem pw12 : K.pw 12 = 1000000000000 := by decide
/-- all numbers that are met on the way of a line fit -/
theorem LineB.fits {m : Int} {us ad : List Int} (hM : mapP m us ad) {k : Nat} {l : Int × Int × Int} (h : LineB k l) (hk : k ≤ 200) {r : Int} (h0 : 0 ≤ r) (h1 : r < m) :
    K.fits l.1 ∧ K.fits l.2.1 ∧ K.fits l.2.2 ∧ K.fits (l.1 * us.getD r.toNat 0) ∧ K.fits (l.2.1 * us.getD r.toNat 0) ∧ K.fits (ad.getD r.toNat 0 * l.2.2) ∧ K.fits (l.2.1 * us.getD r.toNat 0 + ad.getD r.toNat 0 * l.2.2) ∧ K.fits (l.2.2 * m) := by
  obtain ⟨u1, u2, a1, a2, -, -⟩ := rule_of hM h0 h1
  have hn := LineB.next hM h h0 h1
  obtain ⟨b1, b2, b3, b4⟩ := h
  obtain ⟨n1, n2, n3, n4⟩ := hn
  have hm1 := hM.1
  have hm2 := hM.2.1
  unfold thenL at n1 n2 n3 n4
  simp only at n1 n2 n3 n4
  rw [show us.getD r.toNat 0 * l.2.1 = l.2.1 * us.getD r.toNat 0 from Int.mul_comm _ _] at n3
  generalize us.getD r.toNat 0 = u at *
  generalize ad.getD r.toNat 0 = a at *
  obtain ⟨x, y, z⟩ := l
  simp only at *
  rw [thousand_pw] at *
  have e1 : (x * u).natAbs ≤ 999 * K.pw (3 * k) := by rw [Int.mul_comm, Int.natAbs_mul]; exact Nat.mul_le_mul (by omega) b1
  have e3 : (y * u).natAbs ≤ 999 * (k * 1000000 * K.pw (3 * k)) := by rw [Int.mul_comm, Int.natAbs_mul]; exact Nat.mul_le_mul (by omega) b3
  have e4 : (a * z).natAbs ≤ 999999 * K.pw (3 * k) := by rw [Int.natAbs_mul]; exact Nat.mul_le_mul (by omega) b2
  refine ⟨fits_pw (a := 1) (b := 3 * k) (by omega) (by rw [pw12]; omega) (by omega), fits_pw (a := k * 1000000) (b := 3 * k) b3 (by rw [pw12]; omega) (by omega), fits_pw (a := 1) (b := 3 * k) (by omega) (by rw [pw12]; omega) (by omega), fits_pw (a := 999) (b := 3 * k) e1 (by rw [pw12]; omega) (by omega), fits_pw (a := 999 * (k * 1000000)) (b := 3 * k) (by rw [Nat.mul_assoc]; exact e3) (by rw [pw12]; omega) (by omega), fits_pw (a := 999999) (b := 3 * k) e4 (by rw [pw12]; omega) (by omega), fits_pw (a := (k + 1) * 1000000) (b := 3 * (k + 1)) n3 (by rw [pw12]; omega) (by omega), fits_pw (a := 1) (b := 3 * (k + 1)) (by omega) (by rw [pw12]; omega) (by omega)⟩
end Go.Proofs.YtbmmilhinbfahaaDoor
/- word.lineOfNoStep, lineOfStep, the function literal of Line -/
namespace Go.Proofs.YtbmmilhinbfahaaDoor
open Go.RowKit
/-- a linear map as it is told -/
def lineV (l : Int × Int × Int) : Value := .agg #[.string (Str (K.txt l.1)), .string (Str (K.txt l.2.1)), .string (Str (K.txt l.2.2))]
theorem txt_one : K.txt 1 = [49] := K.txt_of_lit [49] 1 (by decide +kernel) (by decide +kernel)
theorem txt_zero2 : K.txt 0 = [48] := K.txt_of_lit [48] 0 (by decide +kernel) (by decide +kernel)
end Go.Proofs.YtbmmilhinbfahaaDoor
/- the function literal of word.Line -/
namespace Go.Proofs.YtbmmilhinbfahaaDoor
open Go.RowKit
theorem txt_not_one {z : Int} (h : z ≠ 1) : Str (K.txt z) ≠ ⟨#[49]⟩ := by
  intro e
  have h2 : K.txt z = [49] := by
    have := congrArg (fun b : ByteArray => b.data.toList) e
    simpa [Str] using this
  rw [← txt_one] at h2
  exact h (K.txt_inj h2)
theorem Calls.at_args {P : Program} {f : FuncId} {a b : Array Value} {w : World} {Q : Ending → World → Prop} (e : a = b) (h : Calls P f b w Q) : Calls P f a w Q := e ▸ h
end Go.Proofs.YtbmmilhinbfahaaDoor
/- word.Line -/
namespace Go.Proofs.YtbmmilhinbfahaaDoor
open Go.RowKit
theorem lineI_div (m : Int) (us ad : List Int) (ws : List Int) : (lineI m us ad ws).2.2 = m ^ ws.length := by
  obtain ⟨k, hk⟩ : ∃ k, ws.length = k := ⟨_, rfl⟩
  rw [hk]
  induction k generalizing ws with
  | zero => rw [List.eq_nil_of_length_eq_zero hk, Int.pow_zero]; rfl
  | succ k ih =>
    rcases List.eq_nil_or_concat ws with rfl | ⟨p, r, rfl⟩
    · simp at hk
    · rw [List.concat_eq_append] at *
      rw [lineI_snoc, Int.pow_succ, ← ih p (by simpa using hk)]
      rfl
theorem pow_ne_one {m : Int} (hm : 2 ≤ m) (j : Nat) (hj : 0 < j) : m ^ j ≠ 1 := by
  obtain ⟨i, rfl⟩ : ∃ i, j = i + 1 := ⟨j - 1, by omega⟩
  have h : 0 < m ^ i := Int.pow_pos (by omega)
  rw [Int.pow_succ]
  have : 1 * 2 ≤ m ^ i * m := Int.mul_le_mul (by omega) hm (by omega) (by omega)
  omega
theorem take_succ_I {ws : List Int} {j : Nat} (hj : j < ws.length) : ws.take (j + 1) = ws.take j ++ [ws.getD j 0] := by
  rw [List.take_succ_eq_append_getElem hj, List.getD_eq_getElem?_getD, List.getElem?_eq_getElem hj]; rfl
end Go.Proofs.YtbmmilhinbfahaaDoor
/- numbers whose difference is a multiple of a power of the modulus: plain mathematics -/
namespace Go.Proofs.YtbmmilhinbfahaaDoor
/-- the number after some steps, whatever its size -/
def orbN (m : Int) (us ad : List Int) : Nat → Int → Int
  | 0, x => x
  | k + 1, x => stepI m us ad (orbN m us ad k x)
theorem orbN_cons (m : Int) (us ad : List Int) : ∀ (k : Nat) (x : Int), orbN m us ad (k + 1) x = orbN m us ad k (stepI m us ad x)
  | 0, x => rfl
  | k + 1, x => by
    rw [orbN, orbN_cons m us ad k x]
    rfl
/-- the factor of the rest of a number -/
def mulAt (m : Int) (us : List Int) (x : Int) : Int := us.getD (rOf m x) 0
/-- the product of the factors of the first rests -/
def growN (m : Int) (us ad : List Int) : Nat → Int → Int
  | 0, _ => 1
  | k + 1, x => growN m us ad k x * mulAt m us (orbN m us ad k x)
theorem seq_orb (m : Int) (us ad : List Int) (k : Nat) : ∀ (x : Int), none ∉ seqO m us ad k x → ∀ j, j < k → (seqO m us ad k x)[j]? = some (some (orbN m us ad (j + 1) x)) := by
  induction k with
  | zero => intro x _ j hj; omega
  | succ k ih =>
    intro x hn j hj
    rw [seqO] at hn ⊢
    by_cases hf : fitsB (stepI m us ad x) = true
    · rw [if_pos hf] at hn ⊢
      cases j with
      | zero => rfl
      | succ j =>
        rw [List.getElem?_cons_succ, ih _ (fun h => hn (List.mem_cons_of_mem _ h)) j (by omega), orbN_cons m us ad (j + 1) x]
    · rw [if_neg hf] at hn
      exact absurd (List.mem_singleton.2 rfl) hn
theorem seq_orb0 {m : Int} {us ad : List Int} {k : Nat} {x : Int} (hn : none ∉ seqO m us ad k x) (j : Nat) (hj : j < k + 1) : (some x :: seqO m us ad k x)[j]? = some (some (orbN m us ad j x)) := by
  cases j with
  | zero => rfl
  | succ j => rw [List.getElem?_cons_succ]; exact seq_orb m us ad k x hn j (by omega)
theorem rOf_shift {m : Int} (x t : Int) : rOf m (x + m * t) = rOf m x := by
  unfold rOf; rw [Int.add_mul_emod_self_left]
theorem stepI_shift {m : Int} {us ad : List Int} (hm : 0 < m) (x t : Int) : stepI m us ad (x + m * t) = stepI m us ad x + mulAt m us x * t := by
  unfold stepI mulAt
  rw [rOf_shift]
  generalize us.getD (rOf m x) 0 = u
  generalize ad.getD (rOf m x) 0 = a
  rw [show u * (x + m * t) + a = (u * x + a) + m * (u * t) by rw [Int.mul_add, Int.mul_left_comm]; omega, Int.add_mul_ediv_left _ _ (by omega)]
theorem alike_orb {m : Int} {us ad : List Int} (hm : 0 < m) (k : Nat) (x D : Int) : ∀ j, j ≤ k → orbN m us ad j (x + D * m ^ k) = orbN m us ad j x + D * growN m us ad j x * m ^ (k - j)
  | 0, _ => by simp [orbN, growN]
  | j + 1, h => by
    have ih := @alike_orb m us ad hm k x D j (by omega)
    have e : k - j = (k - (j + 1)) + 1 := by omega
    rw [orbN, ih, e, Int.pow_succ, orbN, growN]
    generalize m ^ (k - (j + 1)) = q
    generalize growN m us ad j x = g
    generalize orbN m us ad j x = y
    rw [show D * g * (q * m) = m * (D * g * q) by rw [← Int.mul_assoc, Int.mul_comm], stepI_shift hm]
    rw [show D * (g * mulAt m us y) * q = mulAt m us y * (D * g * q) by
      rw [← Int.mul_assoc, Int.mul_comm (D * g) (mulAt m us y), Int.mul_assoc]]
theorem alike_rest {m : Int} {us ad : List Int} (hm : 0 < m) (k : Nat) (x D : Int) (j : Nat) (h : j < k) : orbN m us ad j (x + D * m ^ k) % m = orbN m us ad j x % m := by
  rw [alike_orb hm k x D j (by omega), show k - j = (k - (j + 1)) + 1 by omega, Int.pow_succ]
  generalize m ^ (k - (j + 1)) = q
  rw [show D * growN m us ad j x * (q * m) = m * (D * growN m us ad j x * q) by rw [← Int.mul_assoc, Int.mul_comm], Int.add_mul_emod_self_left]
theorem alike_end {m : Int} {us ad : List Int} (hm : 0 < m) (k : Nat) (x D : Int) : orbN m us ad k (x + D * m ^ k) - orbN m us ad k x = D * growN m us ad k x := by
  rw [alike_orb hm k x D k (Nat.le_refl _), Nat.sub_self, Int.pow_zero, Int.mul_one]
  omega
theorem thousand (k : Nat) : 1000 ^ (3 * k) = TOP k := by
  unfold TOP
  rw [Nat.pow_mul]
theorem thousand_le (k c : Nat) (h : k ≤ 3 * c) : 1000 ^ k ≤ TOP c := by
  rw [← thousand]; exact Nat.pow_le_pow_right (by omega) h
/-- bounds: a number times a thousand as often as there are steps -/
theorem pow_top {D c : Int} (hD : K.fits D) (hc : c.natAbs ≤ 1000) (k : Nat) (hk : k ≤ 1002) : (D * c ^ k).natAbs ≤ BIG := by
  have h1 := fits_top hD
  have h2 : (c ^ k).natAbs ≤ 1000 ^ k := by rw [Int.natAbs_pow]; exact Nat.pow_le_pow_left hc k
  have h3 : 1000 ^ k ≤ TOP 334 := thousand_le k 334 (by omega)
  have h5 : (c ^ k).natAbs ≤ TOP 334 := Nat.le_trans h2 h3
  have h6 : (D * c ^ k).natAbs < TOP (223 + 334) := by
    rw [Int.natAbs_mul, TOP_add]
    calc D.natAbs * (c ^ k).natAbs ≤ D.natAbs * TOP 334 := Nat.mul_le_mul_left _ h5
      _ < TOP 223 * TOP 334 := Nat.mul_lt_mul_of_pos_right h1 (TOP_pos _)
  exact le_big h6 (by omega)
theorem grow_le {m : Int} {us ad : List Int} (hM : mapP m us ad) (x : Int) : ∀ k, (growN m us ad k x).natAbs ≤ 1000 ^ k
  | 0 => by simp [growN]
  | k + 1 => by
    have ih := grow_le hM x k
    have h := rule_at hM (orbN m us ad k x)
    have h2 : (mulAt m us (orbN m us ad k x)).natAbs ≤ 1000 := by
      unfold mulAt
      have h1 := h.1
      have h2 := h.2.1
      omega
    rw [growN, Int.natAbs_mul, Nat.pow_succ]
    exact Nat.mul_le_mul ih h2
theorem grow_top {m : Int} {us ad : List Int} (hM : mapP m us ad) {D : Int} (hD : K.fits D) (x : Int) (k : Nat) (hk : k ≤ 1002) : (D * growN m us ad k x).natAbs ≤ BIG := by
  have h1 := fits_top hD
  have h2 := grow_le hM x k
  have h3 : 1000 ^ k ≤ TOP 334 := thousand_le k 334 (by omega)
  have h5 : (growN m us ad k x).natAbs ≤ TOP 334 := Nat.le_trans h2 h3
  have h6 : (D * growN m us ad k x).natAbs < TOP (223 + 334) := by
    rw [Int.natAbs_mul, TOP_add]
    calc D.natAbs * (growN m us ad k x).natAbs ≤ D.natAbs * TOP 334 := Nat.mul_le_mul_left _ h5
      _ < TOP 223 * TOP 334 := Nat.mul_lt_mul_of_pos_right h1 (TOP_pos _)
  exact le_big h6 (by omega)
end Go.Proofs.YtbmmilhinbfahaaDoor
