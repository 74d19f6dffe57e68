/- Joined texts: step.Valid; small facts of the law packages; values of texts; the shape of a law's answer; a told answer, by its number; step.check, step.nextOfShort; step.timesPlus, step.nextOfLong, step.next; step.next, step.after; step.after and what it hands on, round by round; step.Run, step.Step. -/
import Derived.Test.YtleccblkafcidaaGreatDoorJG08
import Derived.Test.YtleccblkafcidaaGreatDoorJG05
import Derived.Deep.RegionHeld3
import Derived.RangeFuncNested
import Derived.RangeFuncBound
import Derived.RangeFuncCalls
import Derived.RangeFuncLeaves
import Derived.RangeFuncFrom
import Derived.RangeFuncWrites
import Derived.Shelf.Abstract
import Derived.Shelf.RegionOpen
import Derived.WalkKit
import Derived.OwnWalkIn
import Derived.TacticsInMore
import Derived.LoopNIn
import Derived.LoopIn
set_option linter.unusedSimpArgs false
set_option linter.unusedVariables false
/- step.Valid -/
namespace Go.Proofs.YtleccblkafcidaaGreatDoor
open Go.RowKit
set_option maxRecDepth 100000 in
set_option maxHeartbeats 1600000 in
theorem stepvalid_any (v : Value) (m : Int) (us ad : List Int) (w : World) (hv : MapV w v m us ad) {b : Bool} (hb : Hid (mapB m us ad = b)) :
    Calls Tryz.prog 61 #[v] w (fun e w' => e = .returned (.bool b) ∧ Ext w w') := by
  obtain ⟨A, k, c, B, l, d, rfl, hk, hkc, hl, hld, ra, rb, bk, bl⟩ := hv
  have hno : ∀ (_ : ¬ mapP m us ad), Hid (b = false) := fun h => hid (by
    rw [← hb.out]
    cases hB : mapB m us ad with
    | false => rfl
    | true => exact absurd ((mapB_iff m us ad).1 hB) h)
  have hbk : k ≤ 9223372036854775807 := by omega
  have hbl : l ≤ 9223372036854775807 := by omega
  have hx : Ext w (w.alloc (.cells #[.int .i64 m, .slice A k c, .slice B l d] 24)) := (Ext.rfl' w).alloc' _
  have hk3 : ∀ w', Ext (w.alloc (.cells #[.int .i64 m, .slice A k c, .slice B l d] 24)) w' → _ := fun w' e => three_facts e rfl
  by_cases c1 : m < 2
  · have HF := hno (fun h => by have := h.1; omega)
    have HX := hid hx
    clear hno hb hk hl ra rb hx hk3
    go_enter Tryz.func61, Tryz.ntmps61
    go_wp2
    go_ret
    exact ⟨by rw [HF.out]; rfl, HX.out⟩
  · by_cases c2 : 12 < m
    · have HF := hno (fun h => by have := h.2.1; omega)
      have HX := hid hx
      clear hno hb hk hl ra rb hx hk3
      go_enter Tryz.func61, Tryz.ntmps61
      go_wp2
      go_ret
      exact ⟨by rw [HF.out]; rfl, HX.out⟩
    · by_cases c3 : (k : Int) = m
      · by_cases c4 : (l : Int) = m
        · subst c3
          obtain rfl : l = k := by omega
          have HNO := hid hno
          have HK := hid hk
          have HL := hid hl
          have HX := hid hx
          have HK3 := hid hk3
          have HRA := hid ra
          have HRB := hid rb
          have k12 : l ≤ 12 := by omega
          have k2 : 2 ≤ l := by omega
          obtain ⟨f0, f1, f2, -⟩ := hk3 _ (Ext.rfl' _)
          obtain ⟨W1, hW1⟩ : ∃ W1, w.alloc (.cells #[.int .i64 (l : Int), .slice A l c, .slice B l d] 24) = W1 := ⟨_, rfl⟩
          rw [hW1] at HX HK3 f0 f1 f2
          have HW1 := hid hW1
          clear hno hk hl hx hk3 hW1 ra rb c4 hbk hbl c1 c2
          go_enter Tryz.func61, Tryz.ntmps61
          go_upto_region 1 with fail
          rw [HW1.out]
          go_wp2_with fail
          clear f0 f1 f2
          go_loopw [3, 4, 32] (fun _ _ iz wr => ∃ j : Nat, j ≤ l ∧ iz = .int .i64 (j : Int) ∧ Hid (∀ r : Nat, r < j → ruleP (l : Int) r (us.getD r 0) (ad.getD r 0)) ∧ Ext W1 wr) (fun _ _ iz _ => l - (intOf iz).toNat)
          case atStart => exact ⟨0, by omega, rfl, hid (fun r h => absurd h (by omega)), Ext.rfl' _⟩
          case round =>
            obtain ⟨j, hj, rfl, HR, hex⟩ := hrel
            obtain ⟨f0, f1, f2, -⟩ := HK3.out _ hex
            by_cases hlt : j < l
            · obtain ⟨ba, oa, eA, hba, hca⟩ := ((HRA.out.ext HX.out).ext hex).atI (k := j) (by rw [HK.out]; exact hlt)
              obtain ⟨bb, ob, eB, hbb, hcb⟩ := ((HRB.out.ext HX.out).ext hex).atI (k := j) (by rw [HL.out]; exact hlt)
              subst eA eB
              obtain ⟨u, hu⟩ : ∃ u, us.getD j 0 = u := ⟨_, rfl⟩
              obtain ⟨a, ha⟩ : ∃ a, ad.getD j 0 = a := ⟨_, rfl⟩
              rw [hu] at hca
              rw [ha] at hcb
              have HU := hid hu
              have HA := hid ha
              clear hu ha hba hbb
              by_cases hr : ruleP (l : Int) j u a
              · have HNEXT : Hid (∀ r : Nat, r < j + 1 → ruleP (l : Int) r (us.getD r 0) (ad.getD r 0)) := hid (by
                  intro r h
                  rcases Nat.lt_or_ge r j with h1 | h1
                  · exact HR.out r h1
                  · obtain rfl : r = j := by omega
                    rw [HU.out, HA.out]; exact hr)
                have HRU : Hid (ruleB (l : Int) j u a = true) := hid (decide_eq_true hr)
                clear hr
                go_wp2_with fail
                go_quiet ((go_at_call 106; exact Calls.quiet_of_same ((validRule_any (l : Int) (j : Int) u a _ (by omega) (by omega) (by omega) (by omega) HRU).mono fun _ _ h => ⟨h.1, h.2.symm⟩)))
                have hex2 := hex.drewN nq
                go_wp2
                go_roundw
                case rel => exact ⟨j + 1, by omega, by simp, HNEXT, hex2⟩
                case measure => simp [intOf]; omega
              · have HF := HNO.out (fun h => hr (by have := h.2.2.2.2 j (by rw [HK.out]; exact hlt); rwa [HU.out, HA.out] at this))
                have HRU : Hid (ruleB (l : Int) j u a = false) := hid (decide_eq_false hr)
                clear hr
                go_wp2_with fail
                go_quiet ((go_at_call 106; exact Calls.quiet_of_same ((validRule_any (l : Int) (j : Int) u a _ (by omega) (by omega) (by omega) (by omega) HRU).mono fun _ _ h => ⟨h.1, h.2.symm⟩)))
                have HY := hid (HX.out.step (hex.drewN nq))
                go_wp2
                go_ret
                exact ⟨by rw [HF.out]; rfl, HY.out⟩
            · have HF : Hid (b = true) := hid (by
                rw [← hb.out]
                exact (mapB_iff _ _ _).2 ⟨by omega, by omega, by rw [HK.out], by rw [HL.out], fun r h => HR.out r (by rw [HK.out] at h; omega)⟩)
              have HY := hid (HX.out.step hex)
              go_wp2
              go_ret
              exact ⟨by rw [HF.out]; rfl, HY.out⟩
        · have HF := hno (fun h => c4 (by have := h.2.2.2.1; omega))
          have HX := hid hx
          subst c3
          have e4 : ((l : Int) == (k : Int)) = false := by rw [beq_eq_false_iff_ne]; exact c4
          have e5 : (l == k) = false := by rw [beq_eq_false_iff_ne]; omega
          clear hno hb hk hl ra rb hx hk3 c4
          go_enter Tryz.func61, Tryz.ntmps61
          go_wp2
          go_ret
          exact ⟨by rw [HF.out]; rfl, HX.out⟩
      · have HF := hno (fun h => c3 (by have := h.2.2.1; omega))
        have HX := hid hx
        have e3 : ((k : Int) == m) = false := by rw [beq_eq_false_iff_ne]; exact c3
        clear hno hb hk hl ra rb hx hk3 c3
        go_enter Tryz.func61, Tryz.ntmps61
        go_wp2
        go_ret
        exact ⟨by rw [HF.out]; rfl, HX.out⟩
end Go.Proofs.YtleccblkafcidaaGreatDoor
/- small facts of the law packages -/
namespace Go.Proofs.YtleccblkafcidaaGreatDoor
open Go.RowKit
theorem Str_inj {a b : List UInt8} (h : Str a = Str b) : a = b := by
  have := congrArg ByteArray.toList h
  rwa [Str_toList, Str_toList] at this
def Alike (a b : List UInt8) : Prop := a = [] ∨ b = [] ∨ a = b
theorem valid_lit (l : List UInt8) (b : Bool) (s : ByteArray) (hs : Str l = s) (hb : K.validL l = b) (hl : l.length ≤ 2001) (w : World) :
    Calls Tryz.prog 78 #[.string s] w (fun e w' => e = .returned (.bool b) ∧ Ext w w') := by
  subst hs hb
  exact valid_any l w (by omega)
end Go.Proofs.YtleccblkafcidaaGreatDoor
/- values of texts; the shape of a law's answer -/
namespace Go.Proofs.YtleccblkafcidaaGreatDoor
open Go.RowKit
def TruePost (w : World) (e : Ending) (w' : World) : Prop := e = .returned (.bool true) ∧ Ext w w'
def Val (x : List UInt8) (m : Int) : Prop := x = [] ∨ (K.validL x = true ∧ K.numL x = m)
theorem Val.of {x : List UInt8} (h : K.validL x = true) : Val x (K.numL x) := .inr ⟨h, rfl⟩
theorem valid_nil : K.validL [] = false := rfl
theorem same_num {x y : List UInt8} (hx : K.validL x = true) (hy : K.validL y = true) (e : K.numL x = K.numL y) : x = y := by
  rw [← (K.txt_numL x hx).1, ← (K.txt_numL y hy).1, e]
theorem Val.told (n : Int) : Val (told n) n := by
  by_cases h : K.fits n
  · exact .inr ⟨by rw [told_fits h]; exact K.valid_txt n h, by rw [told_fits h, K.numL_txt]⟩
  · exact .inl (told_not h)
theorem Val.num {x : List UInt8} {m : Int} (h : Val x m) (v : K.validL x = true) : K.numL x = m := by
  rcases h with h | h
  · rw [h] at v; cases v
  · exact h.2
theorem Val.sum {x y : List UInt8} {m n : Int} (hx : Val x m) (hy : Val y n) : Val (sL x y) (m + n) := by
  unfold sL
  split
  · rename_i h
    rw [hx.num h.1, hy.num h.2]; exact Val.told _
  · exact .inl rfl
theorem Val.prod {x y : List UInt8} {m n : Int} (hx : Val x m) (hy : Val y n) : Val (mL x y) (m * n) := by
  unfold mL
  split
  · rename_i h
    rw [hx.num h.1, hy.num h.2]; exact Val.told _
  · exact .inl rfl
theorem Val.alike {x y : List UInt8} {m : Int} (hx : Val x m) (hy : Val y m) : Alike x y := by
  rcases hx with h | h
  · exact .inl h
  · rcases hy with k | k
    · exact .inr (.inl k)
    · exact .inr (.inr (same_num h.1 k.1 (h.2.trans k.2.symm)))
theorem Val.alike' {x y : List UInt8} {m n : Int} (hx : Val x m) (hy : Val y n) (e : m = n) : Alike x y := (e ▸ hx).alike hy
theorem sL_comm (a b : List UInt8) : sL a b = sL b a := by
  unfold sL; simp only [And.comm, Int.add_comm]
theorem mL_comm (a b : List UInt8) : mL a b = mL b a := by
  unfold mL; simp only [And.comm, Int.mul_comm]
theorem sum_form {a b : List UInt8} (ha : K.validL a = true) (hb : K.validL b = true) : sL a b = told (K.numL a + K.numL b) := if_pos ⟨ha, hb⟩
theorem rvalid_at (l : List UInt8) {v : Bool} (w : World) (hv : Hid (K.validL l = v)) (hl : l.length ≤ 140737488351232) :
    Calls Tryz.prog 23 #[.string (Str l)] w fun e w' => e = .returned (.bool v) ∧ w = w' := by
  rw [← hv.out]; exact rvalid_any l w hl
theorem len_of {l : List UInt8} (h : l.length ≤ 2001) : l.length ≤ 140737488351232 := by omega
def AddPost (s : List UInt8) (n : Int) (w : World) (e : Ending) (w' : World) : Prop :=
  ((e = .returned (.tuple #[.string (Str s), .int .i64 0]) ∧ Hid (K.validL s = true ∧ K.numL s = n ∧ s.length ≤ 2001)) ∨ (e = .returned (.tuple #[.string ⟨#[]⟩, .int .i64 3]) ∧ Hid (¬ K.fits n))) ∧ Ext w w'
theorem told_post {n : Int} {w : World} {e : Ending} {w' : World} (h : ToldPost n w e w') : ∃ s, AddPost s n w e w' := by
  by_cases hf : K.fits n
  · exact ⟨K.txt n, .inl ⟨h.1 hf, hid ⟨K.valid_txt n hf, K.numL_txt n, K.txt_len n hf⟩⟩, h.2.2⟩
  · exact ⟨[], .inr ⟨h.2.1 hf, hid hf⟩, h.2.2⟩
theorem told_eq {n : Int} {l : List UInt8} {w : World} {e : Ending} {w' : World} (h : ToldPost n w e w') (v : K.validL l = true) (k : K.numL l = n) : e = .returned (.tuple #[.string (Str l), .int .i64 0]) ∧ Ext w w' := by
  have := lit_eq v k
  exact ⟨by rw [h.1 this.1, this.2], h.2.2⟩
end Go.Proofs.YtleccblkafcidaaGreatDoor
/- a told answer, by its number -/
namespace Go.Proofs.YtleccblkafcidaaGreatDoor
open Go.RowKit
def Told2 (n : Int) (s : ByteArray) (c : Int) : Prop := (K.fits n → s = Str (K.txt n) ∧ c = 0) ∧ (¬ K.fits n → s = ⟨#[]⟩ ∧ c = 3)
theorem told2_of {n : Int} {w : World} {e : Ending} {w' : World} (h : ToldPost n w e w') : ∃ (s : ByteArray) (c : Int), e = .returned (.tuple #[.string s, .int .i64 c]) ∧ Told2 n s c ∧ Ext w w' := by
  by_cases hf : K.fits n
  · exact ⟨_, _, h.1 hf, ⟨fun _ => ⟨rfl, rfl⟩, fun k => absurd hf k⟩, h.2.2⟩
  · exact ⟨_, _, h.2.1 hf, ⟨fun k => absurd k hf, fun _ => ⟨rfl, rfl⟩⟩, h.2.2⟩
theorem valid_at (l : List UInt8) {v : Bool} (w : World) (hv : Hid (K.validL l = v)) (hl : l.length ≤ 140737488351232) :
    Calls Tryz.prog 78 #[.string (Str l)] w (fun e w' => e = .returned (.bool v) ∧ Ext w w') := by
  rw [← hv.out]; exact valid_any l w hl
end Go.Proofs.YtleccblkafcidaaGreatDoor
/- step.check, step.nextOfShort -/
namespace Go.Proofs.YtleccblkafcidaaGreatDoor
open Go.RowKit
def ErrPost (c : Int) (w : World) (e : Ending) (w' : World) : Prop := e = .returned (.int .i64 c) ∧ Ext w w'
set_option maxRecDepth 100000 in
set_option maxHeartbeats 800000 in
theorem check_any (v : Value) (m : Int) (us ad : List Int) (l : List UInt8) (k least most : Int) (w : World) (hv : MapV w v m us ad) (hl : l.length ≤ 140737488351232) {b1 b2 : Bool} (hb1 : Hid (mapB m us ad = b1)) (hb2 : Hid (K.validL l = b2))
    {c : Int} (hc : Hid (c = if b1 = true ∧ b2 = true then (if k < least ∨ most < k then 2 else 0) else 1)) :
    Calls Tryz.prog 163 #[v, .string (Str l), .int .i64 k, .int .i64 least, .int .i64 most] w (ErrPost c w) := by
  have HV := hid hv
  obtain ⟨A, n, cc, B, n2, d, rfl, -⟩ := hv
  have hx : Ext w (w.alloc (.cells #[.int .i64 m, .slice A n cc, .slice B n2 d] 24)) := (Ext.rfl' w).alloc' _
  have HX := hid hx
  obtain ⟨f0, f1, f2, -⟩ := three_facts (Ext.rfl' (w.alloc (.cells #[.int .i64 m, .slice A n cc, .slice B n2 d] 24))) rfl
  obtain ⟨W1, hW1⟩ : ∃ W1, w.alloc (.cells #[.int .i64 m, .slice A n cc, .slice B n2 d] 24) = W1 := ⟨_, rfl⟩
  rw [hW1] at HX f0 f1 f2
  have HW1 := hid hW1
  clear hW1 hx
  cases b1 with
  | false =>
    have HC : Hid (c = 1) := hid (by rw [hc.out, if_neg (by simp)])
    clear hc
    go_enter Tryz.func163, Tryz.ntmps163
    go_upto_region 1 with fail
    rw [HW1.out]
    go_wp2_with fail
    refine (stepvalid_any _ m us ad W1 (HV.out.ext HX.out) hb1).mono ?_
    rintro e w2 ⟨rfl, hx2⟩
    have HY := hid (HX.out.step hx2)
    go_wp2
    go_ret
    exact ⟨by rw [HC.out]; rfl, HY.out⟩
  | true =>
    cases b2 with
    | false =>
      have HC : Hid (c = 1) := hid (by rw [hc.out, if_neg (by simp)])
      clear hc
      go_enter Tryz.func163, Tryz.ntmps163
      go_upto_region 1 with fail
      rw [HW1.out]
      go_wp2_with fail
      refine (stepvalid_any _ m us ad W1 (HV.out.ext HX.out) hb1).mono ?_
      rintro e w2 ⟨rfl, hx2⟩
      have hy2 := HX.out.step hx2
      clear f0 f1 f2 hx2
      go_wp2_with fail
      refine (valid_at l w2 hb2 hl).mono ?_
      rintro e w3 ⟨rfl, hx3⟩
      have HY := hid (hy2.step hx3)
      go_wp2
      go_ret
      exact ⟨by rw [HC.out]; rfl, HY.out⟩
    | true =>
      by_cases h1 : k < least
      · have HC : Hid (c = 2) := hid (by rw [hc.out, if_pos (by simp), if_pos (.inl h1)])
        clear hc
        go_enter Tryz.func163, Tryz.ntmps163
        go_upto_region 1 with fail
        rw [HW1.out]
        go_wp2_with fail
        refine (stepvalid_any _ m us ad W1 (HV.out.ext HX.out) hb1).mono ?_
        rintro e w2 ⟨rfl, hx2⟩
        have hy2 := HX.out.step hx2
        clear f0 f1 f2 hx2
        go_wp2_with fail
        refine (valid_at l w2 hb2 hl).mono ?_
        rintro e w3 ⟨rfl, hx3⟩
        have HY := hid (hy2.step hx3)
        go_wp2
        go_ret
        exact ⟨by rw [HC.out]; rfl, HY.out⟩
      · by_cases h2 : most < k
        · have HC : Hid (c = 2) := hid (by rw [hc.out, if_pos (by simp), if_pos (.inr h2)])
          clear hc
          go_enter Tryz.func163, Tryz.ntmps163
          go_upto_region 1 with fail
          rw [HW1.out]
          go_wp2_with fail
          refine (stepvalid_any _ m us ad W1 (HV.out.ext HX.out) hb1).mono ?_
          rintro e w2 ⟨rfl, hx2⟩
          have hy2 := HX.out.step hx2
          clear f0 f1 f2 hx2
          go_wp2_with fail
          refine (valid_at l w2 hb2 hl).mono ?_
          rintro e w3 ⟨rfl, hx3⟩
          have HY := hid (hy2.step hx3)
          go_wp2
          go_ret
          exact ⟨by rw [HC.out]; rfl, HY.out⟩
        · have HC : Hid (c = 0) := hid (by rw [hc.out, if_pos (by simp), if_neg (by omega)])
          clear hc
          go_enter Tryz.func163, Tryz.ntmps163
          go_upto_region 1 with fail
          rw [HW1.out]
          go_wp2_with fail
          refine (stepvalid_any _ m us ad W1 (HV.out.ext HX.out) hb1).mono ?_
          rintro e w2 ⟨rfl, hx2⟩
          have hy2 := HX.out.step hx2
          clear f0 f1 f2 hx2
          go_wp2_with fail
          refine (valid_at l w2 hb2 hl).mono ?_
          rintro e w3 ⟨rfl, hx3⟩
          have HY := hid (hy2.step hx3)
          go_wp2
          go_ret
          exact ⟨by rw [HC.out]; rfl, HY.out⟩
theorem short_lt {l : List UInt8} (h : K.validL l = true) (hl : l.length ≤ 15) : (K.numL l).natAbs < 1000000000000000 := by
  obtain ⟨hd, -, -⟩ := body_all h
  obtain ⟨hval, hll⟩ := body_val h
  have h1 := K.dv_lt (K.body l) hd
  have h2 : 10 ^ (K.body l).length ≤ 10 ^ 15 := Nat.pow_le_pow_right (by omega) (by omega)
  have h3 : (10 : Nat) ^ 15 = 1000000000000000 := rfl
  omega
theorem rest_go {x m : Int} (hm : 2 ≤ m) : (x.tmod m + m).tmod m = (rOf m x : Int) := by
  have h1 := (rOf_lt (m := m) (x := x) (by omega)).2
  have h2 : x.tmod m = x - m * x.tdiv m := by have := Int.mul_tdiv_add_tmod x m; omega
  have h3 : -m < x.tmod m := by
    rcases Int.le_total 0 x with h | h
    · have := Int.tmod_nonneg m h
      omega
    · have e1 : x.tmod m = -((-x).tmod m) := by rw [Int.neg_tmod]; omega
      have e2 := Int.tmod_lt_of_pos (-x) (show 0 < m by omega)
      omega
  rw [Int.tmod_eq_emod_of_nonneg (by omega), h1, h2, show x - m * x.tdiv m + m = x + m * (1 - x.tdiv m) by rw [Int.mul_sub]; omega, Int.add_mul_emod_self_left]
theorem rest_wrap {x m : Int} (hm : 2 ≤ m) (hm2 : m ≤ 12) : (wrap64 (x.tmod m + m)).tmod m = (rOf m x : Int) := by
  have e2 := Int.tmod_lt_of_pos x (show 0 < m by omega)
  have e3 : -m < x.tmod m := by
    rcases Int.le_total 0 x with h | h
    · have := Int.tmod_nonneg m h
      omega
    · have e1 : x.tmod m = -((-x).tmod m) := by rw [Int.neg_tmod]; omega
      have e2 := Int.tmod_lt_of_pos (-x) (show 0 < m by omega)
      omega
  rw [IntWalk.wrap64_in _ (by omega)]
  exact rest_go hm
/-- the step of a short number is short -/
theorem step_small {m x : Int} {us ad : List Int} (h : mapP m us ad) (hx : x.natAbs < 1000000000000000) :
    (us.getD (rOf m x) 0 * x).natAbs ≤ 999000000000000000 ∧ (us.getD (rOf m x) 0 * x + ad.getD (rOf m x) 0).tdiv m = stepI m us ad x ∧ (stepI m us ad x).natAbs < 1000000000000000000 := by
  have hr := rule_at h x
  have hm := h.1
  have h1 := rOf_lt (m := m) (x := x) (by omega)
  unfold stepI
  generalize us.getD (rOf m x) 0 = u at *
  generalize ad.getD (rOf m x) 0 = a at *
  obtain ⟨r1, r2, r3, r4, r5⟩ := hr
  have hu : (u * x).natAbs ≤ 999000000000000000 := by
    rw [Int.natAbs_mul]
    have := Nat.mul_le_mul (show u.natAbs ≤ 999 by omega) (show x.natAbs ≤ 1000000000000000 by omega)
    omega
  have hdiv : m ∣ u * x + a := by
    have e : u * x + a = (u * (rOf m x : Int) + a) + m * (u * (x / m)) := by
      have h2 := Int.mul_ediv_add_emod x m
      have h3 : u * x = u * (m * (x / m)) + u * (x % m) := by rw [← Int.mul_add, h2]
      have h4 : u * (m * (x / m)) = m * (u * (x / m)) := by rw [← Int.mul_assoc, Int.mul_comm u m, Int.mul_assoc]
      rw [h1.2, h3, h4]; omega
    rw [e]
    exact Int.dvd_add (Int.dvd_of_emod_eq_zero r5) (Int.dvd_mul_right _ _)
  refine ⟨hu, Int.tdiv_eq_ediv_of_dvd hdiv, ?_⟩
  have h5 := Int.natAbs_ediv_le_natAbs (u * x + a) m
  omega
set_option maxRecDepth 100000 in
set_option maxHeartbeats 1600000 in
theorem short_any (v : Value) (m : Int) (us ad : List Int) (l : List UInt8) (w : World) (hv : MapV w v m us ad) (hM : Hid (mapP m us ad)) (hl : Hid (K.validL l = true)) (hs : l.length ≤ 15) (ht : Tab w) :
    Calls Tryz.prog 229 #[v, .string (Str l)] w (fun e w' => e = .returned (.tuple #[.string (Str (K.txt (stepI m us ad (K.numL l)))), .int .i64 0]) ∧ Ext w w') := by
  have HT := hid ht
  obtain ⟨A, n, cc, B, n2, d, rfl, hk, hkc, hl2, hld, ra, rb, bk, bl⟩ := hv
  have hx : Ext w (w.alloc (.cells #[.int .i64 m, .slice A n cc, .slice B n2 d] 24)) := (Ext.rfl' w).alloc' _
  have HX := hid hx
  have hk3 : ∀ w', Ext (w.alloc (.cells #[.int .i64 m, .slice A n cc, .slice B n2 d] 24)) w' → _ := fun w' e => three_facts e rfl
  obtain ⟨W1, hW1⟩ : ∃ W1, w.alloc (.cells #[.int .i64 m, .slice A n cc, .slice B n2 d] 24) = W1 := ⟨_, rfl⟩
  rw [hW1] at HX hk3
  have HK3 := hid hk3
  have HW1 := hid hW1
  have HRA := hid ra
  have HRB := hid rb
  have HK := hid hk
  have HL := hid hl2
  have hm2 : 2 ≤ m := hM.out.1
  have hm12 : m ≤ 12 := hM.out.2.1
  obtain ⟨x, hxe⟩ : ∃ x, K.numL l = x := ⟨_, rfl⟩
  have hxs := short_lt hl.out hs
  rw [hxe] at hxs
  have hstep := step_small hM.out hxs
  have hrl := rOf_lt (m := m) (x := x) (by omega)
  have hrule := rule_at hM.out x
  obtain ⟨r, hr⟩ : ∃ r, rOf m x = r := ⟨_, rfl⟩
  obtain ⟨u, hu⟩ : ∃ u, us.getD r 0 = u := ⟨_, rfl⟩
  obtain ⟨a, ha⟩ : ∃ a, ad.getD r 0 = a := ⟨_, rfl⟩
  have hgo := rest_wrap (x := x) hm2 hm12
  rw [hr] at hstep hrl hrule hgo
  rw [hu, ha] at hstep hrule
  obtain ⟨y, hy⟩ : ∃ y, stepI m us ad x = y := ⟨_, rfl⟩
  rw [hy] at hstep
  have HY := hid hy
  have HU := hid hu
  have HA := hid ha
  have HGO := hid hgo
  have HST := hid hstep
  have HNX := hid hxe
  have hrn : r < n := by have := hM.out.2.2.1; omega
  have hrn2 : r < n2 := by have := hM.out.2.2.2.1; omega
  have hrm : (r : Int) < m := hrl.1
  have a1 : -999999 ≤ a := hrule.2.2.1
  have a2 : a ≤ 999999 := hrule.2.2.2.1
  rw [hxe, hy]
  clear hx hk3 hW1 ra rb hk hl2 hstep hrl hrule hgo hr hu ha hy hxe
  go_enter Tryz.func229, Tryz.ntmps229
  go_upto_region 1 with fail
  rw [HW1.out]
  go_wp2_with fail
  refine (parse64_any l W1 hl.out (by omega)).mono ?_
  rintro e w2 ⟨rfl, hx2⟩
  rw [HNX.out]
  obtain ⟨f0, f1, f2, -⟩ := HK3.out _ hx2
  obtain ⟨ba, oa, eA, hba, hca⟩ := ((HRA.out.ext HX.out).ext hx2).atI (k := r) (by rw [HK.out]; exact hrn)
  obtain ⟨bb, ob, eB, hbb, hcb⟩ := ((HRB.out.ext HX.out).ext hx2).atI (k := r) (by rw [HL.out]; exact hrn2)
  subst eA eB
  rw [HU.out] at hca
  rw [HA.out] at hcb
  have HXX := hid (HX.out.step hx2)
  clear hba hbb hx2
  go_wp2_with fail
  go_upto_region 6 with fail
  rw [HGO.out]
  have h0 : (u * x).natAbs ≤ 999000000000000000 := HST.out.1
  obtain ⟨q, hq⟩ : ∃ q, u * x = q := ⟨_, rfl⟩
  rw [hq] at h0
  have hd0 := HST.out.2.1
  rw [hq] at hd0
  have hy0 : y.natAbs < 1000000000000000000 := HST.out.2.2
  have hy1 : -1000000000000000000 ≤ y := by omega
  have hy2 : y ≤ 1000000000000000000 := by omega
  have hin : (r : Int) < (n : Int) := by omega
  have hin2 : (r : Int) < (n2 : Int) := by omega
  have q1 : IntKind.i64.wrap (u * x) = q := by rw [hq]; exact IntWalk.i64_in _ (by omega)
  have q2 : IntKind.i64.wrap (q + a) = q + a := IntWalk.i64_in _ (by omega)
  have q3 : IntKind.i64.wrap ((q + a).tdiv m) = y := by rw [hd0]; exact IntWalk.i64_in _ (by omega)
  have Q := hid hq
  have D := hid hd0
  clear hq hd0 hy0 h0
  go_quiet (fail)
  clear q1 q2 q3
  have HXN := hid (HXX.out.drewN nq)
  clear f0 f1 f2 hca hcb
  go_wp2_with fail
  refine (format_any y _ (by omega) (by omega) ((HT.out.ext HXN.out))).mono ?_
  rintro e w3 ⟨rfl, hx3⟩
  have HZ := hid (HXN.out.step hx3)
  go_wp2
  go_ret2
  exact ⟨rfl, HZ.out⟩
end Go.Proofs.YtleccblkafcidaaGreatDoor
/- step.timesPlus, step.nextOfLong, step.next -/
namespace Go.Proofs.YtleccblkafcidaaGreatDoor
open Go.RowKit
theorem fits_small {n : Int} (h : n.natAbs < 1000000000000000000) : K.fits n := by
  have h2 : (1000000000000000000 : Nat) ≤ K.LIM := by decide +kernel
  unfold K.fits
  omega
theorem valid_small {n : Int} (h : n.natAbs < 1000000000000000000) : K.validL (K.txt n) = true := K.valid_txt n (fits_small h)
theorem len_small {n : Int} (h : n.natAbs < 1000000000000000000) : (K.txt n).length ≤ 140737488351232 := len_of (K.txt_len n (fits_small h))
theorem fits_le {a b : Int} (h : a.natAbs ≤ b.natAbs) (hb : K.fits b) : K.fits a := by unfold K.fits at *; omega
set_option maxRecDepth 100000 in
set_option maxHeartbeats 1600000 in
theorem times_plus (u c : Int) (l : List UInt8) (w : World) (hl : Hid (K.validL l = true)) (hlen : l.length ≤ 140737488351232) (hu : 1 ≤ u) (hu2 : u ≤ 999) (c1 : -1000000000 ≤ c) (c2 : c ≤ 1000000000) (hq : 2 * c.natAbs ≤ (K.numL l).natAbs) (ht : Tab w) :
    Calls Tryz.prog 246 #[.int .i64 u, .string (Str l), .int .i64 c] w (ToldPost (u * K.numL l + c) w) := by
  have HT := hid ht
  obtain ⟨q, hqe⟩ : ∃ q, K.numL l = q := ⟨_, rfl⟩
  rw [hqe] at hq ⊢
  have HQ := hid hqe
  have hm := sum_mono hu hq
  have V1 := hid (valid_small (n := u - 1) (by omega))
  have L1 := hid (len_small (n := u - 1) (by omega))
  have V2 := hid (valid_small (n := c) (by omega))
  have L2 := hid (len_small (n := c) (by omega))
  have hub : -9223372036854775808 ≤ u - 1 := by omega
  have hub2 : u - 1 ≤ 9223372036854775807 := by omega
  have hcb : -9223372036854775808 ≤ c := by omega
  have hcb2 : c ≤ 9223372036854775807 := by omega
  have hsum : (u - 1) * q + c + q = u * q + c := by rw [Int.sub_mul]; omega
  have HSUM := hid hsum
  by_cases fp : K.fits ((u - 1) * q)
  · by_cases fs : K.fits ((u - 1) * q + c)
    · have FP := hid fp
      have FS := hid fs
      clear fp fs hm hqe hsum hq
      go_enter Tryz.func246, Tryz.ntmps246
      go_wp2_with fail
      refine (itoa_any (u - 1) w hub hub2 HT.out).mono ?_
      rintro e w1 ⟨rfl, hx1⟩
      have h1 : Ext w w1 := hx1
      clear hx1
      go_wp2_with fail
      refine (mul_ok (K.txt (u - 1)) l w1 L1.out hlen V1.out hl.out (HT.out.ext h1)).mono ?_
      intro e w2 h
      rw [K.numL_txt, HQ.out] at h
      obtain ⟨rfl, hx2⟩ : e = .returned (.tuple #[.string (Str (K.txt ((u - 1) * q))), .int .i64 0]) ∧ Ext w1 w2 := ⟨h.1 FP.out, h.2.2⟩
      have h2 : Ext w w2 := h1.step hx2
      clear h h1 hx2
      go_wp2_with fail
      refine (itoa_any c w2 hcb hcb2 (HT.out.ext h2)).mono ?_
      rintro e w3 ⟨rfl, hx3⟩
      have h3 : Ext w w3 := h2.step hx3
      clear h2 hx3
      go_wp2_with fail
      refine (add_ok (K.txt ((u - 1) * q)) (K.txt c) w3 (len_of (K.txt_len _ FP.out)) L2.out (K.valid_txt _ FP.out) V2.out (HT.out.ext h3)).mono ?_
      intro e w4 h
      rw [K.numL_txt, K.numL_txt] at h
      obtain ⟨rfl, hx4⟩ : e = .returned (.tuple #[.string (Str (K.txt ((u - 1) * q + c))), .int .i64 0]) ∧ Ext w3 w4 := ⟨h.1 FS.out, h.2.2⟩
      have h4 : Ext w w4 := h3.step hx4
      clear h h3 hx4
      go_wp2_with fail
      refine (add_ok (K.txt ((u - 1) * q + c)) l w4 (len_of (K.txt_len _ FS.out)) hlen (K.valid_txt _ FS.out) hl.out (HT.out.ext h4)).mono ?_
      intro e w5 h
      rw [K.numL_txt, HQ.out, HSUM.out] at h
      have hto := told_step h4 h
      obtain ⟨s5, c5, he5, -, -⟩ := told2_of h
      rw [he5] at hto
      have HTO := hid hto
      subst he5
      clear h hto h4
      go_wp2
      go_ret2
      exact HTO.out
    · have nf : ¬ K.fits (u * q + c) := fun h => fs (fits_le hm.2 h)
      have HFIN : Hid (∀ w', Ext w w' → ToldPost (u * q + c) w (.returned (.tuple #[.string ⟨#[]⟩, .int .i64 3])) w') := hid fun w' e => ⟨fun h => absurd h nf, fun _ => rfl, e⟩
      have FP := hid fp
      have FS := hid fs
      clear fp fs hm hqe hsum nf hq
      go_enter Tryz.func246, Tryz.ntmps246
      go_wp2_with fail
      refine (itoa_any (u - 1) w hub hub2 HT.out).mono ?_
      rintro e w1 ⟨rfl, hx1⟩
      have h1 : Ext w w1 := hx1
      clear hx1
      go_wp2_with fail
      refine (mul_ok (K.txt (u - 1)) l w1 L1.out hlen V1.out hl.out (HT.out.ext h1)).mono ?_
      intro e w2 h
      rw [K.numL_txt, HQ.out] at h
      obtain ⟨rfl, hx2⟩ : e = .returned (.tuple #[.string (Str (K.txt ((u - 1) * q))), .int .i64 0]) ∧ Ext w1 w2 := ⟨h.1 FP.out, h.2.2⟩
      have h2 : Ext w w2 := h1.step hx2
      clear h h1 hx2
      go_wp2_with fail
      refine (itoa_any c w2 hcb hcb2 (HT.out.ext h2)).mono ?_
      rintro e w3 ⟨rfl, hx3⟩
      have h3 : Ext w w3 := h2.step hx3
      clear h2 hx3
      go_wp2_with fail
      refine (add_ok (K.txt ((u - 1) * q)) (K.txt c) w3 (len_of (K.txt_len _ FP.out)) L2.out (K.valid_txt _ FP.out) V2.out (HT.out.ext h3)).mono ?_
      intro e w4 h
      rw [K.numL_txt, K.numL_txt] at h
      obtain ⟨rfl, hx4⟩ : e = .returned (.tuple #[.string ⟨#[]⟩, .int .i64 3]) ∧ Ext w3 w4 := ⟨h.2.1 FS.out, h.2.2⟩
      have HX := hid (HFIN.out _ (h3.step hx4))
      clear h h3 hx4
      go_wp2
      go_ret2
      exact HX.out
  · have nf : ¬ K.fits (u * q + c) := fun h => fp (fits_le hm.1 h)
    have HFIN : Hid (∀ w', Ext w w' → ToldPost (u * q + c) w (.returned (.tuple #[.string ⟨#[]⟩, .int .i64 3])) w') := hid fun w' e => ⟨fun h => absurd h nf, fun _ => rfl, e⟩
    have FP := hid fp
    clear fp hm hqe hsum nf hq
    go_enter Tryz.func246, Tryz.ntmps246
    go_wp2_with fail
    refine (itoa_any (u - 1) w hub hub2 HT.out).mono ?_
    rintro e w1 ⟨rfl, hx1⟩
    have h1 : Ext w w1 := hx1
    clear hx1
    go_wp2_with fail
    refine (mul_ok (K.txt (u - 1)) l w1 L1.out hlen V1.out hl.out (HT.out.ext h1)).mono ?_
    intro e w2 h
    rw [K.numL_txt, HQ.out] at h
    obtain ⟨rfl, hx2⟩ : e = .returned (.tuple #[.string ⟨#[]⟩, .int .i64 3]) ∧ Ext w1 w2 := ⟨h.2.1 FP.out, h.2.2⟩
    have HX := hid (HFIN.out _ (h1.step hx2))
    clear h h1 hx2
    go_wp2
    go_ret2
    exact HX.out
theorem long_ge {l : List UInt8} (h : K.validL l = true) (hl : 15 < l.length) : 100000000000000 ≤ (K.numL l).natAbs := by
  obtain ⟨hval, hll⟩ := body_val h
  have e := (K.txt_numL l h).1
  have hb : K.body l = K.dgs (K.numL l).natAbs := by conv => lhs; rw [← e, K.body_txt]
  rw [hb] at hll
  have h3 : (10 : Nat) ^ 14 = 100000000000000 := rfl
  rcases Nat.lt_or_ge (K.numL l).natAbs 100000000000000 with h4 | h4
  · have := (K.dgs_len (K.numL l).natAbs 14 (by omega)).2 (by rw [h3]; exact h4)
    split at hll <;> omega
  · exact h4
theorem quot_ge {x m : Int} (hm : 2 ≤ m) (hm2 : m ≤ 12) (hx : 100000000000000 ≤ x.natAbs) : 2000000000000 ≤ (x / m).natAbs := by
  have h1 := Int.mul_ediv_add_emod x m
  have h2 := Int.emod_nonneg x (show m ≠ 0 by omega)
  have h3 := Int.emod_lt_of_pos x (show 0 < m by omega)
  generalize x / m = q at *
  generalize x % m = r at *
  have h4 : (m * q).natAbs = m.natAbs * q.natAbs := Int.natAbs_mul m q
  have h5 : m.natAbs * q.natAbs ≤ 12 * q.natAbs := Nat.mul_le_mul_right _ (by omega)
  omega
set_option maxRecDepth 100000 in
set_option maxHeartbeats 1600000 in
theorem long_any (v : Value) (m : Int) (us ad : List Int) (l : List UInt8) (w : World) (hv : MapV w v m us ad) (hM : Hid (mapP m us ad)) (hl : Hid (K.validL l = true)) (hs : 15 < l.length) (ht : Tab w) :
    Calls Tryz.prog 230 #[v, .string (Str l)] w (ToldPost (stepI m us ad (K.numL l)) w) := by
  have HT := hid ht
  obtain ⟨A, n, cc, B, n2, d, rfl, hk, hkc, hl2, hld, ra, rb, bk, bl⟩ := hv
  have hx : Ext w (w.alloc (.cells #[.int .i64 m, .slice A n cc, .slice B n2 d] 24)) := (Ext.rfl' w).alloc' _
  have HX := hid hx
  have hk3 : ∀ w', Ext (w.alloc (.cells #[.int .i64 m, .slice A n cc, .slice B n2 d] 24)) w' → _ := fun w' e => three_facts e rfl
  obtain ⟨W1, hW1⟩ : ∃ W1, w.alloc (.cells #[.int .i64 m, .slice A n cc, .slice B n2 d] 24) = W1 := ⟨_, rfl⟩
  rw [hW1] at HX hk3
  have HK3 := hid hk3
  have HW1 := hid hW1
  have HRA := hid ra
  have HRB := hid rb
  have HK := hid hk
  have HL := hid hl2
  have hm2 : 2 ≤ m := hM.out.1
  have hm12 : m ≤ 12 := hM.out.2.1
  have hlen := len_of (valid_len hl.out)
  have hfx := (K.txt_numL l hl.out).2
  have hxl := long_ge hl.out hs
  obtain ⟨x, hxe⟩ : ∃ x, K.numL l = x := ⟨_, rfl⟩
  rw [hxe] at hxl hfx
  have hqg := quot_ge hm2 hm12 hxl
  have hpar := stepI_parts hM.out x
  have hrl := rOf_lt (m := m) (x := x) (by omega)
  have hrule := rule_at hM.out x
  have hfq : K.fits (x / m) := fits_le (Int.natAbs_ediv_le_natAbs x m) hfx
  obtain ⟨r, hr⟩ : ∃ r, rOf m x = r := ⟨_, rfl⟩
  obtain ⟨u, hu⟩ : ∃ u, us.getD r 0 = u := ⟨_, rfl⟩
  obtain ⟨a, ha⟩ : ∃ a, ad.getD r 0 = a := ⟨_, rfl⟩
  rw [hr] at hpar hrl hrule
  rw [hu, ha] at hpar hrule
  obtain ⟨r1, r2, a1, a2, r5⟩ := hrule
  obtain ⟨y, hy⟩ : ∃ y, stepI m us ad x = y := ⟨_, rfl⟩
  rw [hy] at hpar
  obtain ⟨qq, hqq⟩ : ∃ qq, x / m = qq := ⟨_, rfl⟩
  rw [hqq] at hqg hpar hfq
  have hp : 0 ≤ u * r ∧ u * r ≤ 10989 := by
    refine ⟨Int.mul_nonneg (by omega) (by omega), ?_⟩
    have := Int.mul_le_mul (show u ≤ 999 by omega) (show (r : Int) ≤ 11 by omega) (by omega) (by omega)
    omega
  obtain ⟨p, hpe⟩ : ∃ p, u * (r : Int) = p := ⟨_, rfl⟩
  rw [hpe] at hp hpar r5
  obtain ⟨c, hc⟩ : ∃ c, (p + a) / m = c := ⟨_, rfl⟩
  have hdiv : (p + a).tdiv m = c := by rw [← hc]; exact Int.tdiv_eq_ediv_of_dvd (Int.dvd_of_emod_eq_zero r5)
  have hcb := Int.natAbs_ediv_le_natAbs (p + a) m
  rw [hc] at hpar hcb
  have hcs : c.natAbs ≤ 1010988 := by omega
  have HPE := hid hpe
  have HDIV := hid hdiv
  have HY := hid hpar
  have HU := hid hu
  have HA := hid ha
  have HFQ := hid hfq
  have HQG := hid (show 2 * c.natAbs ≤ qq.natAbs by omega)
  have hrn : r < n := by have := hM.out.2.2.1; omega
  have hrn2 : r < n2 := by have := hM.out.2.2.2.1; omega
  have hrm : (r : Int) < m := hrl.1
  have HREST : Hid (x % m = (r : Int)) := hid hrl.2.symm
  have HNX := hid hxe
  have HQQ := hid hqq
  have p1 := hp.1
  have p2 := hp.2
  have c1 : -1010988 ≤ c := by omega
  have c2 : c ≤ 1010988 := by omega
  have VM := hid (valid_small (n := m) (by omega))
  have LM := hid (len_small (n := m) (by omega))
  have VR := hid (valid_small (n := (r : Int)) (by omega))
  have LR : Hid ((K.txt (r : Int)).length ≤ 17) := hid (by
    have h1 : ¬ (r : Int) < 0 := by omega
    unfold K.txt
    rw [if_neg h1, Int.natAbs_natCast]
    exact Nat.le_trans ((K.dgs_len r 17 (by omega)).2 (by omega)) (Nat.le_refl _))
  rw [hxe, hy]
  clear hx hk3 hW1 ra rb hk hl2 hpar hrl r5 hr hu ha hy hxe hqq hpe hc hdiv hcb hcs hp hqg hfq hfx hxl
  go_enter Tryz.func230, Tryz.ntmps230
  go_upto_region 1 with fail
  rw [HW1.out]
  obtain ⟨f0, f1, f2, -⟩ := HK3.out _ (Ext.rfl' _)
  go_wp2_with fail
  refine (itoa_any m W1 (by omega) (by omega) (HT.out.ext HX.out)).mono ?_
  rintro e w2 ⟨rfl, hx2⟩
  have h2 : Ext W1 w2 := hx2
  clear hx2 f0 f1 f2
  go_wp2_with fail
  refine (divide_ok l (K.txt m) w2 hlen LM.out hl.out VM.out (by rw [K.numL_txt]; omega) ((HT.out.ext HX.out).ext h2)).mono ?_
  rintro e w3 ⟨he, hx3⟩
  rw [K.numL_txt, HNX.out, HQQ.out, HREST.out] at he
  subst he
  have h3 : Ext W1 w3 := h2.step hx3
  clear hx3 h2
  go_wp2_with fail
  refine (atoi_any (K.txt (r : Int)) w3 VR.out LR.out).mono ?_
  rintro e w4 ⟨he, hx4⟩
  rw [K.numL_txt] at he
  subst he
  have h4 : Ext W1 w4 := h3.step hx4
  clear hx4 h3
  obtain ⟨f0, f1, f2, -⟩ := HK3.out _ h4
  obtain ⟨ba, oa, eA, hba, hca⟩ := ((HRA.out.ext HX.out).ext h4).atI (k := r) (by rw [HK.out]; exact hrn)
  obtain ⟨bb, ob, eB, hbb, hcb⟩ := ((HRB.out.ext HX.out).ext h4).atI (k := r) (by rw [HL.out]; exact hrn2)
  subst eA eB
  rw [HU.out] at hca
  rw [HA.out] at hcb
  clear hba hbb
  go_upto_region 7 with fail
  have q1 : IntKind.i64.wrap (u * (r : Int)) = p := by rw [HPE.out]; exact IntWalk.i64_in _ (by omega)
  have q2 : IntKind.i64.wrap (p + a) = p + a := IntWalk.i64_in _ (by omega)
  have q3 : IntKind.i64.wrap ((p + a).tdiv m) = c := by rw [HDIV.out]; exact IntWalk.i64_in _ (by omega)
  have m0 : ¬ m = 0 := by omega
  have m1 : (m == 0) = false := by rw [beq_eq_false_iff_ne]; omega
  have HC : Hid (∀ w', Ext w4 w' → w'.cell? ⟨w.heap.size, 0, none⟩ = some (.int .i64 m) ∧ w'.cell? ⟨w.heap.size, 1, none⟩ = some (.slice (some ⟨ba, oa, none⟩) n cc) ∧ w'.cell? ⟨w.heap.size, 2, none⟩ = some (.slice (some ⟨bb, ob, none⟩) n2 d) ∧ w'.cell? ⟨ba, oa + r, none⟩ = some (.int .i64 u) ∧ w'.cell? ⟨bb, ob + r, none⟩ = some (.int .i64 a)) := hid (by
    intro w' e
    obtain ⟨g0, g1, g2, -⟩ := HK3.out _ (h4.step e)
    obtain ⟨b1, o1, e1, -, hc1⟩ := ((HRA.out.ext HX.out).ext (h4.step e)).atI (k := r) (by rw [HK.out]; exact hrn)
    obtain ⟨b2, o2, e2, -, hc2⟩ := ((HRB.out.ext HX.out).ext (h4.step e)).atI (k := r) (by rw [HL.out]; exact hrn2)
    cases e1
    cases e2
    rw [HU.out] at hc1
    rw [HA.out] at hc2
    exact ⟨g0, g1, g2, hc1, hc2⟩)
  have H4 := hid h4
  clear h4
  go_region_held3 (fun w' => w'.cell? ⟨w.heap.size, 0, none⟩ = some (.int .i64 m) ∧ w'.cell? ⟨w.heap.size, 1, none⟩ = some (.slice (some ⟨ba, oa, none⟩) n cc) ∧ w'.cell? ⟨w.heap.size, 2, none⟩ = some (.slice (some ⟨bb, ob, none⟩) n2 d) ∧ w'.cell? ⟨ba, oa + r, none⟩ = some (.int .i64 u) ∧ w'.cell? ⟨bb, ob + r, none⟩ = some (.int .i64 a))
    (first | exact HC.out _ hx5 | go_keep)
    (first | (go_at_call 246; refine (times_plus u c (K.txt qq) _ (hid (K.valid_txt _ HFQ.out)) (len_of (K.txt_len _ HFQ.out)) r1 r2 (by omega) (by omega) (by rw [K.numL_txt]; exact HQG.out) ?_).mono ?_; (first | exact (HT.out.ext HX.out).ext H4.out | exact (HT.out.ext HX.out).ext H4.out.drew'); intro e w5 h5; rw [K.numL_txt, ← HY.out] at h5; obtain ⟨s5, c5, rfl, -, hx5⟩ := told2_of h5; have hx5 := (show Ext w4 w5 by first | exact hx5 | exact Ext.undrew hx5); have H5 := hid h5; clear h5))
  all_goals
    have hfin : ToldPost y w (.returned (.tuple #[.string s5, .int .i64 c5])) w5 := ⟨H5.out.1, H5.out.2.1, (HX.out.step H4.out).step hx5⟩
    have HFIN := hid hfin
    clear hfin hx5
    go_wp2
    go_ret2
    exact HFIN.out
end Go.Proofs.YtleccblkafcidaaGreatDoor
/- step.next, step.after -/
namespace Go.Proofs.YtleccblkafcidaaGreatDoor
open Go.RowKit
set_option maxRecDepth 100000 in
set_option maxHeartbeats 800000 in
theorem next_any (v : Value) (m : Int) (us ad : List Int) (l : List UInt8) (w : World) (hv : MapV w v m us ad) (hM : Hid (mapP m us ad)) (hl : Hid (K.validL l = true)) (ht : Tab w) :
    Calls Tryz.prog 208 #[v, .string (Str l)] w (ToldPost (stepI m us ad (K.numL l)) w) := by
  have HT := hid ht
  have HV := hid hv
  obtain ⟨A, n, cc, B, n2, d, rfl, -⟩ := hv
  have hx : Ext w (w.alloc (.cells #[.int .i64 m, .slice A n cc, .slice B n2 d] 24)) := (Ext.rfl' w).alloc' _
  obtain ⟨f0, f1, f2, -⟩ := three_facts (Ext.rfl' (w.alloc (.cells #[.int .i64 m, .slice A n cc, .slice B n2 d] 24))) rfl
  obtain ⟨W1, hW1⟩ : ∃ W1, w.alloc (.cells #[.int .i64 m, .slice A n cc, .slice B n2 d] 24) = W1 := ⟨_, rfl⟩
  rw [hW1] at hx f0 f1 f2
  have HX := hid hx
  have HW1 := hid hW1
  have hsz := Str_size l
  obtain ⟨y, hy⟩ : ∃ y, stepI m us ad (K.numL l) = y := ⟨_, rfl⟩
  rw [hy]
  have HY := hid hy
  clear hW1 hx hy
  by_cases hs : l.length ≤ 15
  · have hs2 : (Str l).size ≤ 15 := by omega
    have hyf := (step_small hM.out (short_lt hl.out hs)).2.2
    rw [HY.out] at hyf
    have HF := hid (fits_small hyf)
    have HS := hid hs
    clear hs hsz hyf
    go_enter Tryz.func208, Tryz.ntmps208
    go_upto_region 1 with fail
    rw [HW1.out]
    go_wp2_with fail
    refine (short_any _ m us ad l W1 (HV.out.ext HX.out) hM hl HS.out (HT.out.ext HX.out)).mono ?_
    rintro e w2 ⟨he, hx2⟩
    rw [HY.out] at he
    subst he
    have hfin : ToldPost y w (.returned (.tuple #[.string (Str (K.txt y)), .int .i64 0])) w2 := ⟨fun _ => rfl, fun h => absurd HF.out h, HX.out.step hx2⟩
    have HFIN := hid hfin
    clear hfin hx2
    go_wp2
    go_ret2
    exact HFIN.out
  · have hs2 : ¬ (Str l).size ≤ 15 := by omega
    have HS := hid (show 15 < l.length by omega)
    clear hs hsz
    go_enter Tryz.func208, Tryz.ntmps208
    go_upto_region 1 with fail
    rw [HW1.out]
    go_wp2_with fail
    refine (long_any _ m us ad l W1 (HV.out.ext HX.out) hM hl HS.out (HT.out.ext HX.out)).mono ?_
    intro e w2 h
    rw [HY.out] at h
    obtain ⟨s5, c5, rfl, -, -⟩ := told2_of h
    have HFIN := hid (told_step HX.out h)
    clear h
    go_wp2
    go_ret2
    exact HFIN.out
end Go.Proofs.YtleccblkafcidaaGreatDoor
/- step.after and what it hands on, round by round -/
namespace Go.Proofs.YtleccblkafcidaaGreatDoor
open Go.RowKit Go.Proofs
attribute [local go_sem] Oper.semAt_some
/-- what a round is handed: a number that fits, or nothing -/
def Item : Type := { t : Option Int // ∀ y, t = some y → K.fits y }
def strO : Option Int → ByteArray
  | some y => Str (K.txt y)
  | none => ⟨#[]⟩
def codeO : Option Int → Int
  | some _ => 0
  | none => 3
def encI (t : Item) : Array Value := #[.string (strO t.1), .int .i64 (codeO t.1)]
def seqO (m : Int) (us ad : List Int) : Nat → Int → List (Option Int)
  | 0, _ => []
  | k + 1, x => if fitsB (stepI m us ad x) = true then some (stepI m us ad x) :: seqO m us ad k (stepI m us ad x) else [none]
theorem grown_of_ext {w w' : World} (h : Ext w w') : w.grownBy w' none := ⟨h.os, h.tape, h.output, h.size, fun k hk _ => h.block k hk⟩
theorem AbidesFrom.ext {β : Type} {B : Nat} {J : β → World → Prop} (h : AbidesFrom B J) {s : β} {w w' : World} (hs : J s w) (e : Ext w w') : J s w' :=
  h s w w' none hs (grown_of_ext e) (fun r e => by cases e)
set_option maxHeartbeats 1000000 in
theorem after_any (A : Option Addr) (n c : Nat) (B : Option Addr) (n2 d : Nat) (m : Int) (s : ByteArray) (k : Int) (w : World) :
    Calls Tryz.prog 164 #[.agg #[.int .i64 m, .slice A n c, .slice B n2 d], .string s, .int .i64 k] w (fun e w' => e = .returned (.func (.func 207) #[] #[.pointer (some ⟨w.heap.size + 1, 0, none⟩), .pointer (some ⟨w.heap.size + 1 + 1, 0, none⟩), .pointer (some ⟨w.heap.size, 0, none⟩)]) ∧
      w' = ((w.alloc (.cells #[.int .i64 m, .slice A n c, .slice B n2 d] 24)).alloc (.cells #[.string s] 9)).alloc (.cells #[.int .i64 k] 3)) := by
  go_enter Tryz.func164, Tryz.ntmps164
  go_wp2
  go_ret
  exact ⟨rfl, rfl⟩
/-- what lay below n₀ stands, and block Bm -/
def KeptM (n₀ Bm : Nat) (W W' : World) : Prop := Below n₀ W W' ∧ W'.heap[Bm]? = W.heap[Bm]?
theorem KeptM.t {n₀ Bm : Nat} {A B C : World} (h : KeptM n₀ Bm A B) (k : KeptM n₀ Bm B C) : KeptM n₀ Bm A C := ⟨h.1.trans k.1, k.2.trans h.2⟩
theorem KeptM.row {n₀ Bm : Nat} {W W' : World} {t : TypeId} {vs : List Value} (h : KeptM n₀ Bm W W') (r : Row W Bm t vs) : Row W' Bm t vs := h.2.trans r
set_option maxRecDepth 100000 in
set_option maxHeartbeats 2000000 in
theorem after1_in (n : Nat) (hn : 1 ≤ n) (l Bn Bk Bm n₀ k : Nat) (x : Int) (v : Value) (m : Int) (us ad : List Int) (w0 : World) (hn0 : w0.heap.size = n₀) (hv : MapV w0 v m us ad) (hM : Hid (mapP m us ad)) (hfx : K.fits x) (ht : Tab w0)
    (J Jx : List Item → World → Prop) (W : World) (hJa : AbidesFrom W.heap.size J) (hJxa : AbidesFrom W.heap.size Jx) (hW : Below n₀ w0 W) (hsz : k ≤ 20000)
    (A : Option Addr) (nn c : Nat) (B : Option Addr) (n2 d : Nat) (ev : v = .agg #[.int .i64 m, .slice A nn c, .slice B n2 d])
    (hBn : W.cell? ⟨Bn, 0, none⟩ = some (.string (Str (K.txt x)))) (hBk : W.cell? ⟨Bk, 0, none⟩ = some (.int .i64 (k : Int)))
    (hBm : Row W Bm 24 [.int .i64 m, .slice A nn c, .slice B n2 d])
    (hY : ∀ pre t W1, J pre W1 → pre.length < k → YieldAt Fence.wide (n - 1) Tryz.prog l (encI t) W1 fun e W' =>
      (e = .returned (.bool true) ∧ J (pre ++ [t]) W' ∧ KeptM n₀ Bm W1 W') ∨ (e = .returned (.bool false) ∧ Jx (pre ++ [t]) W')) (h0 : J [] W) :
    CallsIn Fence.wide n Tryz.prog 207 #[.func (.yield l) #[] #[], .pointer (some ⟨Bn, 0, none⟩), .pointer (some ⟨Bk, 0, none⟩), .pointer (some ⟨Bm, 0, none⟩)] W fun e W' => (∃ v, e = .returned v) ∧
      ((∃ xs : List Item, xs.map (·.1) = seqO m us ad k x ∧ J xs W') ∨ (∃ pre : List Item, pre.map (·.1) <+: seqO m us ad k x ∧ Jx pre W')) := by
  subst ev
  have HV := hid hv
  have HT := hid ht
  have HBM := hid hBm
  have HJA := hid hJa
  have HJXA := hid hJxa
  have HFX := hid hfx
  have HN0 := hid hn0
  clear hv ht hBm hJa hJxa hfx hn0
  refine callsIn_of_wp Tryz.func207 rfl trivial ?_ rfl
  simp only [Tryz.ntmps207, List.size_toArray, List.length_cons, List.length_nil, Nat.reduceAdd, Nat.reduceSub, Array.replicate_succ, Array.replicate_zero, List.push_toArray, List.append_toArray, List.nil_append, List.cons_append]
  gi_wp2
  gi_loopw [5, 6, 7, 10] (fun xz _ _ iz wr => ∃ (j : Nat) (cur : Int) (pre : List Item), j ≤ k ∧ iz = .int .i64 (j : Int) ∧ xz = .string (Str (K.txt cur)) ∧ Hid (K.fits cur) ∧ Hid (pre.map (·.1) ++ seqO m us ad (k - j) cur = seqO m us ad k x) ∧ Hid (pre.length = j) ∧ Hid (J pre wr) ∧ Hid (Row wr Bm 24 [.int .i64 m, .slice A nn c, .slice B n2 d]) ∧ Below n₀ W wr) (fun _ _ _ iz _ => k - (intOf iz).toNat)
  case atStart => exact ⟨0, x, [], Nat.zero_le _, rfl, rfl, HFX, hid rfl, hid rfl, hid h0, HBM, Below.refl _ _⟩
  case round =>
    obtain ⟨j, cur, pre, hj, rfl, rfl, HF, HS, HL, HJ, HR0, hnx⟩ := hrel
    have f0 : wr.cell? ⟨Bm, 0, none⟩ = some (.int .i64 m) := by rw [HR0.out.cell]; rfl
    have f1 : wr.cell? ⟨Bm, 1, none⟩ = some (.slice A nn c) := by rw [HR0.out.cell]; rfl
    have f2 : wr.cell? ⟨Bm, 2, none⟩ = some (.slice B n2 d) := by rw [HR0.out.cell]; rfl
    by_cases hlt : j < k
    · have hw : Ext w0 wr := by have h := hW.trans hnx; rw [← HN0.out] at h; exact h
      have HW := hid hw
      have HSQ : Hid (pre.map (·.1) ++ (if fitsB (stepI m us ad cur) = true then some (stepI m us ad cur) :: seqO m us ad (k - (j + 1)) (stepI m us ad cur) else [none]) = seqO m us ad k x) := hid (by
        rw [← HS.out, show k - j = (k - (j + 1)) + 1 by omega]; rfl)
      have HVAL : Hid (K.validL (K.txt cur) = true) := hid (K.valid_txt _ HF.out)
      obtain ⟨y, hy⟩ : ∃ y, stepI m us ad cur = y := ⟨_, rfl⟩
      have HY := hid hy
      rw [hy] at HSQ
      clear hy hw
      gi_wp2_with fail
      refine ⟨trivial, callsIn_wide.2 ((next_any _ m us ad (K.txt cur) wr (HV.out.ext HW.out) hM HVAL (HT.out.ext HW.out)).mono ?_)⟩
      intro e w2 h
      rw [K.numL_txt, HY.out] at h
      by_cases hf : K.fits y
      · obtain ⟨rfl, hx2⟩ : e = .returned (.tuple #[.string (Str (K.txt y)), .int .i64 0]) ∧ Ext wr w2 := ⟨h.1 hf, h.2.2⟩
        have hJ2 := AbidesFrom.ext HJA.out HJ.out hx2
        obtain ⟨it, hit⟩ : ∃ it : Item, it.1 = some y := ⟨⟨some y, fun z hz => by cases hz; exact hf⟩, rfl⟩
        have henc : encI it = #[.string (Str (K.txt y)), .int .i64 0] := by show #[Value.string (strO it.1), Value.int .i64 (codeO it.1)] = _; rw [hit]; rfl
        obtain ⟨fn, tmps, assign, body, hyy, hR⟩ := hY pre it w2 hJ2 (by rw [HL.out]; exact hlt)
        rw [henc] at hyy
        have HIT := hid hit
        have hsq := HSQ.out
        rw [if_pos (fitsB_yes hf)] at hsq
        have HSQ2 := hid hsq
        have HFY := hid hf
        have hb2 : Below n₀ wr w2 := hx2.mono (by have := HW.out.size; rw [← HN0.out]; exact this)
        have hnx2 := hnx.trans hb2
        have HR2 := hid (HR0.out.ext hx2)
        have HR := hid hR
        clear h hJ2 hsq hf hR f0 f1 f2 hnx hb2 hx2 hit henc
        gi_wp2
        refine HR.out.mono ?_
        rintro e W3 (⟨rfl, hJ3, hk3⟩ | ⟨rfl, hJx3⟩)
        · have hnx3 := hnx2.trans hk3.1
          have HR3 := hid (hk3.row HR2.out)
          have HJ3 := hid hJ3
          clear hJ3 hk3 hnx2
          gi_wp2
          go_roundw
          case rel => exact ⟨j + 1, y, pre ++ [it], by omega, by simp, rfl, HFY, hid (by rw [← HSQ2.out, List.map_append, List.append_assoc]; simp [HIT.out]), hid (by rw [List.length_append, HL.out]; rfl), HJ3, HR3, hnx3⟩
          case measure => simp [intOf]; omega
        · have HFIN : Hid (∃ pre : List Item, pre.map (·.1) <+: seqO m us ad k x ∧ Jx pre W3) := hid ⟨_, by rw [← HSQ2.out, List.map_append]; exact (List.prefix_append_right_inj _).2 (by simp [HIT.out]), hJx3⟩
          clear hJx3
          gi_wp2
          refine bodyPost_ret (results_none rfl _ _ _) rfl ?_
          exact ⟨⟨_, rfl⟩, .inr HFIN.out⟩
      · obtain ⟨rfl, hx2⟩ : e = .returned (.tuple #[.string ⟨#[]⟩, .int .i64 3]) ∧ Ext wr w2 := ⟨h.2.1 hf, h.2.2⟩
        have hJ2 := AbidesFrom.ext HJA.out HJ.out hx2
        obtain ⟨it, hit⟩ : ∃ it : Item, it.1 = none := ⟨⟨none, fun z hz => by cases hz⟩, rfl⟩
        have henc : encI it = #[.string ⟨#[]⟩, .int .i64 3] := by show #[Value.string (strO it.1), Value.int .i64 (codeO it.1)] = _; rw [hit]; rfl
        obtain ⟨fn, tmps, assign, body, hyy, hR⟩ := hY pre it w2 hJ2 (by rw [HL.out]; exact hlt)
        rw [henc] at hyy
        have HIT := hid hit
        have hsq := HSQ.out
        rw [if_neg (by rw [fitsB_no hf]; simp)] at hsq
        have HSQ2 := hid hsq
        have HR := hid hR
        clear h hJ2 hsq hf hR f0 f1 f2 hnx hx2 hit henc
        gi_wp2
        refine HR.out.mono ?_
        rintro e W3 (⟨rfl, hJ3, hk3⟩ | ⟨rfl, hJx3⟩)
        · have HFIN : Hid (∃ xs : List Item, xs.map (·.1) = seqO m us ad k x ∧ J xs W3) := hid ⟨_, by rw [← HSQ2.out, List.map_append]; simp [HIT.out], hJ3⟩
          clear hJ3 hk3
          gi_wp2
          refine bodyPost_ret (results_none rfl _ _ _) rfl ?_
          exact ⟨⟨_, rfl⟩, .inl HFIN.out⟩
        · have HFIN : Hid (∃ pre : List Item, pre.map (·.1) <+: seqO m us ad k x ∧ Jx pre W3) := hid ⟨_, by rw [← HSQ2.out, List.map_append]; exact (List.prefix_append_right_inj _).2 (by simp [HIT.out]), hJx3⟩
          clear hJx3
          gi_wp2
          refine bodyPost_ret (results_none rfl _ _ _) rfl ?_
          exact ⟨⟨_, rfl⟩, .inr HFIN.out⟩
    · obtain rfl : j = k := by omega
      have HFIN : Hid (∃ xs : List Item, xs.map (·.1) = seqO m us ad j x ∧ J xs wr) := hid ⟨pre, by rw [← HS.out, Nat.sub_self]; simp [seqO], HJ.out⟩
      gi_wp2
      go_end0
      exact ⟨⟨_, rfl⟩, .inl HFIN.out⟩
theorem after_stops (n : Nat) (hn : 1 ≤ n) (Bn Bk Bm k : Nat) (x : Int) (m : Int) (us ad : List Int) (A : Option Addr) (nn c : Nat) (B : Option Addr) (n2 d : Nat) (wc w : World)
    (hv : MapV wc (.agg #[.int .i64 m, .slice A nn c, .slice B n2 d]) m us ad) (hM : Hid (mapP m us ad)) (hfx : K.fits x) (ht : Tab wc) (hsz : k ≤ 20000) (hw : Ext wc w)
    (hBn : w.cell? ⟨Bn, 0, none⟩ = some (.string (Str (K.txt x)))) (hBk : w.cell? ⟨Bk, 0, none⟩ = some (.int .i64 (k : Int))) (hBm : Row w Bm 24 [.int .i64 m, .slice A nn c, .slice B n2 d]) (b1 : Bn < w.heap.size) (b2 : Bk < w.heap.size) :
    SeqStopsK Fence.wide n Tryz.prog 207 #[.pointer (some ⟨Bn, 0, none⟩), .pointer (some ⟨Bk, 0, none⟩), .pointer (some ⟨Bm, 0, none⟩)] encI (KeptM wc.heap.size Bm) (fun xs => xs.map (·.1) = seqO m us ad k x) (fun pre => pre.map (·.1) <+: seqO m us ad k x) k w :=
  fun l J Jx W hW hJ hJx hY h0 => after1_in n hn l Bn Bk Bm wc.heap.size k x _ m us ad wc rfl hv hM hfx ht J Jx W hJ hJx (hw.trans (hW.mono hw.size)) hsz A nn c B n2 d rfl
    ((hW.cell (p := ⟨Bn, 0, none⟩) b1).trans hBn) ((hW.cell (p := ⟨Bk, 0, none⟩) b2).trans hBk) (hBm.ext hW) hY h0
end Go.Proofs.YtleccblkafcidaaGreatDoor
/- step.Run, step.Step -/
namespace Go.Proofs.YtleccblkafcidaaGreatDoor
open Go.RowKit Go.Proofs
attribute [local go_sem] Oper.semAt_some
def lastO (x : Int) (l : List (Option Int)) : Int := l.foldl (fun a o => o.getD a) x
theorem seq_run (m : Int) (us ad : List Int) : ∀ (k : Nat) (x : Int), (none ∉ seqO m us ad k x → runO m us ad k x = some (lastO x (seqO m us ad k x))) ∧ (none ∈ seqO m us ad k x → runO m us ad k x = none)
  | 0, x => ⟨fun _ => rfl, fun h => by simp [seqO] at h⟩
  | k + 1, x => by
    have ih := seq_run m us ad k (stepI m us ad x)
    rw [seqO, runO_succ]
    by_cases hf : fitsB (stepI m us ad x) = true
    · rw [if_pos hf, if_pos hf]
      refine ⟨fun h => ?_, fun h => ?_⟩
      · rw [ih.1 (fun h2 => h (List.mem_cons_of_mem _ h2))]; rfl
      · exact ih.2 (by simpa using h)
    · rw [if_neg hf, if_neg hf]
      exact ⟨fun h => absurd (List.mem_singleton.2 rfl) h, fun _ => rfl⟩
theorem lastO_snoc (x : Int) (l : List (Option Int)) (y : Int) : lastO x (l ++ [some y]) = y := by simp [lastO]
/-- a result, or ErrSize -/
def OptPost (o : Option Int) (w : World) (e : Ending) (w' : World) : Prop := e = .returned (.tuple #[.string (strO o), .int .i64 (codeO o)]) ∧ Ext w w'
theorem one_facts {W w' : World} {a : Value} {t : TypeId} {H : Nat} (e : Ext (W.alloc (.cells #[a] t)) w') (hH : W.heap.size = H) : Row w' H t [a] := by
  subst hH; exact (Row.new W t [a]).ext e
theorem Row.grown {W W' : World} {B g : Nat} {t : TypeId} {vs : List Value} {row : Option Nat} (h : Row W g t vs) (hg : W.grownBy W' row) (hr : ∀ r, row = some r → B ≤ r ∧ ∃ o : Obj, W.heap[r]? = some o ∧ o.isCells = false) : Row W' g t vs := by
  refine (hg.block g h.lt ?_).trans h
  intro e
  obtain ⟨-, o, ho, hc⟩ := hr g e.symm
  have h' : W.heap[g]? = some (.cells vs.toArray t (0, 0)) := h
  rw [h'] at ho
  cases ho
  simp [Obj.isCells] at hc
theorem ext_grown {w W W' : World} {B : Nat} {row : Option Nat} (h : Ext w W) (hB : w.heap.size ≤ B) (hg : W.grownBy W' row) (hr : ∀ r, row = some r → B ≤ r ∧ ∃ o : Obj, W.heap[r]? = some o ∧ o.isCells = false) : Ext w W' :=
  h.grown hg h.size (fun k e => Nat.le_trans hB (hr k e).1)
end Go.Proofs.YtleccblkafcidaaGreatDoor
