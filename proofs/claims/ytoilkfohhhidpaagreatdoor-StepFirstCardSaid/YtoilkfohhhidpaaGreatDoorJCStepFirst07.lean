/- Joined texts: katabasisref01.Valid; the law package's helpers: texts of numbers, Power at two inputs; maps: plain mathematics; Contracts of the library, laid over this dump's numbers.; numbers as texts by the library: Itoa, FormatInt, ParseInt, Atoi, in the words of K. -/
import Derived.Test.YtoilkfohhhidpaaGreatDoorJCStepFirst05
import Derived.Test.YtoilkfohhhidpaaGreatDoorJCStepFirst06
import Derived.Shelf.Small.Wraps
import Derived.Shelf.Strconv.Atoi
import Derived.Shelf.Strconv.Itoa0
import Derived.Shelf.Strconv.Itoa1
import Derived.Shelf.LaysM
import Derived.Shelf.Strconv.Itoa2
import Derived.Shelf.Strconv.Itoa3
import Derived.Shelf.Strconv.Itoa4
import Derived.Shelf.Strconv.AtoiErrFast
import Derived.Shelf.Strconv.ParseIntEmpty
import Derived.Shelf.Strconv.AtoiFail
import Derived.Shelf.Strconv.Clone
import Derived.Shelf.Strconv.SyntaxError
import Derived.Shelf.LaysC
import Derived.Shelf.Strconv.ToError
import Derived.Shelf.Strconv.Lower
import Derived.Shelf.Strconv.ParseUint10
import Derived.Shelf.Strconv.ParseUint10Empty
import Derived.Shelf.Strconv.ParseUint10Any
import Derived.Shelf.Strconv.ParseInt10
import Derived.Shelf.Strconv.AtoiLong
import Derived.Shelf.Strconv.AtoiInnerAll
import Derived.Shelf.Strconv.RangeError
import Derived.Shelf.Strconv.ToErrorRange
import Derived.Shelf.Strconv.AtoiAll
import Derived.Shelf.Strconv.ParseUintEmpty
import Derived.Shelf.Strconv.ParseUint10b64
import Derived.Shelf.Strconv.ParseUint10b32
import Derived.Shelf.Strconv.ParseUint10b16
import Derived.Shelf.Strconv.ParseUint10b8
import Derived.Shelf.Strconv.ParseUint10At
import Derived.Shelf.Strconv.ParseInt10At64
import Derived.Shelf.Strconv.ParseInt10At32
import Derived.Shelf.Strconv.ParseInt10At16
import Derived.Shelf.Strconv.ParseInt10At8
import Derived.Shelf.Strconv.ParseInt10All
import Derived.Shelf.Strconv.ParseIntPublic10
import Derived.Shelf.Strconv.AppendUint10
import Derived.Shelf.Strconv.AppendInt10
import Derived.Shelf.Strings.Prefix
import Derived.Ground.Names2Prog
import Derived.Shelf.Slices.SearchI
import Derived.Test.YtoilkfohhhidpaaGreatDoorProg
import Derived.Lib.AppendIntMem
import Derived.Lib.SmallJoins
import Derived.Lib.AtoiErrMem
/- katabasisref01.Valid -/
namespace Go.Proofs.YtoilkfohhhidpaaGreatDoor
open Go.RowKit
theorem Str_list (l : List UInt8) : (Str l).toList = l := Str_toList l
theorem ne_lit {c d : UInt8} (h : ¬ c = d) : ((c.toNat : Int) == (d.toNat : Int)) = false := by
  rw [beq_eq_false_iff_ne]; intro e; exact h (UInt8.toNat.inj (by omega))
/-- the loop over the digits from 'a' on -/
theorem all_drop {l : List UInt8} {a k : Nat} {c : UInt8} (hk : a ≤ k) (h : l[k]? = some c) (ha : ((l.take k).drop a).all K.dig = true) (hc : K.dig c = true) : ((l.take (k + 1)).drop a).all K.dig = true := by
  obtain ⟨hk', e⟩ := List.getElem?_eq_some_iff.1 h
  rw [List.take_succ_eq_append_getElem hk', e, List.drop_append_of_le_length (by rw [List.length_take]; omega), List.all_append, ha]
  simp [hc]
theorem all_drop_false {l : List UInt8} {a k : Nat} {c : UInt8} (hk : a ≤ k) (h : l[k]? = some c) (hc : K.dig c = false) : (l.drop a).all K.dig = false := by
  rw [List.all_eq_false]
  refine ⟨c, ?_, by simp [hc]⟩
  apply List.mem_of_getElem? (i := k - a)
  rw [List.getElem?_drop, show a + (k - a) = k by omega]
  exact h
theorem body_drop (l : List UInt8) : K.body l = l.drop (if l.head? = some 45 then 1 else 0) := by
  unfold K.body; split <;> simp
set_option maxRecDepth 100000 in
set_option maxHeartbeats 1600000 in
theorem rvalid_any (l : List UInt8) (w : World) (hl : l.length ≤ 140737488351232) :
    Calls Tryz.prog 24 #[.string (Str l)] w fun e w' => e = .returned (.bool (K.validL l)) ∧ w = w' := by
  have hv : K.validL l = (!(K.body l).isEmpty && decide ((K.body l).length ≤ 2000) && (if (K.body l).head? = some 48 then l == [48] else (K.body l).all K.dig)) := rfl
  have hS : (Str l).size = l.length := Str_size l
  have hT := Str_list l
  cases l with
  | nil =>
    have HVV : Hid (K.validL [] = false) := hid rfl
    clear hv hS hl
    go_enter Tryz.func24, Tryz.ntmps24
    go_wp2
    go_ret
    exact ⟨rfl, rfl⟩
  | cons c r =>
    obtain ⟨h0, e0⟩ := Str_at (l := c :: r) (i := 0) (c := c) rfl
    have hlen : (c :: r).length = r.length + 1 := rfl
    by_cases hc : c = 45
    · subst hc
      have hcc : ((((Str (45 :: r))[0]'h0).toNat : Int) == 45) = true := by rw [e0]; rfl
      have hb : K.body (45 :: r) = r := rfl
      rw [hb] at hv
      clear e0
      cases r with
      | nil =>
        have HVV : Hid (K.validL [45] = false) := hid rfl
        clear hv
        go_enter Tryz.func24, Tryz.ntmps24
        go_wp2
        go_ret
        exact ⟨by rw [HVV.out]; rfl, rfl⟩
      | cons d r =>
        obtain ⟨h1, e1⟩ := Str_at (l := 45 :: d :: r) (i := 1) (c := d) rfl
        have hlen2 : (45 :: d :: r).length = r.length + 1 + 1 := rfl
        by_cases hbig : r.length + 1 ≤ 2000
        · by_cases hd : d = 48
          · subst hd
            have HVV : Hid (K.validL (45 :: 48 :: r) = false) := by refine hid ?_; rw [hv]; simp
            have hdd : ((((Str (45 :: 48 :: r))[1]'h1).toNat : Int) == 48) = true := by rw [e1]; rfl
            clear hv e1
            go_enter Tryz.func24, Tryz.ntmps24
            go_wp2
            go_ret
            exact ⟨by rw [HVV.out]; rfl, rfl⟩
          · have hvv : K.validL (45 :: d :: r) = ((45 :: d :: r).drop 1).all K.dig := by
              rw [hv, if_neg (by simpa using hd)]
              simp only [List.isEmpty_cons, Bool.not_false, Bool.true_and, List.length_cons, hbig, decide_true]
              rfl
            have HVV := hid hvv
            have hdd : ((((Str (45 :: d :: r))[1]'h1).toNat : Int) == 48) = false := by
              rw [e1]; exact ne_lit hd
            clear hv e1 hd hvv
            go_enter Tryz.func24, Tryz.ntmps24
            go_wp2_with fail
            generalize hll : 45 :: d :: r = l at *
            have HVV : Hid (K.validL (45 :: d :: r) = (l.drop 1).all K.dig) := by rw [hll]; exact HVV
            generalize (Str l)[0]'h0 = x0 at *
            generalize (Str l)[1]'h1 = x1 at *
            have hpos : 1 ≤ l.length := by omega
            clear hll h0 hlen hlen2 hdd hcc hT h1 hb hbig
            go_loop [5] (fun i => ∃ k : Nat, 1 ≤ k ∧ k ≤ l.length ∧ i = .int .i64 k ∧ Hid (((l.take k).drop 1).all K.dig = true)) (fun i => l.length - (intOf i).toNat)
            case atStart => exact ⟨1, Nat.le_refl _, by omega, rfl, hid (by rw [List.drop_of_length_le (by rw [List.length_take]; omega)]; rfl)⟩
            case round =>
              obtain ⟨k, hk1, hk2, rfl, hall⟩ := hrel
              by_cases hlt : k < l.length
              · obtain ⟨x, ex⟩ : ∃ x, l[k]? = some x := ⟨_, List.getElem?_eq_getElem hlt⟩
                obtain ⟨hh, e0⟩ := Str_at ex
                have HX := hid ex
                clear ex
                by_cases hd1 : x.toNat < 48
                · have hf : (l.drop 1).all K.dig = false := all_drop_false hk1 HX.out (by unfold K.dig; simp; omega)
                  have HF := hid hf
                  have e1 : ((Str l)[k]'hh).toNat < 48 := by rw [e0]; exact hd1
                  clear hf e0
                  go_wp2
                  go_ret
                  exact ⟨by rw [HVV.out, HF.out]; rfl, rfl⟩
                · by_cases hd2 : 57 < x.toNat
                  · have hf : (l.drop 1).all K.dig = false := all_drop_false hk1 HX.out (by unfold K.dig; simp; omega)
                    have HF := hid hf
                    have e1 : ¬ ((Str l)[k]'hh).toNat < 48 := by rw [e0]; exact hd1
                    have e2 : 57 < ((Str l)[k]'hh).toNat := by rw [e0]; exact hd2
                    clear hf e0
                    go_wp2
                    go_ret
                    exact ⟨by rw [HVV.out, HF.out]; rfl, rfl⟩
                  · have hdg : Hid (K.dig x = true) := by unfold K.dig Hid; simp; omega
                    have e1 : ¬ ((Str l)[k]'hh).toNat < 48 := by rw [e0]; exact hd1
                    have e2 : ¬ 57 < ((Str l)[k]'hh).toNat := by rw [e0]; exact hd2
                    clear e0
                    go_wp2
                    go_round
                    case rel => exact ⟨k + 1, by omega, by omega, rfl, hid (all_drop hk1 HX.out hall.out hdg.out)⟩
                    case measure => simp [intOf]; omega
              · have hf : Hid ((l.drop 1).all K.dig = true) := by
                  have h := hall.out
                  rwa [List.take_of_length_le (by omega)] at h
                go_wp2
                go_ret
                exact ⟨by rw [HVV.out, hf.out]; rfl, rfl⟩
        · have HVV : Hid (K.validL (45 :: d :: r) = false) := by refine hid ?_; rw [hv]; simp; omega
          clear hv e1
          go_enter Tryz.func24, Tryz.ntmps24
          go_wp2
          go_ret
          exact ⟨by rw [HVV.out]; rfl, rfl⟩
    · have hcc : ((((Str (c :: r))[0]'h0).toNat : Int) == 45) = false := by
        rw [e0]; exact ne_lit hc
      have hb : K.body (c :: r) = c :: r := by unfold K.body; rw [if_neg (by simpa using hc)]
      rw [hb] at hv
      by_cases hbig : r.length + 1 ≤ 2000
      · by_cases hd : c = 48
        · subst hd
          have hdd : ((((Str (48 :: r))[0]'h0).toNat : Int) == 48) = true := by rw [e0]; rfl
          cases r with
          | nil =>
            have HVV : Hid (K.validL [48] = ([48].drop 0).all K.dig) := hid rfl
            clear hv e0 hc
            go_enter Tryz.func24, Tryz.ntmps24
            go_wp2_with fail
            generalize hll : [(48 : UInt8)] = l at *
            have HVV : Hid (K.validL ([(48 : UInt8)]) = (l.drop 0).all K.dig) := by rw [hll]; exact HVV
            generalize (Str l)[0]'h0 = x0 at *
            have hpos : 0 ≤ l.length := by omega
            clear hll h0 hlen hdd hcc hT hb hbig
            go_loop [5] (fun i => ∃ k : Nat, 0 ≤ k ∧ k ≤ l.length ∧ i = .int .i64 k ∧ Hid (((l.take k).drop 0).all K.dig = true)) (fun i => l.length - (intOf i).toNat)
            case atStart => exact ⟨0, Nat.le_refl _, by omega, rfl, hid (by rw [List.drop_of_length_le (by rw [List.length_take]; omega)]; rfl)⟩
            case round =>
              obtain ⟨k, hk1, hk2, rfl, hall⟩ := hrel
              by_cases hlt : k < l.length
              · obtain ⟨x, ex⟩ : ∃ x, l[k]? = some x := ⟨_, List.getElem?_eq_getElem hlt⟩
                obtain ⟨hh, e0⟩ := Str_at ex
                have HX := hid ex
                clear ex
                by_cases hd1 : x.toNat < 48
                · have hf : (l.drop 0).all K.dig = false := all_drop_false hk1 HX.out (by unfold K.dig; simp; omega)
                  have HF := hid hf
                  have e1 : ((Str l)[k]'hh).toNat < 48 := by rw [e0]; exact hd1
                  clear hf e0
                  go_wp2
                  go_ret
                  exact ⟨by rw [HVV.out, HF.out]; rfl, rfl⟩
                · by_cases hd2 : 57 < x.toNat
                  · have hf : (l.drop 0).all K.dig = false := all_drop_false hk1 HX.out (by unfold K.dig; simp; omega)
                    have HF := hid hf
                    have e1 : ¬ ((Str l)[k]'hh).toNat < 48 := by rw [e0]; exact hd1
                    have e2 : 57 < ((Str l)[k]'hh).toNat := by rw [e0]; exact hd2
                    clear hf e0
                    go_wp2
                    go_ret
                    exact ⟨by rw [HVV.out, HF.out]; rfl, rfl⟩
                  · have hdg : Hid (K.dig x = true) := by unfold K.dig Hid; simp; omega
                    have e1 : ¬ ((Str l)[k]'hh).toNat < 48 := by rw [e0]; exact hd1
                    have e2 : ¬ 57 < ((Str l)[k]'hh).toNat := by rw [e0]; exact hd2
                    clear e0
                    go_wp2
                    go_round
                    case rel => exact ⟨k + 1, by omega, by omega, rfl, hid (all_drop hk1 HX.out hall.out hdg.out)⟩
                    case measure => simp [intOf]; omega
              · have hf : Hid ((l.drop 0).all K.dig = true) := by
                  have h := hall.out
                  rwa [List.take_of_length_le (by omega)] at h
                go_wp2
                go_ret
                exact ⟨by rw [HVV.out, hf.out]; rfl, rfl⟩
          | cons d r =>
            have hbig2 : r.length + 1 + 1 ≤ 2000 := by simpa using hbig
            have HVV : Hid (K.validL (48 :: d :: r) = false) := by refine hid ?_; rw [hv]; simp
            clear hv e0 hc
            go_enter Tryz.func24, Tryz.ntmps24
            go_wp2
            go_ret
            exact ⟨by rw [HVV.out]; rfl, rfl⟩
        · have hvv : K.validL (c :: r) = ((c :: r).drop 0).all K.dig := by
            rw [hv, if_neg (by simpa using hd)]
            simp only [List.isEmpty_cons, Bool.not_false, Bool.true_and, List.length_cons, hbig, decide_true]
            rfl
          have HVV := hid hvv
          have hdd : ((((Str (c :: r))[0]'h0).toNat : Int) == 48) = false := by
            rw [e0]; exact ne_lit hd
          clear hv e0 hd hvv hc
          go_enter Tryz.func24, Tryz.ntmps24
          go_wp2_with fail
          generalize hll : c :: r = l at *
          have HVV : Hid (K.validL (c :: r) = (l.drop 0).all K.dig) := by rw [hll]; exact HVV
          generalize (Str l)[0]'h0 = x0 at *
          have hpos : 0 ≤ l.length := by omega
          clear hll h0 hlen hdd hcc hT hb hbig
          go_loop [5] (fun i => ∃ k : Nat, 0 ≤ k ∧ k ≤ l.length ∧ i = .int .i64 k ∧ Hid (((l.take k).drop 0).all K.dig = true)) (fun i => l.length - (intOf i).toNat)
          case atStart => exact ⟨0, Nat.le_refl _, by omega, rfl, hid (by rw [List.drop_of_length_le (by rw [List.length_take]; omega)]; rfl)⟩
          case round =>
            obtain ⟨k, hk1, hk2, rfl, hall⟩ := hrel
            by_cases hlt : k < l.length
            · obtain ⟨x, ex⟩ : ∃ x, l[k]? = some x := ⟨_, List.getElem?_eq_getElem hlt⟩
              obtain ⟨hh, e0⟩ := Str_at ex
              have HX := hid ex
              clear ex
              by_cases hd1 : x.toNat < 48
              · have hf : (l.drop 0).all K.dig = false := all_drop_false hk1 HX.out (by unfold K.dig; simp; omega)
                have HF := hid hf
                have e1 : ((Str l)[k]'hh).toNat < 48 := by rw [e0]; exact hd1
                clear hf e0
                go_wp2
                go_ret
                exact ⟨by rw [HVV.out, HF.out]; rfl, rfl⟩
              · by_cases hd2 : 57 < x.toNat
                · have hf : (l.drop 0).all K.dig = false := all_drop_false hk1 HX.out (by unfold K.dig; simp; omega)
                  have HF := hid hf
                  have e1 : ¬ ((Str l)[k]'hh).toNat < 48 := by rw [e0]; exact hd1
                  have e2 : 57 < ((Str l)[k]'hh).toNat := by rw [e0]; exact hd2
                  clear hf e0
                  go_wp2
                  go_ret
                  exact ⟨by rw [HVV.out, HF.out]; rfl, rfl⟩
                · have hdg : Hid (K.dig x = true) := by unfold K.dig Hid; simp; omega
                  have e1 : ¬ ((Str l)[k]'hh).toNat < 48 := by rw [e0]; exact hd1
                  have e2 : ¬ 57 < ((Str l)[k]'hh).toNat := by rw [e0]; exact hd2
                  clear e0
                  go_wp2
                  go_round
                  case rel => exact ⟨k + 1, by omega, by omega, rfl, hid (all_drop hk1 HX.out hall.out hdg.out)⟩
                  case measure => simp [intOf]; omega
            · have hf : Hid ((l.drop 0).all K.dig = true) := by
                have h := hall.out
                rwa [List.take_of_length_le (by omega)] at h
              go_wp2
              go_ret
              exact ⟨by rw [HVV.out, hf.out]; rfl, rfl⟩
      · have HVV : Hid (K.validL (c :: r) = false) := by refine hid ?_; rw [hv]; simp; omega
        clear hv e0 hc
        go_enter Tryz.func24, Tryz.ntmps24
        go_wp2
        go_ret
        exact ⟨by rw [HVV.out]; rfl, rfl⟩
end Go.Proofs.YtoilkfohhhidpaaGreatDoor
/- the law package's helpers: texts of numbers, Power at two inputs -/
namespace Go.Proofs.YtoilkfohhhidpaaGreatDoor
open Go.RowKit
def told (n : Int) : List UInt8 := if n.natAbs < K.LIM then K.txt n else []
theorem told_fits {n : Int} (h : K.fits n) : told n = K.txt n := if_pos h
theorem told_not {n : Int} (h : ¬ K.fits n) : told n = [] := if_neg h
theorem told_len (n : Int) : (told n).length ≤ 2001 := by
  by_cases h : K.fits n
  · rw [told_fits h]; exact K.txt_len n h
  · rw [told_not h]; simp
def sL (a b : List UInt8) : List UInt8 := if K.validL a = true ∧ K.validL b = true then told (K.numL a + K.numL b) else []
def mL (a b : List UInt8) : List UInt8 := if K.validL a = true ∧ K.validL b = true then told (K.numL a * K.numL b) else []
theorem sL_len (a b : List UInt8) : (sL a b).length ≤ 2001 := by unfold sL; split; exact told_len _; simp
theorem mL_len (a b : List UInt8) : (mL a b).length ≤ 2001 := by unfold mL; split; exact told_len _; simp
theorem not_both {a b : List UInt8} (h : ¬ (K.validL a = true ∧ K.validL b = true)) : K.validL a = false ∨ K.validL b = false := by
  cases h1 : K.validL a <;> cases h2 : K.validL b <;> simp_all
theorem told_any (n : Int) (w : World) {e : Ending} {w' : World} (h : ToldPost n w e w') : ∃ c : Int, e = .returned (.tuple #[.string (Str (told n)), .int .i64 c]) := by
  by_cases hf : K.fits n
  · exact ⟨0, by rw [told_fits hf]; exact h.1 hf⟩
  · exact ⟨3, by rw [told_not hf]; exact h.2.1 hf⟩
def tw (k : Nat) : Nat := 2 ^ k
theorem natAbs_two (k : Nat) : ((2 : Int) ^ k).natAbs = tw k := by unfold tw; rw [Int.natAbs_pow]; rfl
theorem tw_big : K.LIM ≤ tw 10000 := by decide +kernel
theorem not_fits_tw : ¬ K.fits ((2 : Int) ^ 10000) := by
  unfold K.fits; rw [natAbs_two]; exact Nat.not_lt.mpr tw_big
def L100 : List UInt8 := [49, 50, 54, 55, 54, 53, 48, 54, 48, 48, 50, 50, 56, 50, 50, 57, 52, 48, 49, 52, 57, 54, 55, 48, 51, 50, 48, 53, 51, 55, 54]
theorem L100_ok : K.validL L100 = true := by decide +kernel
theorem L100_num : K.numL L100 = (2 : Int) ^ 100 := by decide +kernel
theorem lit_eq {l : List UInt8} {n : Int} (h : K.validL l = true) (e : K.numL l = n) : K.fits n ∧ K.txt n = l := by
  subst e; exact ⟨(K.txt_numL l h).2, (K.txt_numL l h).1⟩
end Go.Proofs.YtoilkfohhhidpaaGreatDoor
/- maps: plain mathematics -/
namespace Go.Proofs.YtoilkfohhhidpaaGreatDoor
/-- a rule of a map, at the rest r -/
def ruleP (m r u a : Int) : Prop := 1 ≤ u ∧ u ≤ 999 ∧ -999999 ≤ a ∧ a ≤ 999999 ∧ (u * r + a) % m = 0
instance (n : Int) : Decidable (K.fits n) := by unfold K.fits; infer_instance
instance (m r u a : Int) : Decidable (ruleP m r u a) := by unfold ruleP; infer_instance
def ruleB (m r u a : Int) : Bool := decide (ruleP m r u a)
/-- a valid map -/
def mapP (m : Int) (us ad : List Int) : Prop := 2 ≤ m ∧ m ≤ 12 ∧ (us.length : Int) = m ∧ (ad.length : Int) = m ∧ ∀ r : Nat, r < us.length → ruleP m r (us.getD r 0) (ad.getD r 0)
def mapB (m : Int) (us ad : List Int) : Bool := decide (2 ≤ m ∧ m ≤ 12 ∧ (us.length : Int) = m ∧ (ad.length : Int) = m) && (List.range us.length).all fun r => ruleB m (r : Int) (us.getD r 0) (ad.getD r 0)
theorem mapB_iff (m : Int) (us ad : List Int) : mapB m us ad = true ↔ mapP m us ad := by
  unfold mapB mapP ruleB
  simp only [Bool.and_eq_true, decide_eq_true_eq, List.all_eq_true, List.mem_range]
  constructor
  · rintro ⟨⟨h1, h2, h3, h4⟩, h5⟩; exact ⟨h1, h2, h3, h4, fun r hr => h5 r hr⟩
  · rintro ⟨h1, h2, h3, h4, h5⟩; exact ⟨⟨h1, h2, h3, h4⟩, fun r hr => h5 r hr⟩
theorem tmod_zero {x m : Int} : x.tmod m = 0 ↔ x % m = 0 := by
  rw [← Int.dvd_iff_tmod_eq_zero, Int.dvd_iff_emod_eq_zero]
/-- a step of a map -/
def rOf (m x : Int) : Nat := (x % m).toNat
def stepI (m : Int) (us ad : List Int) (x : Int) : Int := (us.getD (rOf m x) 0 * x + ad.getD (rOf m x) 0) / m
theorem rOf_lt {m x : Int} (h : 0 < m) : (rOf m x : Int) < m ∧ (rOf m x : Int) = x % m := by
  have h1 := Int.emod_nonneg x (show m ≠ 0 by omega)
  have h2 := Int.emod_lt_of_pos x h
  unfold rOf; omega
theorem rule_at {m : Int} {us ad : List Int} (h : mapP m us ad) (x : Int) : ruleP m (rOf m x) (us.getD (rOf m x) 0) (ad.getD (rOf m x) 0) := by
  have h1 := rOf_lt (m := m) (x := x) (by have := h.1; omega)
  exact h.2.2.2.2 _ (by have := h.2.2.1; omega)
/-- the step, by the quotient and the rest -/
theorem stepI_parts {m : Int} {us ad : List Int} (h : mapP m us ad) (x : Int) :
    stepI m us ad x = us.getD (rOf m x) 0 * (x / m) + (us.getD (rOf m x) 0 * (rOf m x : Int) + ad.getD (rOf m x) 0) / m := by
  have hm : 0 < m := by have := h.1; omega
  have h1 := (rOf_lt (m := m) (x := x) hm).2
  unfold stepI
  generalize us.getD (rOf m x) 0 = u
  generalize ad.getD (rOf m x) 0 = a
  rw [h1]
  have h2 : u * x + a = (u * (x % m) + a) + m * (u * (x / m)) := by
    have := Int.mul_ediv_add_emod x m
    have h3 : u * x = u * (m * (x / m)) + u * (x % m) := by rw [← Int.mul_add, this]
    have h4 : u * (m * (x / m)) = m * (u * (x / m)) := by rw [← Int.mul_assoc, Int.mul_comm u m, Int.mul_assoc]
    rw [h3, h4]; omega
  rw [h2, Int.add_mul_ediv_left _ _ (by omega)]
  omega
def fitsB (n : Int) : Bool := decide (K.fits n)
theorem fitsB_yes {n : Int} (h : K.fits n) : fitsB n = true := decide_eq_true h
theorem fitsB_no {n : Int} (h : ¬ K.fits n) : fitsB n = false := decide_eq_false h
theorem fitsB_iff {n : Int} : fitsB n = true ↔ K.fits n := decide_eq_true_iff
/-- the number after some steps, if all of them fit -/
def runO (m : Int) (us ad : List Int) : Nat → Int → Option Int
  | 0, x => some x
  | k + 1, x => if fitsB (stepI m us ad x) = true then runO m us ad k (stepI m us ad x) else none
theorem runO_succ {m : Int} {us ad : List Int} {k : Nat} {x : Int} : runO m us ad (k + 1) x = if fitsB (stepI m us ad x) = true then runO m us ad k (stepI m us ad x) else none := rfl
theorem runO_add (m : Int) (us ad : List Int) : ∀ (k l : Nat) (x : Int), runO m us ad (k + l) x = (runO m us ad k x).bind (runO m us ad l)
  | 0, l, x => by rw [Nat.zero_add]; rfl
  | k + 1, l, x => by
    rw [show k + 1 + l = k + l + 1 by omega, runO_succ, runO_succ]
    split
    · exact runO_add m us ad k l _
    · rfl
theorem runO_snoc (m : Int) (us ad : List Int) (k : Nat) (x : Int) : runO m us ad (k + 1) x = (runO m us ad k x).bind fun y => if fitsB (stepI m us ad y) = true then some (stepI m us ad y) else none := by
  rw [runO_add]; rfl
theorem runO_fits {m : Int} {us ad : List Int} (k : Nat) : ∀ (x y : Int), K.fits x → runO m us ad k x = some y → K.fits y := by
  induction k with
  | zero =>
    intro x y hx h
    have h2 : some x = some y := h
    rw [Option.some.inj h2] at hx
    exact hx
  | succ k ih =>
    intro x y _ h
    rw [runO_succ] at h
    by_cases hf : fitsB (stepI m us ad x) = true
    · rw [if_pos hf] at h
      exact ih _ _ (fitsB_iff.1 hf) h
    · rw [if_neg hf] at h
      exact absurd h (by simp)
/-- the quotient outweighs what is added -/
theorem sum_mono {u q c : Int} (hu : 1 ≤ u) (hq : 2 * c.natAbs ≤ q.natAbs) : ((u - 1) * q).natAbs ≤ (u * q + c).natAbs ∧ ((u - 1) * q + c).natAbs ≤ (u * q + c).natAbs := by
  have e : u * q = (u - 1) * q + q := by rw [Int.sub_mul]; omega
  rw [e]
  obtain ⟨v, hv⟩ := Int.eq_ofNat_of_zero_le (show 0 ≤ u - 1 by omega)
  rw [hv]
  generalize hp : (v : Int) * q = p
  have hs : 0 ≤ q → 0 ≤ p := fun h => by rw [← hp]; exact Int.mul_nonneg (by omega) h
  have hs2 : q ≤ 0 → p ≤ 0 := fun h => by rw [← hp]; exact Int.mul_nonpos_of_nonneg_of_nonpos (by omega) h
  rcases Int.le_total 0 q with h | h
  · have := hs h; omega
  · have := hs2 h; omega
end Go.Proofs.YtoilkfohhhidpaaGreatDoor
/- Contracts of the library, laid over this dump's numbers. -/
namespace Go.Proofs.YtoilkfohhhidpaaGreatDoor.ShelfB
open Go.Shelf Go.Proofs
def l_lays172_ren : Go.Shelf.Ren := ⟨fun | 172 => 67 | 244 => 80 | 245 => 74 | 247 => 73 | 279 => 86 | 280 => 87 | 281 => 88 | 282 => 89 | 287 => 85 | 316 => 104 | 171 => 66 | 205 => 105 | 321 => 102 | 322 => 103 | 243 => 79 | 246 => 75 | 283 => 90 | 284 => 91 | 285 => 92 | 286 => 93 | 129 => 107 | 317 => 106 | 318 => 108 | 319 => 109 | 320 => 110 | 337 => 118 | 338 => 119 | n => n, fun | 9 => 9 | 3 => 3 | 75 => 94 | 76 => 101 | 4 => 4 | 5 => 5 | 167 => 116 | 37 => 71 | 0 => 0 | 85 => 95 | 2 => 2 | 168 => 120 | 53 => 104 | 175 => 117 | 46 => 119 | 210 => 139 | 127 => 152 | 145 => 155 | 143 => 153 | 21 => 21 | 171 => 123 | 173 => 126 | 212 => 143 | 51 => 144 | 20 => 20 | 213 => 145 | 232 => 161 | 233 => 162 | 80 => 112 | n => n, fun | 15 => 0 | 16 => 1 | 17 => 2 | 18 => 3 | 19 => 4 | n => n⟩
theorem l_lays172 : Go.Proofs.Lays.n172 Tryz.prog l_lays172_ren := {
  mixed := by kernel_rfl
  f129 := Tryz.func107.trans (congrArg some (by kernel_rfl))
  f171 := Tryz.func66.trans (congrArg some (by kernel_rfl))
  f172 := Tryz.func67.trans (congrArg some (by kernel_rfl))
  f205 := Tryz.func105.trans (congrArg some (by kernel_rfl))
  f243 := Tryz.func79.trans (congrArg some (by kernel_rfl))
  f244 := Tryz.func80.trans (congrArg some (by kernel_rfl))
  f245 := Tryz.func74.trans (congrArg some (by kernel_rfl))
  f246 := Tryz.func75.trans (congrArg some (by kernel_rfl))
  f247 := Tryz.func73.trans (congrArg some (by kernel_rfl))
  f279 := Tryz.func86.trans (congrArg some (by kernel_rfl))
  f280 := Tryz.func87.trans (congrArg some (by kernel_rfl))
  f281 := Tryz.func88.trans (congrArg some (by kernel_rfl))
  f282 := Tryz.func89.trans (congrArg some (by kernel_rfl))
  f283 := Tryz.func90.trans (congrArg some (by kernel_rfl))
  f284 := Tryz.func91.trans (congrArg some (by kernel_rfl))
  f285 := Tryz.func92.trans (congrArg some (by kernel_rfl))
  f286 := Tryz.func93.trans (congrArg some (by kernel_rfl))
  f287 := Tryz.func85.trans (congrArg some (by kernel_rfl))
  f316 := Tryz.func104.trans (congrArg some (by kernel_rfl))
  f317 := Tryz.func106.trans (congrArg some (by kernel_rfl))
  f318 := Tryz.func108.trans (congrArg some (by kernel_rfl))
  f319 := Tryz.func109.trans (congrArg some (by kernel_rfl))
  f320 := Tryz.func110.trans (congrArg some (by kernel_rfl))
  f321 := Tryz.func102.trans (congrArg some (by kernel_rfl))
  f322 := Tryz.func103.trans (congrArg some (by kernel_rfl))
  f337 := Tryz.func118.trans (congrArg some (by kernel_rfl))
  f338 := Tryz.func119.trans (congrArg some (by kernel_rfl))
  t0 := Tryz.underlying0
  a0 := Tryz.isAgg0
  z0 := Tryz.sizeOf0
  v0 := Tryz.zeroValue0
  t2 := Tryz.underlying2
  a2 := Tryz.isAgg2
  z2 := Tryz.sizeOf2
  v2 := Tryz.zeroValue2
  t3 := Tryz.underlying3
  a3 := Tryz.isAgg3
  z3 := Tryz.sizeOf3
  v3 := Tryz.zeroValue3
  t4 := Tryz.underlying4
  a4 := Tryz.isAgg4
  z4 := Tryz.sizeOf4
  v4 := Tryz.zeroValue4
  t5 := Tryz.underlying5
  a5 := Tryz.isAgg5
  z5 := Tryz.sizeOf5
  v5 := Tryz.zeroValue5
  t9 := Tryz.underlying9
  a9 := Tryz.isAgg9
  z9 := Tryz.sizeOf9
  v9 := Tryz.zeroValue9
  t20 := Tryz.underlying20
  a20 := Tryz.isAgg20
  z20 := Tryz.sizeOf20
  v20 := Tryz.zeroValue20
  t21 := Tryz.underlying21
  a21 := Tryz.isAgg21
  z21 := Tryz.sizeOf21
  v21 := Tryz.zeroValue21
  t37 := Tryz.underlying71
  a37 := Tryz.isAgg71
  z37 := Tryz.sizeOf71
  v37 := Tryz.zeroValue71
  t46 := Tryz.underlying119
  a46 := Tryz.isAgg119
  z46 := Tryz.sizeOf119
  v46 := Tryz.zeroValue119
  t51 := Tryz.underlying144
  a51 := Tryz.isAgg144
  z51 := Tryz.sizeOf144
  v51 := Tryz.zeroValue144
  t53 := Tryz.underlying104
  a53 := Tryz.isAgg104
  z53 := Tryz.sizeOf104
  v53 := Tryz.zeroValue104
  t75 := Tryz.underlying94
  a75 := Tryz.isAgg94
  z75 := Tryz.sizeOf94
  v75 := Tryz.zeroValue94
  t76 := Tryz.underlying101
  a76 := Tryz.isAgg101
  z76 := Tryz.sizeOf101
  v76 := Tryz.zeroValue101
  t85 := Tryz.underlying95
  a85 := Tryz.isAgg95
  z85 := Tryz.sizeOf95
  v85 := Tryz.zeroValue95
  t127 := Tryz.underlying152
  a127 := Tryz.isAgg152
  z127 := Tryz.sizeOf152
  v127 := Tryz.zeroValue152
  t143 := Tryz.underlying153
  a143 := Tryz.isAgg153
  z143 := Tryz.sizeOf153
  v143 := Tryz.zeroValue153
  t145 := Tryz.underlying155
  a145 := Tryz.isAgg155
  z145 := Tryz.sizeOf155
  v145 := Tryz.zeroValue155
  t167 := Tryz.underlying116
  a167 := Tryz.isAgg116
  z167 := Tryz.sizeOf116
  v167 := Tryz.zeroValue116
  t168 := Tryz.underlying120
  a168 := Tryz.isAgg120
  z168 := Tryz.sizeOf120
  v168 := Tryz.zeroValue120
  t171 := Tryz.underlying123
  a171 := Tryz.isAgg123
  z171 := Tryz.sizeOf123
  v171 := Tryz.zeroValue123
  t173 := Tryz.underlying126
  a173 := Tryz.isAgg126
  z173 := Tryz.sizeOf126
  v173 := Tryz.zeroValue126
  t175 := Tryz.underlying117
  a175 := Tryz.isAgg117
  z175 := Tryz.sizeOf117
  v175 := Tryz.zeroValue117
  t210 := Tryz.underlying139
  a210 := Tryz.isAgg139
  z210 := Tryz.sizeOf139
  v210 := Tryz.zeroValue139
  t212 := Tryz.underlying143
  a212 := Tryz.isAgg143
  z212 := Tryz.sizeOf143
  v212 := Tryz.zeroValue143
  t213 := Tryz.underlying145
  a213 := Tryz.isAgg145
  z213 := Tryz.sizeOf145
  t232 := Tryz.underlying161
  a232 := Tryz.isAgg161
  z232 := Tryz.sizeOf161
  v232 := Tryz.zeroValue161
  t233 := Tryz.underlying162
  a233 := Tryz.isAgg162
  z233 := Tryz.sizeOf162
  v233 := Tryz.zeroValue162
  g15 := by kernel_rfl
  g16 := by kernel_rfl
  g17 := by kernel_rfl
  g18 := by kernel_rfl
  g19 := by kernel_rfl }
open Go.RowKit in
theorem l_strconv_Atoi (s : ByteArray) (n : Int) (hl : s.size ≤ 18) (h : Lib.atoi s.data.toList = some n) (w : World) :
    Calls Tryz.prog 67 #[.string s] w fun e w' => e = .returned (.tuple #[.int .i64 n, .nilIface]) ∧ ∃ t, w' = Lib.bytesWorld w 5 t := Any.strconv_Atoi l_lays172 s n hl h w
def l_laysM171_ren : Go.Shelf.Ren := ⟨fun | 171 => 66 | 243 => 79 | 246 => 75 | 283 => 90 | 284 => 91 | 285 => 92 | 286 => 93 | 129 => 107 | 317 => 106 | 318 => 108 | 319 => 109 | 320 => 110 | 337 => 118 | 338 => 119 | n => n, fun | 3 => 3 | 9 => 9 | 2 => 2 | 4 => 4 | 171 => 123 | 0 => 0 | 53 => 104 | 37 => 71 | 5 => 5 | 173 => 126 | 212 => 143 | 51 => 144 | 20 => 20 | 213 => 145 | 46 => 119 | 232 => 161 | 233 => 162 | n => n, fun | 17 => 2 | 18 => 3 | 19 => 4 | n => n⟩
theorem l_laysM171 : Go.Proofs.LaysM.n171 Tryz.prog l_laysM171_ren := {
  mixed := by kernel_rfl
  f129 := Tryz.func107.trans (congrArg some (by kernel_rfl))
  f171 := Tryz.func66.trans (congrArg some (by kernel_rfl))
  f243 := Tryz.func79.trans (congrArg some (by kernel_rfl))
  f246 := Tryz.func75.trans (congrArg some (by kernel_rfl))
  f283 := Tryz.func90.trans (congrArg some (by kernel_rfl))
  f284 := Tryz.func91.trans (congrArg some (by kernel_rfl))
  f285 := Tryz.func92.trans (congrArg some (by kernel_rfl))
  f286 := Tryz.func93.trans (congrArg some (by kernel_rfl))
  f317 := Tryz.func106.trans (congrArg some (by kernel_rfl))
  f318 := Tryz.func108.trans (congrArg some (by kernel_rfl))
  f319 := Tryz.func109.trans (congrArg some (by kernel_rfl))
  f320 := Tryz.func110.trans (congrArg some (by kernel_rfl))
  f337 := Tryz.func118.trans (congrArg some (by kernel_rfl))
  f338 := Tryz.func119.trans (congrArg some (by kernel_rfl))
  t0 := Tryz.underlying0
  a0 := Tryz.isAgg0
  z0 := Tryz.sizeOf0
  v0 := Tryz.zeroValue0
  t2 := Tryz.underlying2
  a2 := Tryz.isAgg2
  z2 := Tryz.sizeOf2
  v2 := Tryz.zeroValue2
  t3 := Tryz.underlying3
  a3 := Tryz.isAgg3
  z3 := Tryz.sizeOf3
  v3 := Tryz.zeroValue3
  t4 := Tryz.underlying4
  a4 := Tryz.isAgg4
  z4 := Tryz.sizeOf4
  v4 := Tryz.zeroValue4
  t5 := Tryz.underlying5
  a5 := Tryz.isAgg5
  z5 := Tryz.sizeOf5
  v5 := Tryz.zeroValue5
  t9 := Tryz.underlying9
  a9 := Tryz.isAgg9
  z9 := Tryz.sizeOf9
  v9 := Tryz.zeroValue9
  t20 := Tryz.underlying20
  a20 := Tryz.isAgg20
  z20 := Tryz.sizeOf20
  v20 := Tryz.zeroValue20
  t37 := Tryz.underlying71
  a37 := Tryz.isAgg71
  z37 := Tryz.sizeOf71
  v37 := Tryz.zeroValue71
  t46 := Tryz.underlying119
  a46 := Tryz.isAgg119
  z46 := Tryz.sizeOf119
  v46 := Tryz.zeroValue119
  t51 := Tryz.underlying144
  a51 := Tryz.isAgg144
  z51 := Tryz.sizeOf144
  v51 := Tryz.zeroValue144
  t53 := Tryz.underlying104
  a53 := Tryz.isAgg104
  z53 := Tryz.sizeOf104
  v53 := Tryz.zeroValue104
  t171 := Tryz.underlying123
  a171 := Tryz.isAgg123
  z171 := Tryz.sizeOf123
  v171 := Tryz.zeroValue123
  t173 := Tryz.underlying126
  a173 := Tryz.isAgg126
  z173 := Tryz.sizeOf126
  v173 := Tryz.zeroValue126
  t212 := Tryz.underlying143
  a212 := Tryz.isAgg143
  z212 := Tryz.sizeOf143
  v212 := Tryz.zeroValue143
  t213 := Tryz.underlying145
  a213 := Tryz.isAgg145
  z213 := Tryz.sizeOf145
  t232 := Tryz.underlying161
  a232 := Tryz.isAgg161
  z232 := Tryz.sizeOf161
  v232 := Tryz.zeroValue161
  t233 := Tryz.underlying162
  a233 := Tryz.isAgg162
  z233 := Tryz.sizeOf162
  v233 := Tryz.zeroValue162
  g17 := by kernel_rfl
  g18 := by kernel_rfl
  g19 := by kernel_rfl
  i0 := by kernel_rfl
  i2 := by kernel_rfl
  i3 := by kernel_rfl
  i4 := by kernel_rfl
  i5 := by kernel_rfl
  i9 := by kernel_rfl
  i20 := by kernel_rfl
  i37 := by kernel_rfl
  i46 := by kernel_rfl
  i51 := by kernel_rfl
  i53 := by kernel_rfl
  i171 := by kernel_rfl
  i173 := by kernel_rfl
  i212 := by kernel_rfl
  i232 := by kernel_rfl
  i233 := by kernel_rfl
  m17 := by kernel_rfl
  m18 := by kernel_rfl
  m19 := by kernel_rfl }
open Go.RowKit Go.Sort Go.Lib in
theorem l_strconv_Itoa (n : Int) (h0 : -9223372036854775808 ≤ n) (h1 : n ≤ 9223372036854775807) (w : World) (htab : Lib.TabIs Tryz.prog w "internal/strconv.uint64pow10" .u64 Lib.pow10Tab) :
    Calls Tryz.prog 66 #[.int .i64 n] w fun e w' => e = .returned (.string ⟨(Lib.itoa n).toArray⟩) ∧ ∃ k os, w' = grow (w.drewN k) os := Any.strconv_Itoa l_laysM171 n h0 h1 w htab
def l_laysM173_ren : Go.Shelf.Ren := ⟨fun | 173 => 64 | 246 => 75 | 283 => 90 | 284 => 91 | 285 => 92 | 286 => 93 | 129 => 107 | 317 => 106 | 318 => 108 | 319 => 109 | 320 => 110 | 337 => 118 | 338 => 119 | n => n, fun | 2 => 2 | 3 => 3 | 9 => 9 | 4 => 4 | 171 => 123 | 0 => 0 | 53 => 104 | 37 => 71 | 5 => 5 | 173 => 126 | 212 => 143 | 51 => 144 | 20 => 20 | 213 => 145 | 46 => 119 | 232 => 161 | 233 => 162 | n => n, fun | 17 => 2 | 18 => 3 | 19 => 4 | n => n⟩
theorem l_laysM173 : Go.Proofs.LaysM.n173 Tryz.prog l_laysM173_ren := {
  mixed := by kernel_rfl
  f129 := Tryz.func107.trans (congrArg some (by kernel_rfl))
  f173 := Tryz.func64.trans (congrArg some (by kernel_rfl))
  f246 := Tryz.func75.trans (congrArg some (by kernel_rfl))
  f283 := Tryz.func90.trans (congrArg some (by kernel_rfl))
  f284 := Tryz.func91.trans (congrArg some (by kernel_rfl))
  f285 := Tryz.func92.trans (congrArg some (by kernel_rfl))
  f286 := Tryz.func93.trans (congrArg some (by kernel_rfl))
  f317 := Tryz.func106.trans (congrArg some (by kernel_rfl))
  f318 := Tryz.func108.trans (congrArg some (by kernel_rfl))
  f319 := Tryz.func109.trans (congrArg some (by kernel_rfl))
  f320 := Tryz.func110.trans (congrArg some (by kernel_rfl))
  f337 := Tryz.func118.trans (congrArg some (by kernel_rfl))
  f338 := Tryz.func119.trans (congrArg some (by kernel_rfl))
  t0 := Tryz.underlying0
  a0 := Tryz.isAgg0
  z0 := Tryz.sizeOf0
  v0 := Tryz.zeroValue0
  t2 := Tryz.underlying2
  a2 := Tryz.isAgg2
  z2 := Tryz.sizeOf2
  v2 := Tryz.zeroValue2
  t3 := Tryz.underlying3
  a3 := Tryz.isAgg3
  z3 := Tryz.sizeOf3
  v3 := Tryz.zeroValue3
  t4 := Tryz.underlying4
  a4 := Tryz.isAgg4
  z4 := Tryz.sizeOf4
  v4 := Tryz.zeroValue4
  t5 := Tryz.underlying5
  a5 := Tryz.isAgg5
  z5 := Tryz.sizeOf5
  v5 := Tryz.zeroValue5
  t9 := Tryz.underlying9
  a9 := Tryz.isAgg9
  z9 := Tryz.sizeOf9
  v9 := Tryz.zeroValue9
  t20 := Tryz.underlying20
  a20 := Tryz.isAgg20
  z20 := Tryz.sizeOf20
  v20 := Tryz.zeroValue20
  t37 := Tryz.underlying71
  a37 := Tryz.isAgg71
  z37 := Tryz.sizeOf71
  v37 := Tryz.zeroValue71
  t46 := Tryz.underlying119
  a46 := Tryz.isAgg119
  z46 := Tryz.sizeOf119
  v46 := Tryz.zeroValue119
  t51 := Tryz.underlying144
  a51 := Tryz.isAgg144
  z51 := Tryz.sizeOf144
  v51 := Tryz.zeroValue144
  t53 := Tryz.underlying104
  a53 := Tryz.isAgg104
  z53 := Tryz.sizeOf104
  v53 := Tryz.zeroValue104
  t171 := Tryz.underlying123
  a171 := Tryz.isAgg123
  z171 := Tryz.sizeOf123
  v171 := Tryz.zeroValue123
  t173 := Tryz.underlying126
  a173 := Tryz.isAgg126
  z173 := Tryz.sizeOf126
  v173 := Tryz.zeroValue126
  t212 := Tryz.underlying143
  a212 := Tryz.isAgg143
  z212 := Tryz.sizeOf143
  v212 := Tryz.zeroValue143
  t213 := Tryz.underlying145
  a213 := Tryz.isAgg145
  z213 := Tryz.sizeOf145
  t232 := Tryz.underlying161
  a232 := Tryz.isAgg161
  z232 := Tryz.sizeOf161
  v232 := Tryz.zeroValue161
  t233 := Tryz.underlying162
  a233 := Tryz.isAgg162
  z233 := Tryz.sizeOf162
  v233 := Tryz.zeroValue162
  g17 := by kernel_rfl
  g18 := by kernel_rfl
  g19 := by kernel_rfl
  i0 := by kernel_rfl
  i2 := by kernel_rfl
  i3 := by kernel_rfl
  i4 := by kernel_rfl
  i5 := by kernel_rfl
  i9 := by kernel_rfl
  i20 := by kernel_rfl
  i37 := by kernel_rfl
  i46 := by kernel_rfl
  i51 := by kernel_rfl
  i53 := by kernel_rfl
  i171 := by kernel_rfl
  i173 := by kernel_rfl
  i212 := by kernel_rfl
  i232 := by kernel_rfl
  i233 := by kernel_rfl
  m17 := by kernel_rfl
  m18 := by kernel_rfl
  m19 := by kernel_rfl }
open Go.RowKit Go.Sort Go.Lib in
theorem l_strconv_FormatInt_10 (n : Int) (h0 : -9223372036854775808 ≤ n) (h1 : n ≤ 9223372036854775807) (w : World) (htab : Lib.TabIs Tryz.prog w "internal/strconv.uint64pow10" .u64 Lib.pow10Tab) :
    Calls Tryz.prog 64 #[.int .i64 n, .int .i64 10] w fun e w' => e = .returned (.string ⟨(Lib.itoa n).toArray⟩) ∧ ∃ k os, w' = grow (w.drewN k) os := Any.strconv_FormatInt_10 l_laysM173 n h0 h1 w htab
def l_laysC174_ren : Go.Shelf.Ren := ⟨fun | 174 => 63 | 247 => 73 | 245 => 74 | 287 => 85 | 279 => 86 | 280 => 87 | 281 => 88 | 282 => 89 | 321 => 102 | 322 => 103 | 316 => 104 | 171 => 66 | 205 => 105 | 243 => 79 | 246 => 75 | 283 => 90 | 284 => 91 | 285 => 92 | 286 => 93 | 129 => 107 | 317 => 106 | 318 => 108 | 319 => 109 | 320 => 110 | 337 => 118 | 338 => 119 | n => n, fun | 9 => 9 | 3 => 3 | 2 => 2 | 75 => 94 | 85 => 95 | 4 => 4 | 167 => 116 | 5 => 5 | 53 => 104 | 175 => 117 | 46 => 119 | 168 => 120 | 37 => 71 | 0 => 0 | 210 => 139 | 21 => 21 | 127 => 152 | 145 => 155 | 143 => 153 | 171 => 123 | 173 => 126 | 212 => 143 | 51 => 144 | 20 => 20 | 213 => 145 | 232 => 161 | 233 => 162 | 80 => 112 | n => n, fun | 15 => 0 | 16 => 1 | 17 => 2 | 18 => 3 | 19 => 4 | n => n⟩
theorem l_laysC174 : Go.Proofs.LaysC.n174 Tryz.prog l_laysC174_ren := {
  mixed := by kernel_rfl
  f129 := Tryz.func107.trans (congrArg some (by kernel_rfl))
  f171 := Tryz.func66.trans (congrArg some (by kernel_rfl))
  f174 := Tryz.func63.trans (congrArg some (by kernel_rfl))
  f205 := Tryz.func105.trans (congrArg some (by kernel_rfl))
  f243 := Tryz.func79.trans (congrArg some (by kernel_rfl))
  f245 := Tryz.func74.trans (congrArg some (by kernel_rfl))
  f246 := Tryz.func75.trans (congrArg some (by kernel_rfl))
  f247 := Tryz.func73.trans (congrArg some (by kernel_rfl))
  f279 := Tryz.func86.trans (congrArg some (by kernel_rfl))
  f280 := Tryz.func87.trans (congrArg some (by kernel_rfl))
  f281 := Tryz.func88.trans (congrArg some (by kernel_rfl))
  f282 := Tryz.func89.trans (congrArg some (by kernel_rfl))
  f283 := Tryz.func90.trans (congrArg some (by kernel_rfl))
  f284 := Tryz.func91.trans (congrArg some (by kernel_rfl))
  f285 := Tryz.func92.trans (congrArg some (by kernel_rfl))
  f286 := Tryz.func93.trans (congrArg some (by kernel_rfl))
  f287 := Tryz.func85.trans (congrArg some (by kernel_rfl))
  f316 := Tryz.func104.trans (congrArg some (by kernel_rfl))
  f317 := Tryz.func106.trans (congrArg some (by kernel_rfl))
  f318 := Tryz.func108.trans (congrArg some (by kernel_rfl))
  f319 := Tryz.func109.trans (congrArg some (by kernel_rfl))
  f320 := Tryz.func110.trans (congrArg some (by kernel_rfl))
  f321 := Tryz.func102.trans (congrArg some (by kernel_rfl))
  f322 := Tryz.func103.trans (congrArg some (by kernel_rfl))
  f337 := Tryz.func118.trans (congrArg some (by kernel_rfl))
  f338 := Tryz.func119.trans (congrArg some (by kernel_rfl))
  t0 := Tryz.underlying0
  a0 := Tryz.isAgg0
  z0 := Tryz.sizeOf0
  v0 := Tryz.zeroValue0
  t2 := Tryz.underlying2
  a2 := Tryz.isAgg2
  z2 := Tryz.sizeOf2
  v2 := Tryz.zeroValue2
  t3 := Tryz.underlying3
  a3 := Tryz.isAgg3
  z3 := Tryz.sizeOf3
  v3 := Tryz.zeroValue3
  t4 := Tryz.underlying4
  a4 := Tryz.isAgg4
  z4 := Tryz.sizeOf4
  v4 := Tryz.zeroValue4
  t5 := Tryz.underlying5
  a5 := Tryz.isAgg5
  z5 := Tryz.sizeOf5
  v5 := Tryz.zeroValue5
  t9 := Tryz.underlying9
  a9 := Tryz.isAgg9
  z9 := Tryz.sizeOf9
  v9 := Tryz.zeroValue9
  t20 := Tryz.underlying20
  a20 := Tryz.isAgg20
  z20 := Tryz.sizeOf20
  v20 := Tryz.zeroValue20
  t21 := Tryz.underlying21
  a21 := Tryz.isAgg21
  z21 := Tryz.sizeOf21
  v21 := Tryz.zeroValue21
  t37 := Tryz.underlying71
  a37 := Tryz.isAgg71
  z37 := Tryz.sizeOf71
  v37 := Tryz.zeroValue71
  t46 := Tryz.underlying119
  a46 := Tryz.isAgg119
  z46 := Tryz.sizeOf119
  v46 := Tryz.zeroValue119
  t51 := Tryz.underlying144
  a51 := Tryz.isAgg144
  z51 := Tryz.sizeOf144
  v51 := Tryz.zeroValue144
  t53 := Tryz.underlying104
  a53 := Tryz.isAgg104
  z53 := Tryz.sizeOf104
  v53 := Tryz.zeroValue104
  t75 := Tryz.underlying94
  a75 := Tryz.isAgg94
  z75 := Tryz.sizeOf94
  v75 := Tryz.zeroValue94
  t85 := Tryz.underlying95
  a85 := Tryz.isAgg95
  z85 := Tryz.sizeOf95
  v85 := Tryz.zeroValue95
  t127 := Tryz.underlying152
  a127 := Tryz.isAgg152
  z127 := Tryz.sizeOf152
  v127 := Tryz.zeroValue152
  t143 := Tryz.underlying153
  a143 := Tryz.isAgg153
  z143 := Tryz.sizeOf153
  v143 := Tryz.zeroValue153
  t145 := Tryz.underlying155
  a145 := Tryz.isAgg155
  z145 := Tryz.sizeOf155
  v145 := Tryz.zeroValue155
  t167 := Tryz.underlying116
  a167 := Tryz.isAgg116
  z167 := Tryz.sizeOf116
  v167 := Tryz.zeroValue116
  t168 := Tryz.underlying120
  a168 := Tryz.isAgg120
  z168 := Tryz.sizeOf120
  v168 := Tryz.zeroValue120
  t171 := Tryz.underlying123
  a171 := Tryz.isAgg123
  z171 := Tryz.sizeOf123
  v171 := Tryz.zeroValue123
  t173 := Tryz.underlying126
  a173 := Tryz.isAgg126
  z173 := Tryz.sizeOf126
  v173 := Tryz.zeroValue126
  t175 := Tryz.underlying117
  a175 := Tryz.isAgg117
  z175 := Tryz.sizeOf117
  v175 := Tryz.zeroValue117
  t210 := Tryz.underlying139
  a210 := Tryz.isAgg139
  z210 := Tryz.sizeOf139
  v210 := Tryz.zeroValue139
  t212 := Tryz.underlying143
  a212 := Tryz.isAgg143
  z212 := Tryz.sizeOf143
  v212 := Tryz.zeroValue143
  t213 := Tryz.underlying145
  a213 := Tryz.isAgg145
  z213 := Tryz.sizeOf145
  t232 := Tryz.underlying161
  a232 := Tryz.isAgg161
  z232 := Tryz.sizeOf161
  v232 := Tryz.zeroValue161
  t233 := Tryz.underlying162
  a233 := Tryz.isAgg162
  z233 := Tryz.sizeOf162
  v233 := Tryz.zeroValue162
  g15 := by kernel_rfl
  g16 := by kernel_rfl
  g17 := by kernel_rfl
  g18 := by kernel_rfl
  g19 := by kernel_rfl
  t80 := Tryz.underlying112
  a80 := Tryz.isAgg112
  z80 := Tryz.sizeOf112
  v80 := Tryz.zeroValue112
  i0 := by kernel_rfl
  i2 := by kernel_rfl
  i3 := by kernel_rfl
  i4 := by kernel_rfl
  i5 := by kernel_rfl
  i9 := by kernel_rfl
  i20 := by kernel_rfl
  i21 := by kernel_rfl
  i37 := by kernel_rfl
  i46 := by kernel_rfl
  i51 := by kernel_rfl
  i53 := by kernel_rfl
  i75 := by kernel_rfl
  i80 := by kernel_rfl
  i85 := by kernel_rfl
  i127 := by kernel_rfl
  i143 := by kernel_rfl
  i145 := by kernel_rfl
  i167 := by kernel_rfl
  i168 := by kernel_rfl
  i171 := by kernel_rfl
  i173 := by kernel_rfl
  i175 := by kernel_rfl
  i210 := by kernel_rfl
  i212 := by kernel_rfl
  i232 := by kernel_rfl
  i233 := by kernel_rfl
  m15 := by kernel_rfl
  m16 := by kernel_rfl
  m17 := by kernel_rfl
  m18 := by kernel_rfl
  m19 := by kernel_rfl
  c0 := by kernel_rfl
  c2 := by kernel_rfl
  c3 := by kernel_rfl
  c4 := by kernel_rfl
  c5 := by kernel_rfl
  c9 := by kernel_rfl
  c20 := by kernel_rfl
  c21 := by kernel_rfl
  c37 := by kernel_rfl
  c46 := by kernel_rfl
  c51 := by kernel_rfl
  c53 := by kernel_rfl
  c75 := by kernel_rfl
  c80 := by kernel_rfl
  c85 := by kernel_rfl
  c127 := by kernel_rfl
  c143 := by kernel_rfl
  c145 := by kernel_rfl
  c167 := by kernel_rfl
  c168 := by kernel_rfl
  c171 := by kernel_rfl
  c173 := by kernel_rfl
  c175 := by kernel_rfl
  c210 := by kernel_rfl
  c212 := by kernel_rfl
  c213 := by kernel_rfl
  c232 := by kernel_rfl
  c233 := by kernel_rfl }
open Go.RowKit in
theorem l_strconv_ParseInt_10_at64_ok (s : ByteArray) (hmax : s.size ≤ 9223372036854775806) (v : Int) (h : Lib.parseIntB 64 s.data.toList = .ok v) (w : World) :
    Calls Tryz.prog 63 #[.string s, .int .i64 10, .int .i64 64] w fun e w' => e = .returned (.tuple #[.int .i64 v, .nilIface]) ∧ (w' = w ∨ ∃ t, w' = Lib.bytesWorld w 5 t) := Any.strconv_ParseInt_10_at64_ok l_laysC174 s hmax v h w
end Go.Proofs.YtoilkfohhhidpaaGreatDoor.ShelfB
/- numbers as texts by the library: Itoa, FormatInt, ParseInt, Atoi, in the words of K -/
namespace Go.Proofs.YtoilkfohhhidpaaGreatDoor
open Go.RowKit
theorem itoa_txt (n : Int) : Lib.itoa n = K.txt n := by
  unfold Lib.itoa K.txt
  split
  · rw [decDigits_dgs]
  · rw [decDigits_dgs]; congr 1; omega
theorem dv_cons (c : UInt8) (r : List UInt8) : K.dv (c :: r) = K.dv r + 10 ^ r.length * (c.toNat - 48) := by
  have h := K.dv_append [c] r
  rw [List.singleton_append] at h
  have h2 := K.dv_snoc [] c
  rw [List.nil_append, K.dv_nil] at h2
  rw [h, show K.dv [c] = c.toNat - 48 by omega]
theorem dig_mem {c : UInt8} {r : List UInt8} (h : (c :: r).all K.dig = true) : (48 ≤ c.toNat ∧ c.toNat ≤ 57) ∧ r.all K.dig = true := by
  rw [List.all_cons, Bool.and_eq_true] at h
  exact ⟨by have := h.1; unfold K.dig at this; simpa using this, h.2⟩
theorem parseM_ok : ∀ (l : List UInt8) (acc : Nat), l.all K.dig = true → (acc + 1) * 10 ^ l.length ≤ 1000000000000000000 → Lib.parseUintM 18446744073709551615 acc l = .ok (acc * 10 ^ l.length + K.dv l)
  | [], acc, _, _ => by rw [Lib.parseUintM, K.dv_nil]; simp
  | c :: r, acc, hd, hb => by
    obtain ⟨hc, hr⟩ := dig_mem hd
    have hp : 1 ≤ 10 ^ r.length := Nat.pow_pos (by omega)
    have e : (acc + 1) * 10 ^ (c :: r).length = ((acc + 1) * 10) * 10 ^ r.length := by rw [List.length_cons, Nat.pow_succ, Nat.mul_comm (10 ^ r.length) 10, Nat.mul_assoc]
    rw [e] at hb
    have h1 : (acc + 1) * 10 ≤ 1000000000000000000 := Nat.le_trans (Nat.le_mul_of_pos_right _ hp) hb
    rw [Lib.parseUintM, if_pos hc, if_neg (by omega), if_neg (by omega)]
    have h2 : (acc * 10 + (c.toNat - 48) + 1) * 10 ^ r.length ≤ 1000000000000000000 := Nat.le_trans (Nat.mul_le_mul_right _ (by omega)) hb
    rw [parseM_ok r _ hr h2, dv_cons, List.length_cons, Nat.pow_succ, Nat.add_mul, Nat.mul_assoc, Nat.mul_comm 10 (10 ^ r.length), Nat.mul_comm (c.toNat - 48)]
    congr 1
    omega
theorem decFrom_ok : ∀ (l : List UInt8) (acc : Nat), l.all K.dig = true → Lib.decFrom acc l = some (acc * 10 ^ l.length + K.dv l)
  | [], acc, _ => by rw [Lib.decFrom, K.dv_nil]; simp
  | c :: r, acc, hd => by
    obtain ⟨hc, hr⟩ := dig_mem hd
    rw [Lib.decFrom]
    have e : Lib.digitVal c = some (c.toNat - 48) := by unfold Lib.digitVal; rw [if_pos hc]
    rw [e]
    show Lib.decFrom (acc * 10 + (c.toNat - 48)) r = _
    rw [decFrom_ok r _ hr, dv_cons, List.length_cons, Nat.pow_succ, Nat.add_mul, Nat.mul_assoc, Nat.mul_comm 10 (10 ^ r.length), Nat.mul_comm (c.toNat - 48)]
    congr 1
    omega
/-- a valid text, by its sign -/
theorem valid_shape {l : List UInt8} (h : K.validL l = true) : (∃ r, l = 45 :: r ∧ r.all K.dig = true ∧ 0 < r.length ∧ K.numL l = -(K.dv r : Int)) ∨ (∃ c r, l = c :: r ∧ 48 ≤ c.toNat ∧ c.toNat ≤ 57 ∧ (c :: r).all K.dig = true ∧ K.numL l = (K.dv (c :: r) : Int)) := by
  obtain ⟨hd, -, hpos⟩ := body_all h
  cases l with
  | nil => cases h
  | cons c r =>
    by_cases hc : c = 45
    · subst hc
      have hb : K.body (45 :: r) = r := rfl
      rw [hb] at hd hpos
      exact .inl ⟨r, rfl, hd, hpos, rfl⟩
    · have hh : ¬ (c :: r).head? = some 45 := by simpa using hc
      have hb : K.body (c :: r) = c :: r := by unfold K.body; rw [if_neg hh]
      rw [hb] at hd
      obtain ⟨h1, -⟩ := dig_mem hd
      exact .inr ⟨c, r, rfl, h1.1, h1.2, hd, by unfold K.numL; rw [if_neg hh]⟩
theorem parse64_ok {l : List UInt8} (h : K.validL l = true) (hl : l.length ≤ 17) : Lib.parseIntB 64 l = .ok (K.numL l) := by
  have hp : ∀ r : List UInt8, r.all K.dig = true → r.length ≤ 17 → K.dv r < 1000000000000000000 ∧ (0 + 1) * 10 ^ r.length ≤ 1000000000000000000 := by
    intro r hr hlr
    have h1 := K.dv_lt r hr
    have h2 : 10 ^ r.length ≤ 10 ^ 17 := Nat.pow_le_pow_right (by omega) hlr
    omega
  rcases valid_shape h with ⟨r, rfl, hr, h0, hn⟩ | ⟨c, r, rfl, h1, h2, hr, hn⟩
  · obtain ⟨h3, h4⟩ := hp r hr (by rw [List.length_cons] at hl; omega)
    have hne : r ≠ [] := List.length_pos_iff.1 h0
    have e : Lib.parseUintB 64 r = .ok (K.dv r) := by
      unfold Lib.parseUintB
      rw [if_neg hne]
      have := parseM_ok r 0 hr h4
      rw [Nat.zero_mul, Nat.zero_add] at this
      exact this
    rw [hn]
    show Lib.parseIntB 64 (45 :: r) = _
    unfold Lib.parseIntB
    simp only [e, show (45 : UInt8).toNat = 45 from rfl]
    rw [if_pos (.inr trivial), e]
    show (if ¬True ∧ 2 ^ (64 - 1) ≤ K.dv r then Lib.NumEnd.range else if True ∧ 2 ^ (64 - 1) < K.dv r then Lib.NumEnd.range else Lib.NumEnd.ok (if True then -(K.dv r : Int) else (K.dv r : Int))) = _
    have p63 : (2 : Nat) ^ (64 - 1) = 9223372036854775808 := rfl
    rw [p63, if_neg (by simp), if_neg (by simp; omega), if_pos trivial]
  · obtain ⟨h3, h4⟩ := hp (c :: r) hr hl
    have e : Lib.parseUintB 64 (c :: r) = .ok (K.dv (c :: r)) := by
      unfold Lib.parseUintB
      rw [if_neg (by simp)]
      have := parseM_ok (c :: r) 0 hr h4
      rw [Nat.zero_mul, Nat.zero_add] at this
      exact this
    rw [hn]
    unfold Lib.parseIntB
    have n1 : ¬ (c.toNat = 43 ∨ c.toNat = 45) := by omega
    have n2 : ¬ c.toNat = 45 := by omega
    simp only [n2]
    rw [if_neg (by simp; omega), e]
    show (if ¬False ∧ 2 ^ (64 - 1) ≤ K.dv (c :: r) then Lib.NumEnd.range else if False ∧ 2 ^ (64 - 1) < K.dv (c :: r) then Lib.NumEnd.range else Lib.NumEnd.ok (if False then -(K.dv (c :: r) : Int) else (K.dv (c :: r) : Int))) = _
    have p63 : (2 : Nat) ^ (64 - 1) = 9223372036854775808 := rfl
    rw [p63, if_neg (by simp; omega), if_neg (by simp), if_neg (by simp)]
theorem atoi_ok {l : List UInt8} (h : K.validL l = true) : Lib.atoi l = some (K.numL l) := by
  rcases valid_shape h with ⟨r, rfl, hr, h0, hn⟩ | ⟨c, r, rfl, h1, h2, hr, hn⟩
  · have hne : r.isEmpty = false := by cases r with
      | nil => simp at h0
      | cons => rfl
    rw [hn]
    unfold Lib.atoi Lib.decNat
    simp [hne, decFrom_ok r 0 hr]
  · rw [hn]
    have n1 : (c == 45) = false := by rw [beq_eq_false_iff_ne]; intro e; subst e; simp at h1
    have n2 : (c == 43) = false := by rw [beq_eq_false_iff_ne]; intro e; subst e; simp at h1
    unfold Lib.atoi Lib.decNat
    simp [n1, n2, decFrom_ok (c :: r) 0 hr]
theorem data_Str (l : List UInt8) : (Str l).data.toList = l := by simp [Str]
theorem itoa_any (n : Int) (w : World) (h0 : -9223372036854775808 ≤ n) (h1 : n ≤ 9223372036854775807) (ht : Tab w) :
    Calls Tryz.prog 66 #[.int .i64 n] w (StrPost (K.txt n) w) := by
  refine (ShelfB.l_strconv_Itoa n h0 h1 w ht).mono ?_
  rintro e w' ⟨rfl, k, os, rfl⟩
  exact ⟨by rw [itoa_txt]; rfl, Lib.below_grow _ _ (Nat.le_refl _) _ _⟩
theorem format_any (n : Int) (w : World) (h0 : -9223372036854775808 ≤ n) (h1 : n ≤ 9223372036854775807) (ht : Tab w) :
    Calls Tryz.prog 64 #[.int .i64 n, .int .i64 10] w (StrPost (K.txt n) w) := by
  refine (ShelfB.l_strconv_FormatInt_10 n h0 h1 w ht).mono ?_
  rintro e w' ⟨rfl, k, os, rfl⟩
  exact ⟨by rw [itoa_txt]; rfl, Lib.below_grow _ _ (Nat.le_refl _) _ _⟩
theorem parse64_any (l : List UInt8) (w : World) (hv : K.validL l = true) (hl : l.length ≤ 17) :
    Calls Tryz.prog 63 #[.string (Str l), .int .i64 10, .int .i64 64] w (fun e w' => e = .returned (.tuple #[.int .i64 (K.numL l), .nilIface]) ∧ Ext w w') := by
  refine (ShelfB.l_strconv_ParseInt_10_at64_ok (Str l) (by rw [Str_size]; omega) (K.numL l) (by rw [data_Str]; exact parse64_ok hv hl) w).mono ?_
  rintro e w' ⟨rfl, h⟩
  refine ⟨rfl, ?_⟩
  rcases h with rfl | ⟨t, rfl⟩
  · exact Ext.rfl' _
  · exact Lib.bytesWorld_below _ _ _
theorem atoi_any (l : List UInt8) (w : World) (hv : K.validL l = true) (hl : l.length ≤ 17) :
    Calls Tryz.prog 67 #[.string (Str l)] w (fun e w' => e = .returned (.tuple #[.int .i64 (K.numL l), .nilIface]) ∧ Ext w w') := by
  refine (ShelfB.l_strconv_Atoi (Str l) (K.numL l) (by rw [Str_size]; omega) (by rw [data_Str]; exact atoi_ok hv) w).mono ?_
  rintro e w' ⟨rfl, t, rfl⟩
  exact ⟨rfl, Lib.bytesWorld_below _ _ _⟩
end Go.Proofs.YtoilkfohhhidpaaGreatDoor
