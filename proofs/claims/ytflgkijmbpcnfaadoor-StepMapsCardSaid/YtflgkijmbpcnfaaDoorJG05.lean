/- Joined texts: num.combine, Add, Sub, Mul, Gcd; num.Compare, Power, Rest; num.Divide; katabasisref01.Valid; the law package's helpers: texts of numbers, Power at two inputs; maps: plain mathematics; Contracts of the library, laid over this dump's numbers.; numbers as texts by the library: Itoa, FormatInt, ParseInt, Atoi, in the words of K; the reference's trim; the reference's Parse and Sign; the reference's part and more; the reference's size; the reference's less; plain facts on lists of parts: a part that is set; products, quotients and digits by rounds; the reference's Minus; the reference's Add; the reference's Mul; the reference's Add, of any two numbers; the reference's Sub; the reference's Sign; Parse of a valid text; the reference's Cmp. -/
import Derived.Test.YtflgkijmbpcnfaaDoorJG04
import Derived.Shelf.Small.Wraps
import Derived.Shelf.Strconv.Atoi
import Derived.Shelf.Strconv.Itoa0
import Derived.Shelf.Strconv.Itoa1
import Derived.Shelf.LaysM
import Derived.Shelf.Strconv.Itoa2
import Derived.Shelf.Strconv.Itoa3
import Derived.Shelf.Strconv.Itoa4
import Derived.Shelf.Strconv.AtoiErrFast
import Derived.Shelf.Strconv.ParseIntEmpty
import Derived.Shelf.Strconv.AtoiFail
import Derived.Shelf.Strconv.Clone
import Derived.Shelf.Strconv.SyntaxError
import Derived.Shelf.LaysC
import Derived.Shelf.Strconv.ToError
import Derived.Shelf.Strconv.Lower
import Derived.Shelf.Strconv.ParseUint10
import Derived.Shelf.Strconv.ParseUint10Empty
import Derived.Shelf.Strconv.ParseUint10Any
import Derived.Shelf.Strconv.ParseInt10
import Derived.Shelf.Strconv.AtoiLong
import Derived.Shelf.Strconv.AtoiInnerAll
import Derived.Shelf.Strconv.RangeError
import Derived.Shelf.Strconv.ToErrorRange
import Derived.Shelf.Strconv.AtoiAll
import Derived.Shelf.Strconv.ParseUintEmpty
import Derived.Shelf.Strconv.ParseUint10b64
import Derived.Shelf.Strconv.ParseUint10b32
import Derived.Shelf.Strconv.ParseUint10b16
import Derived.Shelf.Strconv.ParseUint10b8
import Derived.Shelf.Strconv.ParseUint10At
import Derived.Shelf.Strconv.ParseInt10At64
import Derived.Shelf.Strconv.ParseInt10At32
import Derived.Shelf.Strconv.ParseInt10At16
import Derived.Shelf.Strconv.ParseInt10At8
import Derived.Shelf.Strconv.ParseInt10All
import Derived.Shelf.Strconv.ParseIntPublic10
import Derived.Shelf.Strconv.AppendUint10
import Derived.Shelf.Strconv.AppendInt10
import Derived.Shelf.Strings.Prefix
import Derived.Ground.Names2Prog
import Derived.Shelf.Slices.SearchI
import Derived.Test.YtflgkijmbpcnfaaDoorProg
import Derived.Lib.AppendIntMem
import Derived.Lib.SmallJoins
import Derived.Lib.AtoiErrMem
import Derived.Test.YtflgkijmbpcnfaaDoorJG01
import Derived.Test.YtflgkijmbpcnfaaDoorJG03
import Derived.Laws.AppendOwn
import Derived.Maps.AppendAt
import Derived.Test.YtflgkijmbpcnfaaDoorJG02
import Derived.IntWalk
set_option linter.unusedSimpArgs false
set_option linter.unusedVariables false
/- num.combine, Add, Sub, Mul, Gcd -/
namespace Go.Proofs.YtflgkijmbpcnfaaDoor
open Go.RowKit
theorem enter_of {P : Program} {f : FuncId} {fn : Func} (hf : P.funcs[f]? = some fn) (hname : (fn.name == "runtime.NumGoroutine") = false) (hb : fn.body.isSome = true) (args : Array Value) (w : World) :
    (callFunc f args).run P w = .ok (.enter f args) w := by
  obtain ⟨c, hc⟩ := Option.isSome_iff_exists.1 hb
  have h1 : fn.name ≠ "runtime.NumGoroutine" := by simpa using hname
  simp [callFunc, hf, h1, hc]
def BadStr (w : World) (e : Ending) (w' : World) : Prop := e = .returned (.tuple #[.string ⟨#[]⟩, .int .i64 1]) ∧ Ext w w'
theorem told_step {n : Int} {w w1 : World} {e : Ending} {w' : World} (h : Ext w w1) (k : ToldPost n w1 e w') : ToldPost n w e w' := ⟨k.1, k.2.1, h.step k.2.2⟩
set_option maxRecDepth 100000 in
set_option maxHeartbeats 800000 in
theorem combine_ok (f : FuncId) (hcf : ∀ args W, (callFunc f args).run Tryd.prog W = .ok (.enter f args) W) (k : Int) (l1 l2 : List UInt8) (w : World) (h1 : l1.length ≤ 140737488351232) (h2 : l2.length ≤ 140737488351232) (v1 : K.validL l1 = true) (v2 : K.validL l2 = true) (ht : Tab w)
    (hop : Hid (∀ W va vb, NumV W va (K.numL l1) → NumV W vb (K.numL l2) → Calls Tryd.prog f #[va, vb] W (NumPost k W))) (hk : k.natAbs ≤ BIG) :
    Calls Tryd.prog 73 #[.string (Str l1), .string (Str l2), .func (.func f) #[] #[]] w (ToldPost k w) := by
  go_enter Tryd.func73, Tryd.ntmps73
  go_wp2_with fail
  refine (both_ok l1 l2 w h1 h2 v1 v2).mono ?_
  rintro e w1 ⟨⟨y1, y2, rfl, ⟨z1, b1, rfl, hb1, hz1⟩, ⟨z2, b2, rfl, hb2, hz2⟩⟩, hx1⟩
  obtain ⟨A1, k1, c1, rfl⟩ := hz1.slice
  obtain ⟨A2, k2, c2, rfl⟩ := hz2.slice
  have hE : Ext w1 ((w1.alloc (.cells #[.bool b1, .slice A1 k1 c1] 62)).alloc (.cells #[.bool b2, .slice A2 k2 c2] 62)) := ((Ext.rfl' w1).alloc' _).alloc' _
  have n1 := (NumV.mk' hb1 hz1).ext hE
  have n2 := (NumV.mk' hb2 hz2).ext hE
  have hE2 := hx1.step hE
  clear hb1 hz1 hb2 hz2 hx1 hE
  go_wp2_with fail
  refine (hop.out _ _ _ n1 n2).mono ?_
  rintro e w2 ⟨v, rfl, hv, hx2⟩
  go_wp2_with fail
  refine (write_any v k w2 hv hk (ht.ext (hE2.step hx2))).mono ?_
  intro e w3 hp
  have hq := told_step (hE2.step hx2) hp
  clear hE2 hx2 n1 n2 hv hp
  by_cases hf : K.fits k
  · have he := hq.1 hf
    subst he
    go_wp2
    go_ret2
    exact hq
  · have he := hq.2.1 hf
    subst he
    go_wp2
    go_ret2
    exact hq
set_option maxRecDepth 100000 in
set_option maxHeartbeats 800000 in
theorem combine_bad (f : Value) (l1 l2 : List UInt8) (w : World) (h1 : l1.length ≤ 140737488351232) (h2 : l2.length ≤ 140737488351232) (v : K.validL l1 = false ∨ K.validL l2 = false) :
    Calls Tryd.prog 73 #[.string (Str l1), .string (Str l2), f] w (BadStr w) := by
  have hb : Calls Tryd.prog 29 #[.string (Str l1), .string (Str l2)] w (BothBad w) := by
    cases h : K.validL l1 with
    | false => exact both_bad1 l1 l2 w h1 h
    | true =>
      rcases v with v | v
      · rw [h] at v; cases v
      · exact both_bad2 l1 l2 w h1 h2 h v
  have HB := hid hb
  clear hb
  go_enter Tryd.func73, Tryd.ntmps73
  go_wp2_with fail
  refine HB.out.mono ?_
  rintro e w1 ⟨rfl, hx1⟩
  go_wp2
  go_ret2
  exact ⟨rfl, (hx1.alloc' _).alloc' _⟩
set_option maxRecDepth 100000 in
theorem add_ok (l1 l2 : List UInt8) (w : World) (h1 : l1.length ≤ 140737488351232) (h2 : l2.length ≤ 140737488351232) (v1 : K.validL l1 = true) (v2 : K.validL l2 = true) (ht : Tab w) :
    Calls Tryd.prog 56 #[.string (Str l1), .string (Str l2)] w (ToldPost (K.numL l1 + K.numL l2) w) := by
  have f1 := fits_top (K.txt_numL l1 v1).2
  have f2 := fits_top (K.txt_numL l2 v2).2
  have g1 := fits_big (K.txt_numL l1 v1).2
  have g2 := fits_big (K.txt_numL l2 v2).2
  have hc := combine_ok 75 (enter_of Tryd.func75 (by kernel_rfl) (by kernel_rfl)) (K.numL l1 + K.numL l2) l1 l2 w h1 h2 v1 v2 ht (hid fun W va vb ha hb => nplus_any va vb _ _ W ha hb g1 g2) (by refine le_big (a := 224) ?_ (by omega); rw [show (224 : Nat) = 223 + 1 from rfl, TOP_add]; have := TOP_pos 223; have : TOP 1 = 1000000000 := rfl; rw [this]; omega)
  have HC := hid hc
  clear hc f1 f2 g1 g2
  go_enter Tryd.func56, Tryd.ntmps56
  go_wp2_with fail
  refine HC.out.mono ?_
  intro e w1 hq
  by_cases hf : K.fits (K.numL l1 + K.numL l2)
  · have he := hq.1 hf
    subst he
    go_wp2
    go_ret2
    exact hq
  · have he := hq.2.1 hf
    subst he
    go_wp2
    go_ret2
    exact hq
set_option maxRecDepth 100000 in
theorem add_bad (l1 l2 : List UInt8) (w : World) (h1 : l1.length ≤ 140737488351232) (h2 : l2.length ≤ 140737488351232) (v : K.validL l1 = false ∨ K.validL l2 = false) :
    Calls Tryd.prog 56 #[.string (Str l1), .string (Str l2)] w (BadStr w) := by
  go_enter Tryd.func56, Tryd.ntmps56
  go_wp2_with fail
  refine (combine_bad _ l1 l2 w h1 h2 v).mono ?_
  rintro e w1 ⟨rfl, hx⟩
  go_wp2
  go_ret2
  exact ⟨rfl, hx⟩
set_option maxRecDepth 100000 in
theorem mul_ok (l1 l2 : List UInt8) (w : World) (h1 : l1.length ≤ 140737488351232) (h2 : l2.length ≤ 140737488351232) (v1 : K.validL l1 = true) (v2 : K.validL l2 = true) (ht : Tab w) :
    Calls Tryd.prog 55 #[.string (Str l1), .string (Str l2)] w (ToldPost (K.numL l1 * K.numL l2) w) := by
  have f1 := fits_top (K.txt_numL l1 v1).2
  have f2 := fits_top (K.txt_numL l2 v2).2
  have g1 := fits_big (K.txt_numL l1 v1).2
  have g2 := fits_big (K.txt_numL l2 v2).2
  have hc := combine_ok 74 (enter_of Tryd.func74 (by kernel_rfl) (by kernel_rfl)) (K.numL l1 * K.numL l2) l1 l2 w h1 h2 v1 v2 ht (hid fun W va vb ha hb => ntimes_any va vb _ _ W ha hb g1 g2) (by rw [Int.natAbs_mul]; exact le_big (mul_top f1 f2) (by omega))
  have HC := hid hc
  clear hc f1 f2 g1 g2
  go_enter Tryd.func55, Tryd.ntmps55
  go_wp2_with fail
  refine HC.out.mono ?_
  intro e w1 hq
  by_cases hf : K.fits (K.numL l1 * K.numL l2)
  · have he := hq.1 hf
    subst he
    go_wp2
    go_ret2
    exact hq
  · have he := hq.2.1 hf
    subst he
    go_wp2
    go_ret2
    exact hq
set_option maxRecDepth 100000 in
theorem mul_bad (l1 l2 : List UInt8) (w : World) (h1 : l1.length ≤ 140737488351232) (h2 : l2.length ≤ 140737488351232) (v : K.validL l1 = false ∨ K.validL l2 = false) :
    Calls Tryd.prog 55 #[.string (Str l1), .string (Str l2)] w (BadStr w) := by
  go_enter Tryd.func55, Tryd.ntmps55
  go_wp2_with fail
  refine (combine_bad _ l1 l2 w h1 h2 v).mono ?_
  rintro e w1 ⟨rfl, hx⟩
  go_wp2
  go_ret2
  exact ⟨rfl, hx⟩
end Go.Proofs.YtflgkijmbpcnfaaDoor
/- num.Compare, Power, Rest -/
namespace Go.Proofs.YtflgkijmbpcnfaaDoor
open Go.RowKit
theorem both_bad (l1 l2 : List UInt8) (w : World) (h1 : l1.length ≤ 140737488351232) (h2 : l2.length ≤ 140737488351232) (v : K.validL l1 = false ∨ K.validL l2 = false) :
    Calls Tryd.prog 29 #[.string (Str l1), .string (Str l2)] w (BothBad w) := by
  cases h : K.validL l1 with
  | false => exact both_bad1 l1 l2 w h1 h
  | true =>
    rcases v with v | v
    · rw [h] at v; cases v
    · exact both_bad2 l1 l2 w h1 h2 h v
set_option maxRecDepth 100000 in
set_option maxHeartbeats 800000 in
theorem compare_ok (l1 l2 : List UInt8) (w : World) (h1 : l1.length ≤ 140737488351232) (h2 : l2.length ≤ 140737488351232) (v1 : K.validL l1 = true) (v2 : K.validL l2 = true) :
    Calls Tryd.prog 25 #[.string (Str l1), .string (Str l2)] w (fun e w' => e = .returned (.tuple #[.int .i64 (sgnI (K.numL l1) (K.numL l2)), .int .i64 0]) ∧ Ext w w') := by
  have g1 := fits_big (K.txt_numL l1 v1).2
  have g2 := fits_big (K.txt_numL l2 v2).2
  go_enter Tryd.func25, Tryd.ntmps25
  go_wp2_with fail
  refine (both_ok l1 l2 w h1 h2 v1 v2).mono ?_
  rintro e w1 ⟨⟨y1, y2, rfl, ⟨z1, b1, rfl, hb1, hz1⟩, ⟨z2, b2, rfl, hb2, hz2⟩⟩, hx1⟩
  obtain ⟨A1, k1, c1, rfl⟩ := hz1.slice
  obtain ⟨A2, k2, c2, rfl⟩ := hz2.slice
  have hE : Ext w1 ((w1.alloc (.cells #[.bool b1, .slice A1 k1 c1] 62)).alloc (.cells #[.bool b2, .slice A2 k2 c2] 62)) := ((Ext.rfl' w1).alloc' _).alloc' _
  have n1 := (NumV.mk' hb1 hz1).ext hE
  have n2 := (NumV.mk' hb2 hz2).ext hE
  have hE2 := hx1.step hE
  clear hb1 hz1 hb2 hz2 hx1 hE
  go_wp2_with fail
  refine (ncmp_any _ _ _ _ _ n1 n2 g1 g2).mono ?_
  rintro e w2 ⟨rfl, hx2⟩
  obtain ⟨sg, hsg⟩ : ∃ sg, sgnI (K.numL l1) (K.numL l2) = sg := ⟨_, rfl⟩
  rw [hsg]
  have HSG := hid hsg
  clear hsg
  go_wp2
  go_ret2
  exact ⟨by rw [HSG.out]; rfl, hE2.step hx2⟩
set_option maxRecDepth 100000 in
set_option maxHeartbeats 800000 in
theorem compare_bad (l1 l2 : List UInt8) (w : World) (h1 : l1.length ≤ 140737488351232) (h2 : l2.length ≤ 140737488351232) (v : K.validL l1 = false ∨ K.validL l2 = false) :
    Calls Tryd.prog 25 #[.string (Str l1), .string (Str l2)] w (fun e w' => e = .returned (.tuple #[.int .i64 0, .int .i64 1]) ∧ Ext w w') := by
  go_enter Tryd.func25, Tryd.ntmps25
  go_wp2_with fail
  refine (both_bad l1 l2 w h1 h2 v).mono ?_
  rintro e w1 ⟨rfl, hx1⟩
  go_wp2
  go_ret2
  exact ⟨rfl, (hx1.alloc' _).alloc' _⟩
end Go.Proofs.YtflgkijmbpcnfaaDoor
/- num.Divide -/
namespace Go.Proofs.YtflgkijmbpcnfaaDoor
open Go.RowKit
def Bad2 (k : Int) (w : World) (e : Ending) (w' : World) : Prop := e = .returned (.tuple #[.string ⟨#[]⟩, .string ⟨#[]⟩, .int .i64 k]) ∧ Ext w w'
set_option maxRecDepth 100000 in
set_option maxHeartbeats 800000 in
theorem divide_form (l1 l2 : List UInt8) (w : World) (h1 : l1.length ≤ 140737488351232) (h2 : l2.length ≤ 140737488351232) (v : K.validL l1 = false ∨ K.validL l2 = false) :
    Calls Tryd.prog 39 #[.string (Str l1), .string (Str l2)] w (Bad2 1 w) := by
  go_enter Tryd.func39, Tryd.ntmps39
  go_wp2_with fail
  refine (both_bad l1 l2 w h1 h2 v).mono ?_
  rintro e w1 ⟨rfl, hx1⟩
  go_wp2
  go_ret3
  exact ⟨rfl, (hx1.alloc' _).alloc' _⟩
set_option maxRecDepth 100000 in
set_option maxHeartbeats 800000 in
theorem divide_arg (l1 l2 : List UInt8) (w : World) (h1 : l1.length ≤ 140737488351232) (h2 : l2.length ≤ 140737488351232) (v1 : K.validL l1 = true) (v2 : K.validL l2 = true) (hn : ¬ 0 < K.numL l2) :
    Calls Tryd.prog 39 #[.string (Str l1), .string (Str l2)] w (Bad2 2 w) := by
  have hd : decide (0 < K.numL l2) = false := decide_eq_false hn
  have HD := hid hd
  clear hd hn
  go_enter Tryd.func39, Tryd.ntmps39
  go_wp2_with fail
  refine (both_ok l1 l2 w h1 h2 v1 v2).mono ?_
  rintro e w1 ⟨⟨y1, y2, rfl, ⟨z1, b1, rfl, hb1, hz1⟩, ⟨z2, b2, rfl, hb2, hz2⟩⟩, hx1⟩
  obtain ⟨A1, k1, c1, rfl⟩ := hz1.slice
  obtain ⟨A2, k2, c2, rfl⟩ := hz2.slice
  have hE : Ext w1 ((w1.alloc (.cells #[.bool b1, .slice A1 k1 c1] 62)).alloc (.cells #[.bool b2, .slice A2 k2 c2] 62)) := ((Ext.rfl' w1).alloc' _).alloc' _
  have n2 := (NumV.mk' hb2 hz2).ext hE
  have hE2 := hx1.step hE
  clear hb1 hz1 hb2 hz2 hx1 hE
  go_wp2_with fail
  refine (positive_any _ _ _ n2).mono ?_
  rintro e w2 ⟨rfl, hx2⟩
  rw [HD.out]
  go_wp2
  go_ret3
  exact ⟨rfl, hE2.step hx2⟩
def DivOk (q r : Int) (w : World) (e : Ending) (w' : World) : Prop := e = .returned (.tuple #[.string (Str (K.txt q)), .string (Str (K.txt r)), .int .i64 0]) ∧ Ext w w'
set_option maxRecDepth 100000 in
set_option maxHeartbeats 1600000 in
theorem divide_ok (l1 l2 : List UInt8) (w : World) (h1 : l1.length ≤ 140737488351232) (h2 : l2.length ≤ 140737488351232) (v1 : K.validL l1 = true) (v2 : K.validL l2 = true) (hn : 0 < K.numL l2) (ht : Tab w) :
    Calls Tryd.prog 39 #[.string (Str l1), .string (Str l2)] w (DivOk (K.numL l1 / K.numL l2) (K.numL l1 % K.numL l2) w) := by
  have g1 := fits_big (K.txt_numL l1 v1).2
  have g2 := fits_big (K.txt_numL l2 v2).2
  have hd : decide (0 < K.numL l2) = true := decide_eq_true hn
  have HD := hid hd
  have hr0 : 0 ≤ K.numL l1 % K.numL l2 := Int.emod_nonneg _ (by omega)
  have hr1 : K.numL l1 % K.numL l2 < K.numL l2 := Int.emod_lt_of_pos _ hn
  have hqb : (K.numL l1 / K.numL l2).natAbs ≤ BIG := Nat.le_trans (Int.natAbs_ediv_le_natAbs _ _) g1
  have hrb : (K.numL l1 % K.numL l2).natAbs ≤ BIG := by omega
  have HQ := hid hqb
  have HR := hid hrb
  clear hd hr0 hr1 hqb hrb
  go_enter Tryd.func39, Tryd.ntmps39
  go_wp2_with fail
  refine (both_ok l1 l2 w h1 h2 v1 v2).mono ?_
  rintro e w1 ⟨⟨y1, y2, rfl, ⟨z1, b1, rfl, hb1, hz1⟩, ⟨z2, b2, rfl, hb2, hz2⟩⟩, hx1⟩
  obtain ⟨A1, k1, c1, rfl⟩ := hz1.slice
  obtain ⟨A2, k2, c2, rfl⟩ := hz2.slice
  have hE : Ext w1 ((w1.alloc (.cells #[.bool b1, .slice A1 k1 c1] 62)).alloc (.cells #[.bool b2, .slice A2 k2 c2] 62)) := ((Ext.rfl' w1).alloc' _).alloc' _
  have n1 := (NumV.mk' hb1 hz1).ext hE
  have n2 := (NumV.mk' hb2 hz2).ext hE
  have hE2 := hx1.step hE
  clear hb1 hz1 hb2 hz2 hx1 hE
  go_wp2_with fail
  refine (positive_any _ _ _ n2).mono ?_
  rintro e w2 ⟨rfl, hx2⟩
  rw [HD.out]
  obtain ⟨f0, f1, f2, f3⟩ := boxes hx2
  go_wp2_with fail
  refine (ndivide_any _ _ _ _ _ (n1.ext hx2) (n2.ext hx2) g1 g2 hn).mono ?_
  rintro e w3 ⟨u1, u2, rfl, ⟨z3, b3, rfl, hb3, hz3⟩, ⟨z4, b4, rfl, hb4, hz4⟩, hx3⟩
  obtain ⟨A3, k3, c3, rfl⟩ := hz3.slice
  obtain ⟨A4, k4, c4, rfl⟩ := hz4.slice
  have hE3 := (hE2.step hx2).step hx3
  have hE4 : Ext w3 ((w3.alloc (.cells #[.bool b3, .slice A3 k3 c3] 62)).alloc (.cells #[.bool b4, .slice A4 k4 c4] 62)) := ((Ext.rfl' w3).alloc' _).alloc' _
  have n3 := (NumV.mk' hb3 hz3).ext hE4
  have n4 := (NumV.mk' hb4 hz4).ext hE4
  have ht4 := ht.ext (hE3.step hE4)
  have hk : ∀ w', Ext ((w3.alloc (.cells #[.bool b3, .slice A3 k3 c3] 62)).alloc (.cells #[.bool b4, .slice A4 k4 c4] 62)) w' → _ := fun w' e => boxes e
  have HK := hid hk
  have N3 := hid n3
  have N4 := hid n4
  have HT := hid ht4
  have HE := hid (hE3.step hE4)
  clear hk n3 n4 ht4 hE3 hE4 hE2 hx2 hx3 hz3 hz4 hb3 hb4 n1 n2 f0 f1 f2 f3 ht
  go_wp2_with fail
  go_region_held3 (fun w' => w'.cell? ⟨w3.heap.size, 0, none⟩ = some (.bool b3) ∧ w'.cell? ⟨w3.heap.size, 1, none⟩ = some (.slice A3 k3 c3) ∧ w'.cell? ⟨w3.heap.size + 1, 0, none⟩ = some (.bool b4) ∧ w'.cell? ⟨w3.heap.size + 1, 1, none⟩ = some (.slice A4 k4 c4))
    (first | go_keep | exact HK.out _ hxa | exact HK.out _ (hxa.step hx6))
    (first | (go_at_call_of 52 (Value.agg #[Value.bool b3, Value.slice A3 k3 c3]); refine (text_any _ _ _ (N3.out.ext ?_) HQ.out (HT.out.ext ?_)).mono ?_; exact (Ext.rfl' _).drew'; exact (Ext.rfl' _).drew'; rintro e w5 ⟨rfl, hx5⟩; have hxa := Ext.undrew hx5; clear hx5) | (go_at_call_of 52 (Value.agg #[Value.bool b4, Value.slice A4 k4 c4]); refine (text_any _ _ _ (N4.out.ext ?_) HR.out (HT.out.ext ?_)).mono ?_; exact hxa; exact hxa; rintro e w6 ⟨rfl, hx6⟩))
  go_wp2
  go_ret3
  exact ⟨rfl, (HE.out.step hxa).step hx6⟩
end Go.Proofs.YtflgkijmbpcnfaaDoor
/- katabasisref01.Valid -/
namespace Go.Proofs.YtflgkijmbpcnfaaDoor
open Go.RowKit
theorem Str_list (l : List UInt8) : (Str l).toList = l := Str_toList l
theorem ne_lit {c d : UInt8} (h : ¬ c = d) : ((c.toNat : Int) == (d.toNat : Int)) = false := by
  rw [beq_eq_false_iff_ne]; intro e; exact h (UInt8.toNat.inj (by omega))
/-- the loop over the digits from 'a' on -/
theorem all_drop {l : List UInt8} {a k : Nat} {c : UInt8} (hk : a ≤ k) (h : l[k]? = some c) (ha : ((l.take k).drop a).all K.dig = true) (hc : K.dig c = true) : ((l.take (k + 1)).drop a).all K.dig = true := by
  obtain ⟨hk', e⟩ := List.getElem?_eq_some_iff.1 h
  rw [List.take_succ_eq_append_getElem hk', e, List.drop_append_of_le_length (by rw [List.length_take]; omega), List.all_append, ha]
  simp [hc]
theorem all_drop_false {l : List UInt8} {a k : Nat} {c : UInt8} (hk : a ≤ k) (h : l[k]? = some c) (hc : K.dig c = false) : (l.drop a).all K.dig = false := by
  rw [List.all_eq_false]
  refine ⟨c, ?_, by simp [hc]⟩
  apply List.mem_of_getElem? (i := k - a)
  rw [List.getElem?_drop, show a + (k - a) = k by omega]
  exact h
theorem body_drop (l : List UInt8) : K.body l = l.drop (if l.head? = some 45 then 1 else 0) := by
  unfold K.body; split <;> simp
end Go.Proofs.YtflgkijmbpcnfaaDoor
/- the law package's helpers: texts of numbers, Power at two inputs -/
namespace Go.Proofs.YtflgkijmbpcnfaaDoor
open Go.RowKit
def told (n : Int) : List UInt8 := if n.natAbs < K.LIM then K.txt n else []
theorem told_fits {n : Int} (h : K.fits n) : told n = K.txt n := if_pos h
theorem told_not {n : Int} (h : ¬ K.fits n) : told n = [] := if_neg h
theorem told_len (n : Int) : (told n).length ≤ 2001 := by
  by_cases h : K.fits n
  · rw [told_fits h]; exact K.txt_len n h
  · rw [told_not h]; simp
def sL (a b : List UInt8) : List UInt8 := if K.validL a = true ∧ K.validL b = true then told (K.numL a + K.numL b) else []
def mL (a b : List UInt8) : List UInt8 := if K.validL a = true ∧ K.validL b = true then told (K.numL a * K.numL b) else []
theorem sL_len (a b : List UInt8) : (sL a b).length ≤ 2001 := by unfold sL; split; exact told_len _; simp
theorem mL_len (a b : List UInt8) : (mL a b).length ≤ 2001 := by unfold mL; split; exact told_len _; simp
theorem not_both {a b : List UInt8} (h : ¬ (K.validL a = true ∧ K.validL b = true)) : K.validL a = false ∨ K.validL b = false := by
  cases h1 : K.validL a <;> cases h2 : K.validL b <;> simp_all
theorem told_any (n : Int) (w : World) {e : Ending} {w' : World} (h : ToldPost n w e w') : ∃ c : Int, e = .returned (.tuple #[.string (Str (told n)), .int .i64 c]) := by
  by_cases hf : K.fits n
  · exact ⟨0, by rw [told_fits hf]; exact h.1 hf⟩
  · exact ⟨3, by rw [told_not hf]; exact h.2.1 hf⟩
def tw (k : Nat) : Nat := 2 ^ k
theorem natAbs_two (k : Nat) : ((2 : Int) ^ k).natAbs = tw k := by unfold tw; rw [Int.natAbs_pow]; rfl
theorem tw_big : K.LIM ≤ tw 10000 := by decide +kernel
theorem not_fits_tw : ¬ K.fits ((2 : Int) ^ 10000) := by
  unfold K.fits; rw [natAbs_two]; exact Nat.not_lt.mpr tw_big
def L100 : List UInt8 := [49, 50, 54, 55, 54, 53, 48, 54, 48, 48, 50, 50, 56, 50, 50, 57, 52, 48, 49, 52, 57, 54, 55, 48, 51, 50, 48, 53, 51, 55, 54]
theorem L100_ok : K.validL L100 = true := by decide +kernel
theorem L100_num : K.numL L100 = (2 : Int) ^ 100 := by decide +kernel
theorem lit_eq {l : List UInt8} {n : Int} (h : K.validL l = true) (e : K.numL l = n) : K.fits n ∧ K.txt n = l := by
  subst e; exact ⟨(K.txt_numL l h).2, (K.txt_numL l h).1⟩
end Go.Proofs.YtflgkijmbpcnfaaDoor
/- maps: plain mathematics -/
namespace Go.Proofs.YtflgkijmbpcnfaaDoor
/-- a rule of a map, at the rest r -/
def ruleP (m r u a : Int) : Prop := 1 ≤ u ∧ u ≤ 999 ∧ -999999 ≤ a ∧ a ≤ 999999 ∧ (u * r + a) % m = 0
instance (n : Int) : Decidable (K.fits n) := by unfold K.fits; infer_instance
instance (m r u a : Int) : Decidable (ruleP m r u a) := by unfold ruleP; infer_instance
def ruleB (m r u a : Int) : Bool := decide (ruleP m r u a)
/-- a valid map -/
def mapP (m : Int) (us ad : List Int) : Prop := 2 ≤ m ∧ m ≤ 12 ∧ (us.length : Int) = m ∧ (ad.length : Int) = m ∧ ∀ r : Nat, r < us.length → ruleP m r (us.getD r 0) (ad.getD r 0)
def mapB (m : Int) (us ad : List Int) : Bool := decide (2 ≤ m ∧ m ≤ 12 ∧ (us.length : Int) = m ∧ (ad.length : Int) = m) && (List.range us.length).all fun r => ruleB m (r : Int) (us.getD r 0) (ad.getD r 0)
theorem mapB_iff (m : Int) (us ad : List Int) : mapB m us ad = true ↔ mapP m us ad := by
  unfold mapB mapP ruleB
  simp only [Bool.and_eq_true, decide_eq_true_eq, List.all_eq_true, List.mem_range]
  constructor
  · rintro ⟨⟨h1, h2, h3, h4⟩, h5⟩; exact ⟨h1, h2, h3, h4, fun r hr => h5 r hr⟩
  · rintro ⟨h1, h2, h3, h4, h5⟩; exact ⟨⟨h1, h2, h3, h4⟩, fun r hr => h5 r hr⟩
theorem tmod_zero {x m : Int} : x.tmod m = 0 ↔ x % m = 0 := by
  rw [← Int.dvd_iff_tmod_eq_zero, Int.dvd_iff_emod_eq_zero]
/-- a step of a map -/
def rOf (m x : Int) : Nat := (x % m).toNat
def stepI (m : Int) (us ad : List Int) (x : Int) : Int := (us.getD (rOf m x) 0 * x + ad.getD (rOf m x) 0) / m
theorem rOf_lt {m x : Int} (h : 0 < m) : (rOf m x : Int) < m ∧ (rOf m x : Int) = x % m := by
  have h1 := Int.emod_nonneg x (show m ≠ 0 by omega)
  have h2 := Int.emod_lt_of_pos x h
  unfold rOf; omega
theorem rule_at {m : Int} {us ad : List Int} (h : mapP m us ad) (x : Int) : ruleP m (rOf m x) (us.getD (rOf m x) 0) (ad.getD (rOf m x) 0) := by
  have h1 := rOf_lt (m := m) (x := x) (by have := h.1; omega)
  exact h.2.2.2.2 _ (by have := h.2.2.1; omega)
/-- the step, by the quotient and the rest -/
theorem stepI_parts {m : Int} {us ad : List Int} (h : mapP m us ad) (x : Int) :
    stepI m us ad x = us.getD (rOf m x) 0 * (x / m) + (us.getD (rOf m x) 0 * (rOf m x : Int) + ad.getD (rOf m x) 0) / m := by
  have hm : 0 < m := by have := h.1; omega
  have h1 := (rOf_lt (m := m) (x := x) hm).2
  unfold stepI
  generalize us.getD (rOf m x) 0 = u
  generalize ad.getD (rOf m x) 0 = a
  rw [h1]
  have h2 : u * x + a = (u * (x % m) + a) + m * (u * (x / m)) := by
    have := Int.mul_ediv_add_emod x m
    have h3 : u * x = u * (m * (x / m)) + u * (x % m) := by rw [← Int.mul_add, this]
    have h4 : u * (m * (x / m)) = m * (u * (x / m)) := by rw [← Int.mul_assoc, Int.mul_comm u m, Int.mul_assoc]
    rw [h3, h4]; omega
  rw [h2, Int.add_mul_ediv_left _ _ (by omega)]
  omega
def fitsB (n : Int) : Bool := decide (K.fits n)
theorem fitsB_yes {n : Int} (h : K.fits n) : fitsB n = true := decide_eq_true h
theorem fitsB_no {n : Int} (h : ¬ K.fits n) : fitsB n = false := decide_eq_false h
theorem fitsB_iff {n : Int} : fitsB n = true ↔ K.fits n := decide_eq_true_iff
/-- the number after some steps, if all of them fit -/
def runO (m : Int) (us ad : List Int) : Nat → Int → Option Int
  | 0, x => some x
  | k + 1, x => if fitsB (stepI m us ad x) = true then runO m us ad k (stepI m us ad x) else none
theorem runO_succ {m : Int} {us ad : List Int} {k : Nat} {x : Int} : runO m us ad (k + 1) x = if fitsB (stepI m us ad x) = true then runO m us ad k (stepI m us ad x) else none := rfl
theorem runO_add (m : Int) (us ad : List Int) : ∀ (k l : Nat) (x : Int), runO m us ad (k + l) x = (runO m us ad k x).bind (runO m us ad l)
  | 0, l, x => by rw [Nat.zero_add]; rfl
  | k + 1, l, x => by
    rw [show k + 1 + l = k + l + 1 by omega, runO_succ, runO_succ]
    split
    · exact runO_add m us ad k l _
    · rfl
theorem runO_snoc (m : Int) (us ad : List Int) (k : Nat) (x : Int) : runO m us ad (k + 1) x = (runO m us ad k x).bind fun y => if fitsB (stepI m us ad y) = true then some (stepI m us ad y) else none := by
  rw [runO_add]; rfl
theorem runO_fits {m : Int} {us ad : List Int} (k : Nat) : ∀ (x y : Int), K.fits x → runO m us ad k x = some y → K.fits y := by
  induction k with
  | zero =>
    intro x y hx h
    have h2 : some x = some y := h
    rw [Option.some.inj h2] at hx
    exact hx
  | succ k ih =>
    intro x y _ h
    rw [runO_succ] at h
    by_cases hf : fitsB (stepI m us ad x) = true
    · rw [if_pos hf] at h
      exact ih _ _ (fitsB_iff.1 hf) h
    · rw [if_neg hf] at h
      exact absurd h (by simp)
/-- the quotient outweighs what is added -/
theorem sum_mono {u q c : Int} (hu : 1 ≤ u) (hq : 2 * c.natAbs ≤ q.natAbs) : ((u - 1) * q).natAbs ≤ (u * q + c).natAbs ∧ ((u - 1) * q + c).natAbs ≤ (u * q + c).natAbs := by
  have e : u * q = (u - 1) * q + q := by rw [Int.sub_mul]; omega
  rw [e]
  obtain ⟨v, hv⟩ := Int.eq_ofNat_of_zero_le (show 0 ≤ u - 1 by omega)
  rw [hv]
  generalize hp : (v : Int) * q = p
  have hs : 0 ≤ q → 0 ≤ p := fun h => by rw [← hp]; exact Int.mul_nonneg (by omega) h
  have hs2 : q ≤ 0 → p ≤ 0 := fun h => by rw [← hp]; exact Int.mul_nonpos_of_nonneg_of_nonpos (by omega) h
  rcases Int.le_total 0 q with h | h
  · have := hs h; omega
  · have := hs2 h; omega
end Go.Proofs.YtflgkijmbpcnfaaDoor
/- Contracts of the library, laid over this dump's numbers. -/
namespace Go.Proofs.YtflgkijmbpcnfaaDoor.ShelfB
open Go.Shelf Go.Proofs
def l_lays172_ren : Go.Shelf.Ren := ⟨fun | 172 => 41 | 244 => 54 | 245 => 48 | 247 => 47 | 279 => 60 | 280 => 61 | 281 => 62 | 282 => 63 | 287 => 59 | 316 => 78 | 171 => 40 | 205 => 79 | 321 => 76 | 322 => 77 | 243 => 53 | 246 => 49 | 283 => 64 | 284 => 65 | 285 => 66 | 286 => 67 | 129 => 81 | 317 => 80 | 318 => 82 | 319 => 83 | 320 => 84 | 337 => 92 | 338 => 93 | n => n, fun | 9 => 9 | 3 => 3 | 75 => 71 | 76 => 78 | 4 => 4 | 5 => 5 | 167 => 92 | 37 => 102 | 0 => 0 | 85 => 72 | 2 => 2 | 168 => 96 | 53 => 81 | 175 => 93 | 46 => 95 | 210 => 116 | 127 => 129 | 145 => 132 | 143 => 130 | 21 => 21 | 171 => 99 | 173 => 103 | 212 => 120 | 51 => 121 | 20 => 20 | 213 => 122 | 232 => 138 | 233 => 139 | 80 => 88 | n => n, fun | 15 => 0 | 16 => 1 | 17 => 2 | 18 => 3 | 19 => 4 | n => n⟩
theorem l_lays172 : Go.Proofs.Lays.n172 Tryd.prog l_lays172_ren := {
  mixed := by kernel_rfl
  f129 := Tryd.func81.trans (congrArg some (by kernel_rfl))
  f171 := Tryd.func40.trans (congrArg some (by kernel_rfl))
  f172 := Tryd.func41.trans (congrArg some (by kernel_rfl))
  f205 := Tryd.func79.trans (congrArg some (by kernel_rfl))
  f243 := Tryd.func53.trans (congrArg some (by kernel_rfl))
  f244 := Tryd.func54.trans (congrArg some (by kernel_rfl))
  f245 := Tryd.func48.trans (congrArg some (by kernel_rfl))
  f246 := Tryd.func49.trans (congrArg some (by kernel_rfl))
  f247 := Tryd.func47.trans (congrArg some (by kernel_rfl))
  f279 := Tryd.func60.trans (congrArg some (by kernel_rfl))
  f280 := Tryd.func61.trans (congrArg some (by kernel_rfl))
  f281 := Tryd.func62.trans (congrArg some (by kernel_rfl))
  f282 := Tryd.func63.trans (congrArg some (by kernel_rfl))
  f283 := Tryd.func64.trans (congrArg some (by kernel_rfl))
  f284 := Tryd.func65.trans (congrArg some (by kernel_rfl))
  f285 := Tryd.func66.trans (congrArg some (by kernel_rfl))
  f286 := Tryd.func67.trans (congrArg some (by kernel_rfl))
  f287 := Tryd.func59.trans (congrArg some (by kernel_rfl))
  f316 := Tryd.func78.trans (congrArg some (by kernel_rfl))
  f317 := Tryd.func80.trans (congrArg some (by kernel_rfl))
  f318 := Tryd.func82.trans (congrArg some (by kernel_rfl))
  f319 := Tryd.func83.trans (congrArg some (by kernel_rfl))
  f320 := Tryd.func84.trans (congrArg some (by kernel_rfl))
  f321 := Tryd.func76.trans (congrArg some (by kernel_rfl))
  f322 := Tryd.func77.trans (congrArg some (by kernel_rfl))
  f337 := Tryd.func92.trans (congrArg some (by kernel_rfl))
  f338 := Tryd.func93.trans (congrArg some (by kernel_rfl))
  t0 := Tryd.underlying0
  a0 := Tryd.isAgg0
  z0 := Tryd.sizeOf0
  v0 := Tryd.zeroValue0
  t2 := Tryd.underlying2
  a2 := Tryd.isAgg2
  z2 := Tryd.sizeOf2
  v2 := Tryd.zeroValue2
  t3 := Tryd.underlying3
  a3 := Tryd.isAgg3
  z3 := Tryd.sizeOf3
  v3 := Tryd.zeroValue3
  t4 := Tryd.underlying4
  a4 := Tryd.isAgg4
  z4 := Tryd.sizeOf4
  v4 := Tryd.zeroValue4
  t5 := Tryd.underlying5
  a5 := Tryd.isAgg5
  z5 := Tryd.sizeOf5
  v5 := Tryd.zeroValue5
  t9 := Tryd.underlying9
  a9 := Tryd.isAgg9
  z9 := Tryd.sizeOf9
  v9 := Tryd.zeroValue9
  t20 := Tryd.underlying20
  a20 := Tryd.isAgg20
  z20 := Tryd.sizeOf20
  v20 := Tryd.zeroValue20
  t21 := Tryd.underlying21
  a21 := Tryd.isAgg21
  z21 := Tryd.sizeOf21
  v21 := Tryd.zeroValue21
  t37 := Tryd.underlying102
  a37 := Tryd.isAgg102
  z37 := Tryd.sizeOf102
  v37 := Tryd.zeroValue102
  t46 := Tryd.underlying95
  a46 := Tryd.isAgg95
  z46 := Tryd.sizeOf95
  v46 := Tryd.zeroValue95
  t51 := Tryd.underlying121
  a51 := Tryd.isAgg121
  z51 := Tryd.sizeOf121
  v51 := Tryd.zeroValue121
  t53 := Tryd.underlying81
  a53 := Tryd.isAgg81
  z53 := Tryd.sizeOf81
  v53 := Tryd.zeroValue81
  t75 := Tryd.underlying71
  a75 := Tryd.isAgg71
  z75 := Tryd.sizeOf71
  v75 := Tryd.zeroValue71
  t76 := Tryd.underlying78
  a76 := Tryd.isAgg78
  z76 := Tryd.sizeOf78
  v76 := Tryd.zeroValue78
  t85 := Tryd.underlying72
  a85 := Tryd.isAgg72
  z85 := Tryd.sizeOf72
  v85 := Tryd.zeroValue72
  t127 := Tryd.underlying129
  a127 := Tryd.isAgg129
  z127 := Tryd.sizeOf129
  v127 := Tryd.zeroValue129
  t143 := Tryd.underlying130
  a143 := Tryd.isAgg130
  z143 := Tryd.sizeOf130
  v143 := Tryd.zeroValue130
  t145 := Tryd.underlying132
  a145 := Tryd.isAgg132
  z145 := Tryd.sizeOf132
  v145 := Tryd.zeroValue132
  t167 := Tryd.underlying92
  a167 := Tryd.isAgg92
  z167 := Tryd.sizeOf92
  v167 := Tryd.zeroValue92
  t168 := Tryd.underlying96
  a168 := Tryd.isAgg96
  z168 := Tryd.sizeOf96
  v168 := Tryd.zeroValue96
  t171 := Tryd.underlying99
  a171 := Tryd.isAgg99
  z171 := Tryd.sizeOf99
  v171 := Tryd.zeroValue99
  t173 := Tryd.underlying103
  a173 := Tryd.isAgg103
  z173 := Tryd.sizeOf103
  v173 := Tryd.zeroValue103
  t175 := Tryd.underlying93
  a175 := Tryd.isAgg93
  z175 := Tryd.sizeOf93
  v175 := Tryd.zeroValue93
  t210 := Tryd.underlying116
  a210 := Tryd.isAgg116
  z210 := Tryd.sizeOf116
  v210 := Tryd.zeroValue116
  t212 := Tryd.underlying120
  a212 := Tryd.isAgg120
  z212 := Tryd.sizeOf120
  v212 := Tryd.zeroValue120
  t213 := Tryd.underlying122
  a213 := Tryd.isAgg122
  z213 := Tryd.sizeOf122
  t232 := Tryd.underlying138
  a232 := Tryd.isAgg138
  z232 := Tryd.sizeOf138
  v232 := Tryd.zeroValue138
  t233 := Tryd.underlying139
  a233 := Tryd.isAgg139
  z233 := Tryd.sizeOf139
  v233 := Tryd.zeroValue139
  g15 := by kernel_rfl
  g16 := by kernel_rfl
  g17 := by kernel_rfl
  g18 := by kernel_rfl
  g19 := by kernel_rfl }
open Go.RowKit in
theorem l_strconv_Atoi (s : ByteArray) (n : Int) (hl : s.size ≤ 18) (h : Lib.atoi s.data.toList = some n) (w : World) :
    Calls Tryd.prog 41 #[.string s] w fun e w' => e = .returned (.tuple #[.int .i64 n, .nilIface]) ∧ ∃ t, w' = Lib.bytesWorld w 5 t := Any.strconv_Atoi l_lays172 s n hl h w
def l_laysM171_ren : Go.Shelf.Ren := ⟨fun | 171 => 40 | 243 => 53 | 246 => 49 | 283 => 64 | 284 => 65 | 285 => 66 | 286 => 67 | 129 => 81 | 317 => 80 | 318 => 82 | 319 => 83 | 320 => 84 | 337 => 92 | 338 => 93 | n => n, fun | 3 => 3 | 9 => 9 | 2 => 2 | 4 => 4 | 171 => 99 | 0 => 0 | 53 => 81 | 37 => 102 | 5 => 5 | 173 => 103 | 212 => 120 | 51 => 121 | 20 => 20 | 213 => 122 | 46 => 95 | 232 => 138 | 233 => 139 | n => n, fun | 17 => 2 | 18 => 3 | 19 => 4 | n => n⟩
theorem l_laysM171 : Go.Proofs.LaysM.n171 Tryd.prog l_laysM171_ren := {
  mixed := by kernel_rfl
  f129 := Tryd.func81.trans (congrArg some (by kernel_rfl))
  f171 := Tryd.func40.trans (congrArg some (by kernel_rfl))
  f243 := Tryd.func53.trans (congrArg some (by kernel_rfl))
  f246 := Tryd.func49.trans (congrArg some (by kernel_rfl))
  f283 := Tryd.func64.trans (congrArg some (by kernel_rfl))
  f284 := Tryd.func65.trans (congrArg some (by kernel_rfl))
  f285 := Tryd.func66.trans (congrArg some (by kernel_rfl))
  f286 := Tryd.func67.trans (congrArg some (by kernel_rfl))
  f317 := Tryd.func80.trans (congrArg some (by kernel_rfl))
  f318 := Tryd.func82.trans (congrArg some (by kernel_rfl))
  f319 := Tryd.func83.trans (congrArg some (by kernel_rfl))
  f320 := Tryd.func84.trans (congrArg some (by kernel_rfl))
  f337 := Tryd.func92.trans (congrArg some (by kernel_rfl))
  f338 := Tryd.func93.trans (congrArg some (by kernel_rfl))
  t0 := Tryd.underlying0
  a0 := Tryd.isAgg0
  z0 := Tryd.sizeOf0
  v0 := Tryd.zeroValue0
  t2 := Tryd.underlying2
  a2 := Tryd.isAgg2
  z2 := Tryd.sizeOf2
  v2 := Tryd.zeroValue2
  t3 := Tryd.underlying3
  a3 := Tryd.isAgg3
  z3 := Tryd.sizeOf3
  v3 := Tryd.zeroValue3
  t4 := Tryd.underlying4
  a4 := Tryd.isAgg4
  z4 := Tryd.sizeOf4
  v4 := Tryd.zeroValue4
  t5 := Tryd.underlying5
  a5 := Tryd.isAgg5
  z5 := Tryd.sizeOf5
  v5 := Tryd.zeroValue5
  t9 := Tryd.underlying9
  a9 := Tryd.isAgg9
  z9 := Tryd.sizeOf9
  v9 := Tryd.zeroValue9
  t20 := Tryd.underlying20
  a20 := Tryd.isAgg20
  z20 := Tryd.sizeOf20
  v20 := Tryd.zeroValue20
  t37 := Tryd.underlying102
  a37 := Tryd.isAgg102
  z37 := Tryd.sizeOf102
  v37 := Tryd.zeroValue102
  t46 := Tryd.underlying95
  a46 := Tryd.isAgg95
  z46 := Tryd.sizeOf95
  v46 := Tryd.zeroValue95
  t51 := Tryd.underlying121
  a51 := Tryd.isAgg121
  z51 := Tryd.sizeOf121
  v51 := Tryd.zeroValue121
  t53 := Tryd.underlying81
  a53 := Tryd.isAgg81
  z53 := Tryd.sizeOf81
  v53 := Tryd.zeroValue81
  t171 := Tryd.underlying99
  a171 := Tryd.isAgg99
  z171 := Tryd.sizeOf99
  v171 := Tryd.zeroValue99
  t173 := Tryd.underlying103
  a173 := Tryd.isAgg103
  z173 := Tryd.sizeOf103
  v173 := Tryd.zeroValue103
  t212 := Tryd.underlying120
  a212 := Tryd.isAgg120
  z212 := Tryd.sizeOf120
  v212 := Tryd.zeroValue120
  t213 := Tryd.underlying122
  a213 := Tryd.isAgg122
  z213 := Tryd.sizeOf122
  t232 := Tryd.underlying138
  a232 := Tryd.isAgg138
  z232 := Tryd.sizeOf138
  v232 := Tryd.zeroValue138
  t233 := Tryd.underlying139
  a233 := Tryd.isAgg139
  z233 := Tryd.sizeOf139
  v233 := Tryd.zeroValue139
  g17 := by kernel_rfl
  g18 := by kernel_rfl
  g19 := by kernel_rfl
  i0 := by kernel_rfl
  i2 := by kernel_rfl
  i3 := by kernel_rfl
  i4 := by kernel_rfl
  i5 := by kernel_rfl
  i9 := by kernel_rfl
  i20 := by kernel_rfl
  i37 := by kernel_rfl
  i46 := by kernel_rfl
  i51 := by kernel_rfl
  i53 := by kernel_rfl
  i171 := by kernel_rfl
  i173 := by kernel_rfl
  i212 := by kernel_rfl
  i232 := by kernel_rfl
  i233 := by kernel_rfl
  m17 := by kernel_rfl
  m18 := by kernel_rfl
  m19 := by kernel_rfl }
open Go.RowKit Go.Sort Go.Lib in
theorem l_strconv_Itoa (n : Int) (h0 : -9223372036854775808 ≤ n) (h1 : n ≤ 9223372036854775807) (w : World) (htab : Lib.TabIs Tryd.prog w "internal/strconv.uint64pow10" .u64 Lib.pow10Tab) :
    Calls Tryd.prog 40 #[.int .i64 n] w fun e w' => e = .returned (.string ⟨(Lib.itoa n).toArray⟩) ∧ ∃ k os, w' = grow (w.drewN k) os := Any.strconv_Itoa l_laysM171 n h0 h1 w htab
def l_laysM173_ren : Go.Shelf.Ren := ⟨fun | 173 => 38 | 246 => 49 | 283 => 64 | 284 => 65 | 285 => 66 | 286 => 67 | 129 => 81 | 317 => 80 | 318 => 82 | 319 => 83 | 320 => 84 | 337 => 92 | 338 => 93 | n => n, fun | 2 => 2 | 3 => 3 | 9 => 9 | 4 => 4 | 171 => 99 | 0 => 0 | 53 => 81 | 37 => 102 | 5 => 5 | 173 => 103 | 212 => 120 | 51 => 121 | 20 => 20 | 213 => 122 | 46 => 95 | 232 => 138 | 233 => 139 | n => n, fun | 17 => 2 | 18 => 3 | 19 => 4 | n => n⟩
theorem l_laysM173 : Go.Proofs.LaysM.n173 Tryd.prog l_laysM173_ren := {
  mixed := by kernel_rfl
  f129 := Tryd.func81.trans (congrArg some (by kernel_rfl))
  f173 := Tryd.func38.trans (congrArg some (by kernel_rfl))
  f246 := Tryd.func49.trans (congrArg some (by kernel_rfl))
  f283 := Tryd.func64.trans (congrArg some (by kernel_rfl))
  f284 := Tryd.func65.trans (congrArg some (by kernel_rfl))
  f285 := Tryd.func66.trans (congrArg some (by kernel_rfl))
  f286 := Tryd.func67.trans (congrArg some (by kernel_rfl))
  f317 := Tryd.func80.trans (congrArg some (by kernel_rfl))
  f318 := Tryd.func82.trans (congrArg some (by kernel_rfl))
  f319 := Tryd.func83.trans (congrArg some (by kernel_rfl))
  f320 := Tryd.func84.trans (congrArg some (by kernel_rfl))
  f337 := Tryd.func92.trans (congrArg some (by kernel_rfl))
  f338 := Tryd.func93.trans (congrArg some (by kernel_rfl))
  t0 := Tryd.underlying0
  a0 := Tryd.isAgg0
  z0 := Tryd.sizeOf0
  v0 := Tryd.zeroValue0
  t2 := Tryd.underlying2
  a2 := Tryd.isAgg2
  z2 := Tryd.sizeOf2
  v2 := Tryd.zeroValue2
  t3 := Tryd.underlying3
  a3 := Tryd.isAgg3
  z3 := Tryd.sizeOf3
  v3 := Tryd.zeroValue3
  t4 := Tryd.underlying4
  a4 := Tryd.isAgg4
  z4 := Tryd.sizeOf4
  v4 := Tryd.zeroValue4
  t5 := Tryd.underlying5
  a5 := Tryd.isAgg5
  z5 := Tryd.sizeOf5
  v5 := Tryd.zeroValue5
  t9 := Tryd.underlying9
  a9 := Tryd.isAgg9
  z9 := Tryd.sizeOf9
  v9 := Tryd.zeroValue9
  t20 := Tryd.underlying20
  a20 := Tryd.isAgg20
  z20 := Tryd.sizeOf20
  v20 := Tryd.zeroValue20
  t37 := Tryd.underlying102
  a37 := Tryd.isAgg102
  z37 := Tryd.sizeOf102
  v37 := Tryd.zeroValue102
  t46 := Tryd.underlying95
  a46 := Tryd.isAgg95
  z46 := Tryd.sizeOf95
  v46 := Tryd.zeroValue95
  t51 := Tryd.underlying121
  a51 := Tryd.isAgg121
  z51 := Tryd.sizeOf121
  v51 := Tryd.zeroValue121
  t53 := Tryd.underlying81
  a53 := Tryd.isAgg81
  z53 := Tryd.sizeOf81
  v53 := Tryd.zeroValue81
  t171 := Tryd.underlying99
  a171 := Tryd.isAgg99
  z171 := Tryd.sizeOf99
  v171 := Tryd.zeroValue99
  t173 := Tryd.underlying103
  a173 := Tryd.isAgg103
  z173 := Tryd.sizeOf103
  v173 := Tryd.zeroValue103
  t212 := Tryd.underlying120
  a212 := Tryd.isAgg120
  z212 := Tryd.sizeOf120
  v212 := Tryd.zeroValue120
  t213 := Tryd.underlying122
  a213 := Tryd.isAgg122
  z213 := Tryd.sizeOf122
  t232 := Tryd.underlying138
  a232 := Tryd.isAgg138
  z232 := Tryd.sizeOf138
  v232 := Tryd.zeroValue138
  t233 := Tryd.underlying139
  a233 := Tryd.isAgg139
  z233 := Tryd.sizeOf139
  v233 := Tryd.zeroValue139
  g17 := by kernel_rfl
  g18 := by kernel_rfl
  g19 := by kernel_rfl
  i0 := by kernel_rfl
  i2 := by kernel_rfl
  i3 := by kernel_rfl
  i4 := by kernel_rfl
  i5 := by kernel_rfl
  i9 := by kernel_rfl
  i20 := by kernel_rfl
  i37 := by kernel_rfl
  i46 := by kernel_rfl
  i51 := by kernel_rfl
  i53 := by kernel_rfl
  i171 := by kernel_rfl
  i173 := by kernel_rfl
  i212 := by kernel_rfl
  i232 := by kernel_rfl
  i233 := by kernel_rfl
  m17 := by kernel_rfl
  m18 := by kernel_rfl
  m19 := by kernel_rfl }
open Go.RowKit Go.Sort Go.Lib in
theorem l_strconv_FormatInt_10 (n : Int) (h0 : -9223372036854775808 ≤ n) (h1 : n ≤ 9223372036854775807) (w : World) (htab : Lib.TabIs Tryd.prog w "internal/strconv.uint64pow10" .u64 Lib.pow10Tab) :
    Calls Tryd.prog 38 #[.int .i64 n, .int .i64 10] w fun e w' => e = .returned (.string ⟨(Lib.itoa n).toArray⟩) ∧ ∃ k os, w' = grow (w.drewN k) os := Any.strconv_FormatInt_10 l_laysM173 n h0 h1 w htab
def l_laysC174_ren : Go.Shelf.Ren := ⟨fun | 174 => 37 | 247 => 47 | 245 => 48 | 287 => 59 | 279 => 60 | 280 => 61 | 281 => 62 | 282 => 63 | 321 => 76 | 322 => 77 | 316 => 78 | 171 => 40 | 205 => 79 | 243 => 53 | 246 => 49 | 283 => 64 | 284 => 65 | 285 => 66 | 286 => 67 | 129 => 81 | 317 => 80 | 318 => 82 | 319 => 83 | 320 => 84 | 337 => 92 | 338 => 93 | n => n, fun | 9 => 9 | 3 => 3 | 2 => 2 | 75 => 71 | 85 => 72 | 4 => 4 | 167 => 92 | 5 => 5 | 53 => 81 | 175 => 93 | 46 => 95 | 168 => 96 | 37 => 102 | 0 => 0 | 210 => 116 | 21 => 21 | 127 => 129 | 145 => 132 | 143 => 130 | 171 => 99 | 173 => 103 | 212 => 120 | 51 => 121 | 20 => 20 | 213 => 122 | 232 => 138 | 233 => 139 | 80 => 88 | n => n, fun | 15 => 0 | 16 => 1 | 17 => 2 | 18 => 3 | 19 => 4 | n => n⟩
theorem l_laysC174 : Go.Proofs.LaysC.n174 Tryd.prog l_laysC174_ren := {
  mixed := by kernel_rfl
  f129 := Tryd.func81.trans (congrArg some (by kernel_rfl))
  f171 := Tryd.func40.trans (congrArg some (by kernel_rfl))
  f174 := Tryd.func37.trans (congrArg some (by kernel_rfl))
  f205 := Tryd.func79.trans (congrArg some (by kernel_rfl))
  f243 := Tryd.func53.trans (congrArg some (by kernel_rfl))
  f245 := Tryd.func48.trans (congrArg some (by kernel_rfl))
  f246 := Tryd.func49.trans (congrArg some (by kernel_rfl))
  f247 := Tryd.func47.trans (congrArg some (by kernel_rfl))
  f279 := Tryd.func60.trans (congrArg some (by kernel_rfl))
  f280 := Tryd.func61.trans (congrArg some (by kernel_rfl))
  f281 := Tryd.func62.trans (congrArg some (by kernel_rfl))
  f282 := Tryd.func63.trans (congrArg some (by kernel_rfl))
  f283 := Tryd.func64.trans (congrArg some (by kernel_rfl))
  f284 := Tryd.func65.trans (congrArg some (by kernel_rfl))
  f285 := Tryd.func66.trans (congrArg some (by kernel_rfl))
  f286 := Tryd.func67.trans (congrArg some (by kernel_rfl))
  f287 := Tryd.func59.trans (congrArg some (by kernel_rfl))
  f316 := Tryd.func78.trans (congrArg some (by kernel_rfl))
  f317 := Tryd.func80.trans (congrArg some (by kernel_rfl))
  f318 := Tryd.func82.trans (congrArg some (by kernel_rfl))
  f319 := Tryd.func83.trans (congrArg some (by kernel_rfl))
  f320 := Tryd.func84.trans (congrArg some (by kernel_rfl))
  f321 := Tryd.func76.trans (congrArg some (by kernel_rfl))
  f322 := Tryd.func77.trans (congrArg some (by kernel_rfl))
  f337 := Tryd.func92.trans (congrArg some (by kernel_rfl))
  f338 := Tryd.func93.trans (congrArg some (by kernel_rfl))
  t0 := Tryd.underlying0
  a0 := Tryd.isAgg0
  z0 := Tryd.sizeOf0
  v0 := Tryd.zeroValue0
  t2 := Tryd.underlying2
  a2 := Tryd.isAgg2
  z2 := Tryd.sizeOf2
  v2 := Tryd.zeroValue2
  t3 := Tryd.underlying3
  a3 := Tryd.isAgg3
  z3 := Tryd.sizeOf3
  v3 := Tryd.zeroValue3
  t4 := Tryd.underlying4
  a4 := Tryd.isAgg4
  z4 := Tryd.sizeOf4
  v4 := Tryd.zeroValue4
  t5 := Tryd.underlying5
  a5 := Tryd.isAgg5
  z5 := Tryd.sizeOf5
  v5 := Tryd.zeroValue5
  t9 := Tryd.underlying9
  a9 := Tryd.isAgg9
  z9 := Tryd.sizeOf9
  v9 := Tryd.zeroValue9
  t20 := Tryd.underlying20
  a20 := Tryd.isAgg20
  z20 := Tryd.sizeOf20
  v20 := Tryd.zeroValue20
  t21 := Tryd.underlying21
  a21 := Tryd.isAgg21
  z21 := Tryd.sizeOf21
  v21 := Tryd.zeroValue21
  t37 := Tryd.underlying102
  a37 := Tryd.isAgg102
  z37 := Tryd.sizeOf102
  v37 := Tryd.zeroValue102
  t46 := Tryd.underlying95
  a46 := Tryd.isAgg95
  z46 := Tryd.sizeOf95
  v46 := Tryd.zeroValue95
  t51 := Tryd.underlying121
  a51 := Tryd.isAgg121
  z51 := Tryd.sizeOf121
  v51 := Tryd.zeroValue121
  t53 := Tryd.underlying81
  a53 := Tryd.isAgg81
  z53 := Tryd.sizeOf81
  v53 := Tryd.zeroValue81
  t75 := Tryd.underlying71
  a75 := Tryd.isAgg71
  z75 := Tryd.sizeOf71
  v75 := Tryd.zeroValue71
  t85 := Tryd.underlying72
  a85 := Tryd.isAgg72
  z85 := Tryd.sizeOf72
  v85 := Tryd.zeroValue72
  t127 := Tryd.underlying129
  a127 := Tryd.isAgg129
  z127 := Tryd.sizeOf129
  v127 := Tryd.zeroValue129
  t143 := Tryd.underlying130
  a143 := Tryd.isAgg130
  z143 := Tryd.sizeOf130
  v143 := Tryd.zeroValue130
  t145 := Tryd.underlying132
  a145 := Tryd.isAgg132
  z145 := Tryd.sizeOf132
  v145 := Tryd.zeroValue132
  t167 := Tryd.underlying92
  a167 := Tryd.isAgg92
  z167 := Tryd.sizeOf92
  v167 := Tryd.zeroValue92
  t168 := Tryd.underlying96
  a168 := Tryd.isAgg96
  z168 := Tryd.sizeOf96
  v168 := Tryd.zeroValue96
  t171 := Tryd.underlying99
  a171 := Tryd.isAgg99
  z171 := Tryd.sizeOf99
  v171 := Tryd.zeroValue99
  t173 := Tryd.underlying103
  a173 := Tryd.isAgg103
  z173 := Tryd.sizeOf103
  v173 := Tryd.zeroValue103
  t175 := Tryd.underlying93
  a175 := Tryd.isAgg93
  z175 := Tryd.sizeOf93
  v175 := Tryd.zeroValue93
  t210 := Tryd.underlying116
  a210 := Tryd.isAgg116
  z210 := Tryd.sizeOf116
  v210 := Tryd.zeroValue116
  t212 := Tryd.underlying120
  a212 := Tryd.isAgg120
  z212 := Tryd.sizeOf120
  v212 := Tryd.zeroValue120
  t213 := Tryd.underlying122
  a213 := Tryd.isAgg122
  z213 := Tryd.sizeOf122
  t232 := Tryd.underlying138
  a232 := Tryd.isAgg138
  z232 := Tryd.sizeOf138
  v232 := Tryd.zeroValue138
  t233 := Tryd.underlying139
  a233 := Tryd.isAgg139
  z233 := Tryd.sizeOf139
  v233 := Tryd.zeroValue139
  g15 := by kernel_rfl
  g16 := by kernel_rfl
  g17 := by kernel_rfl
  g18 := by kernel_rfl
  g19 := by kernel_rfl
  t80 := Tryd.underlying88
  a80 := Tryd.isAgg88
  z80 := Tryd.sizeOf88
  v80 := Tryd.zeroValue88
  i0 := by kernel_rfl
  i2 := by kernel_rfl
  i3 := by kernel_rfl
  i4 := by kernel_rfl
  i5 := by kernel_rfl
  i9 := by kernel_rfl
  i20 := by kernel_rfl
  i21 := by kernel_rfl
  i37 := by kernel_rfl
  i46 := by kernel_rfl
  i51 := by kernel_rfl
  i53 := by kernel_rfl
  i75 := by kernel_rfl
  i80 := by kernel_rfl
  i85 := by kernel_rfl
  i127 := by kernel_rfl
  i143 := by kernel_rfl
  i145 := by kernel_rfl
  i167 := by kernel_rfl
  i168 := by kernel_rfl
  i171 := by kernel_rfl
  i173 := by kernel_rfl
  i175 := by kernel_rfl
  i210 := by kernel_rfl
  i212 := by kernel_rfl
  i232 := by kernel_rfl
  i233 := by kernel_rfl
  m15 := by kernel_rfl
  m16 := by kernel_rfl
  m17 := by kernel_rfl
  m18 := by kernel_rfl
  m19 := by kernel_rfl
  c0 := by kernel_rfl
  c2 := by kernel_rfl
  c3 := by kernel_rfl
  c4 := by kernel_rfl
  c5 := by kernel_rfl
  c9 := by kernel_rfl
  c20 := by kernel_rfl
  c21 := by kernel_rfl
  c37 := by kernel_rfl
  c46 := by kernel_rfl
  c51 := by kernel_rfl
  c53 := by kernel_rfl
  c75 := by kernel_rfl
  c80 := by kernel_rfl
  c85 := by kernel_rfl
  c127 := by kernel_rfl
  c143 := by kernel_rfl
  c145 := by kernel_rfl
  c167 := by kernel_rfl
  c168 := by kernel_rfl
  c171 := by kernel_rfl
  c173 := by kernel_rfl
  c175 := by kernel_rfl
  c210 := by kernel_rfl
  c212 := by kernel_rfl
  c213 := by kernel_rfl
  c232 := by kernel_rfl
  c233 := by kernel_rfl }
open Go.RowKit in
theorem l_strconv_ParseInt_10_at64_ok (s : ByteArray) (hmax : s.size ≤ 9223372036854775806) (v : Int) (h : Lib.parseIntB 64 s.data.toList = .ok v) (w : World) :
    Calls Tryd.prog 37 #[.string s, .int .i64 10, .int .i64 64] w fun e w' => e = .returned (.tuple #[.int .i64 v, .nilIface]) ∧ (w' = w ∨ ∃ t, w' = Lib.bytesWorld w 5 t) := Any.strconv_ParseInt_10_at64_ok l_laysC174 s hmax v h w
end Go.Proofs.YtflgkijmbpcnfaaDoor.ShelfB
/- numbers as texts by the library: Itoa, FormatInt, ParseInt, Atoi, in the words of K -/
namespace Go.Proofs.YtflgkijmbpcnfaaDoor
open Go.RowKit
theorem itoa_txt (n : Int) : Lib.itoa n = K.txt n := by
  unfold Lib.itoa K.txt
  split
  · rw [decDigits_dgs]
  · rw [decDigits_dgs]; congr 1; omega
theorem dv_cons (c : UInt8) (r : List UInt8) : K.dv (c :: r) = K.dv r + 10 ^ r.length * (c.toNat - 48) := by
  have h := K.dv_append [c] r
  rw [List.singleton_append] at h
  have h2 := K.dv_snoc [] c
  rw [List.nil_append, K.dv_nil] at h2
  rw [h, show K.dv [c] = c.toNat - 48 by omega]
theorem dig_mem {c : UInt8} {r : List UInt8} (h : (c :: r).all K.dig = true) : (48 ≤ c.toNat ∧ c.toNat ≤ 57) ∧ r.all K.dig = true := by
  rw [List.all_cons, Bool.and_eq_true] at h
  exact ⟨by have := h.1; unfold K.dig at this; simpa using this, h.2⟩
theorem parseM_ok : ∀ (l : List UInt8) (acc : Nat), l.all K.dig = true → (acc + 1) * 10 ^ l.length ≤ 1000000000000000000 → Lib.parseUintM 18446744073709551615 acc l = .ok (acc * 10 ^ l.length + K.dv l)
  | [], acc, _, _ => by rw [Lib.parseUintM, K.dv_nil]; simp
  | c :: r, acc, hd, hb => by
    obtain ⟨hc, hr⟩ := dig_mem hd
    have hp : 1 ≤ 10 ^ r.length := Nat.pow_pos (by omega)
    have e : (acc + 1) * 10 ^ (c :: r).length = ((acc + 1) * 10) * 10 ^ r.length := by rw [List.length_cons, Nat.pow_succ, Nat.mul_comm (10 ^ r.length) 10, Nat.mul_assoc]
    rw [e] at hb
    have h1 : (acc + 1) * 10 ≤ 1000000000000000000 := Nat.le_trans (Nat.le_mul_of_pos_right _ hp) hb
    rw [Lib.parseUintM, if_pos hc, if_neg (by omega), if_neg (by omega)]
    have h2 : (acc * 10 + (c.toNat - 48) + 1) * 10 ^ r.length ≤ 1000000000000000000 := Nat.le_trans (Nat.mul_le_mul_right _ (by omega)) hb
    rw [parseM_ok r _ hr h2, dv_cons, List.length_cons, Nat.pow_succ, Nat.add_mul, Nat.mul_assoc, Nat.mul_comm 10 (10 ^ r.length), Nat.mul_comm (c.toNat - 48)]
    congr 1
    omega
theorem decFrom_ok : ∀ (l : List UInt8) (acc : Nat), l.all K.dig = true → Lib.decFrom acc l = some (acc * 10 ^ l.length + K.dv l)
  | [], acc, _ => by rw [Lib.decFrom, K.dv_nil]; simp
  | c :: r, acc, hd => by
    obtain ⟨hc, hr⟩ := dig_mem hd
    rw [Lib.decFrom]
    have e : Lib.digitVal c = some (c.toNat - 48) := by unfold Lib.digitVal; rw [if_pos hc]
    rw [e]
    show Lib.decFrom (acc * 10 + (c.toNat - 48)) r = _
    rw [decFrom_ok r _ hr, dv_cons, List.length_cons, Nat.pow_succ, Nat.add_mul, Nat.mul_assoc, Nat.mul_comm 10 (10 ^ r.length), Nat.mul_comm (c.toNat - 48)]
    congr 1
    omega
/-- a valid text, by its sign -/
theorem valid_shape {l : List UInt8} (h : K.validL l = true) : (∃ r, l = 45 :: r ∧ r.all K.dig = true ∧ 0 < r.length ∧ K.numL l = -(K.dv r : Int)) ∨ (∃ c r, l = c :: r ∧ 48 ≤ c.toNat ∧ c.toNat ≤ 57 ∧ (c :: r).all K.dig = true ∧ K.numL l = (K.dv (c :: r) : Int)) := by
  obtain ⟨hd, -, hpos⟩ := body_all h
  cases l with
  | nil => cases h
  | cons c r =>
    by_cases hc : c = 45
    · subst hc
      have hb : K.body (45 :: r) = r := rfl
      rw [hb] at hd hpos
      exact .inl ⟨r, rfl, hd, hpos, rfl⟩
    · have hh : ¬ (c :: r).head? = some 45 := by simpa using hc
      have hb : K.body (c :: r) = c :: r := by unfold K.body; rw [if_neg hh]
      rw [hb] at hd
      obtain ⟨h1, -⟩ := dig_mem hd
      exact .inr ⟨c, r, rfl, h1.1, h1.2, hd, by unfold K.numL; rw [if_neg hh]⟩
theorem parse64_ok {l : List UInt8} (h : K.validL l = true) (hl : l.length ≤ 17) : Lib.parseIntB 64 l = .ok (K.numL l) := by
  have hp : ∀ r : List UInt8, r.all K.dig = true → r.length ≤ 17 → K.dv r < 1000000000000000000 ∧ (0 + 1) * 10 ^ r.length ≤ 1000000000000000000 := by
    intro r hr hlr
    have h1 := K.dv_lt r hr
    have h2 : 10 ^ r.length ≤ 10 ^ 17 := Nat.pow_le_pow_right (by omega) hlr
    omega
  rcases valid_shape h with ⟨r, rfl, hr, h0, hn⟩ | ⟨c, r, rfl, h1, h2, hr, hn⟩
  · obtain ⟨h3, h4⟩ := hp r hr (by rw [List.length_cons] at hl; omega)
    have hne : r ≠ [] := List.length_pos_iff.1 h0
    have e : Lib.parseUintB 64 r = .ok (K.dv r) := by
      unfold Lib.parseUintB
      rw [if_neg hne]
      have := parseM_ok r 0 hr h4
      rw [Nat.zero_mul, Nat.zero_add] at this
      exact this
    rw [hn]
    show Lib.parseIntB 64 (45 :: r) = _
    unfold Lib.parseIntB
    simp only [e, show (45 : UInt8).toNat = 45 from rfl]
    rw [if_pos (.inr trivial), e]
    show (if ¬True ∧ 2 ^ (64 - 1) ≤ K.dv r then Lib.NumEnd.range else if True ∧ 2 ^ (64 - 1) < K.dv r then Lib.NumEnd.range else Lib.NumEnd.ok (if True then -(K.dv r : Int) else (K.dv r : Int))) = _
    have p63 : (2 : Nat) ^ (64 - 1) = 9223372036854775808 := rfl
    rw [p63, if_neg (by simp), if_neg (by simp; omega), if_pos trivial]
  · obtain ⟨h3, h4⟩ := hp (c :: r) hr hl
    have e : Lib.parseUintB 64 (c :: r) = .ok (K.dv (c :: r)) := by
      unfold Lib.parseUintB
      rw [if_neg (by simp)]
      have := parseM_ok (c :: r) 0 hr h4
      rw [Nat.zero_mul, Nat.zero_add] at this
      exact this
    rw [hn]
    unfold Lib.parseIntB
    have n1 : ¬ (c.toNat = 43 ∨ c.toNat = 45) := by omega
    have n2 : ¬ c.toNat = 45 := by omega
    simp only [n2]
    rw [if_neg (by simp; omega), e]
    show (if ¬False ∧ 2 ^ (64 - 1) ≤ K.dv (c :: r) then Lib.NumEnd.range else if False ∧ 2 ^ (64 - 1) < K.dv (c :: r) then Lib.NumEnd.range else Lib.NumEnd.ok (if False then -(K.dv (c :: r) : Int) else (K.dv (c :: r) : Int))) = _
    have p63 : (2 : Nat) ^ (64 - 1) = 9223372036854775808 := rfl
    rw [p63, if_neg (by simp; omega), if_neg (by simp), if_neg (by simp)]
theorem atoi_ok {l : List UInt8} (h : K.validL l = true) : Lib.atoi l = some (K.numL l) := by
  rcases valid_shape h with ⟨r, rfl, hr, h0, hn⟩ | ⟨c, r, rfl, h1, h2, hr, hn⟩
  · have hne : r.isEmpty = false := by cases r with
      | nil => simp at h0
      | cons => rfl
    rw [hn]
    unfold Lib.atoi Lib.decNat
    simp [hne, decFrom_ok r 0 hr]
  · rw [hn]
    have n1 : (c == 45) = false := by rw [beq_eq_false_iff_ne]; intro e; subst e; simp at h1
    have n2 : (c == 43) = false := by rw [beq_eq_false_iff_ne]; intro e; subst e; simp at h1
    unfold Lib.atoi Lib.decNat
    simp [n1, n2, decFrom_ok (c :: r) 0 hr]
theorem data_Str (l : List UInt8) : (Str l).data.toList = l := by simp [Str]
theorem itoa_any (n : Int) (w : World) (h0 : -9223372036854775808 ≤ n) (h1 : n ≤ 9223372036854775807) (ht : Tab w) :
    Calls Tryd.prog 40 #[.int .i64 n] w (StrPost (K.txt n) w) := by
  refine (ShelfB.l_strconv_Itoa n h0 h1 w ht).mono ?_
  rintro e w' ⟨rfl, k, os, rfl⟩
  exact ⟨by rw [itoa_txt]; rfl, Lib.below_grow _ _ (Nat.le_refl _) _ _⟩
theorem format_any (n : Int) (w : World) (h0 : -9223372036854775808 ≤ n) (h1 : n ≤ 9223372036854775807) (ht : Tab w) :
    Calls Tryd.prog 38 #[.int .i64 n, .int .i64 10] w (StrPost (K.txt n) w) := by
  refine (ShelfB.l_strconv_FormatInt_10 n h0 h1 w ht).mono ?_
  rintro e w' ⟨rfl, k, os, rfl⟩
  exact ⟨by rw [itoa_txt]; rfl, Lib.below_grow _ _ (Nat.le_refl _) _ _⟩
theorem parse64_any (l : List UInt8) (w : World) (hv : K.validL l = true) (hl : l.length ≤ 17) :
    Calls Tryd.prog 37 #[.string (Str l), .int .i64 10, .int .i64 64] w (fun e w' => e = .returned (.tuple #[.int .i64 (K.numL l), .nilIface]) ∧ Ext w w') := by
  refine (ShelfB.l_strconv_ParseInt_10_at64_ok (Str l) (by rw [Str_size]; omega) (K.numL l) (by rw [data_Str]; exact parse64_ok hv hl) w).mono ?_
  rintro e w' ⟨rfl, h⟩
  refine ⟨rfl, ?_⟩
  rcases h with rfl | ⟨t, rfl⟩
  · exact Ext.rfl' _
  · exact Lib.bytesWorld_below _ _ _
theorem atoi_any (l : List UInt8) (w : World) (hv : K.validL l = true) (hl : l.length ≤ 17) :
    Calls Tryd.prog 41 #[.string (Str l)] w (fun e w' => e = .returned (.tuple #[.int .i64 (K.numL l), .nilIface]) ∧ Ext w w') := by
  refine (ShelfB.l_strconv_Atoi (Str l) (K.numL l) (by rw [Str_size]; omega) (by rw [data_Str]; exact atoi_ok hv) w).mono ?_
  rintro e w' ⟨rfl, t, rfl⟩
  exact ⟨rfl, Lib.bytesWorld_below _ _ _⟩
end Go.Proofs.YtflgkijmbpcnfaaDoor
/- the reference's trim -/
namespace Go.Proofs.YtflgkijmbpcnfaaDoor
open Go.RowKit
/-- a number of the reference's -/
def RefV (w : World) (v : Value) (n : Int) : Prop :=
  ∃ A k c xs b, v = .agg #[.bool b, .slice A k c] ∧ Hid (b = decide (n < 0)) ∧ xs.length = k ∧ k ≤ c ∧ Rd w A (I64s xs) ∧ K.Lim xs ∧ K.lv xs = n.natAbs
theorem RefV.ext {w w' : World} {v : Value} {n : Int} (h : RefV w v n) (e : Ext w w') : RefV w' v n := by
  obtain ⟨A, k, c, xs, b, h1, h2, h3, h4, h5, h6⟩ := h
  exact ⟨A, k, c, xs, b, h1, h2, h3, h4, h5.ext e, h6⟩
def RefPost (n : Int) (w : World) (e : Ending) (w' : World) : Prop := ∃ v, e = .returned v ∧ RefV w' v n ∧ Ext w w'
/-- what trim leaves -/
def RTrimPost (neg : Bool) (A : Option Addr) (c : Nat) (xs : List Nat) (w : World) (e : Ending) (w' : World) : Prop :=
  ∃ k b, k ≤ xs.length ∧ e = .returned (.agg #[.bool b, .slice A k c]) ∧ Hid (b = (neg && decide (0 < k))) ∧ Cut xs (xs.take k) ∧ Ext w w'
end Go.Proofs.YtflgkijmbpcnfaaDoor
/- the reference's Parse and Sign -/
namespace Go.Proofs.YtflgkijmbpcnfaaDoor
open Go.RowKit
/-- one group more -/
theorem seg_step (l : List UInt8) (f E j : Nat) (hf : f < E) (hE : E + 9 * j = l.length) :
    K.dv (l.drop (max f (E - 9))) = K.dv (l.drop E) + 1000000000 ^ j * K.dv ((l.take E).drop (max f (E - 9))) := by
  have h : l.drop (max f (E - 9)) = (l.take E).drop (max f (E - 9)) ++ l.drop E := by
    conv => lhs; rw [← List.take_append_drop E l]
    rw [List.drop_append_of_le_length (by rw [List.length_take]; omega)]
  rw [h, K.dv_append, List.length_drop, show l.length - E = 9 * j by omega, pow9]
theorem seg_digit (l : List UInt8) (s i : Nat) (c : UInt8) (hs : s ≤ i) (hc : l[i]? = some c) : K.dv ((l.take (i + 1)).drop s) = (c.toNat - 48) + 10 * K.dv ((l.take i).drop s) := by
  obtain ⟨hi, e⟩ := List.getElem?_eq_some_iff.1 hc
  rw [List.take_succ_eq_append_getElem hi, List.drop_append_of_le_length (by rw [List.length_take]; omega), e, K.dv_snoc]
theorem seg_lt (l : List UInt8) (f s i k : Nat) (hd : (l.drop f).all K.dig = true) (hs : f ≤ s) (hk : i - s ≤ k) : K.dv ((l.take i).drop s) < 10 ^ k := by
  have h1 := K.dv_lt ((l.take i).drop s) (by
    rw [List.all_eq_true] at hd ⊢
    intro x hx
    apply hd
    rw [List.mem_iff_getElem?] at hx ⊢
    obtain ⟨j, hj⟩ := hx
    rw [List.getElem?_drop, List.getElem?_take] at hj
    split at hj
    · exact ⟨s - f + j, by rw [List.getElem?_drop, ← hj]; congr 1; omega⟩
    · cases hj)
  exact Nat.lt_of_lt_of_le h1 (Nat.pow_le_pow_right (by omega) (by rw [List.length_drop, List.length_take]; omega))
theorem dig_at {l : List UInt8} {f i : Nat} {c : UInt8} (hd : (l.drop f).all K.dig = true) (hf : f ≤ i) (hc : l[i]? = some c) : 48 ≤ c.toNat ∧ c.toNat ≤ 57 := by
  rw [List.all_eq_true] at hd
  have := hd c (by rw [List.mem_iff_getElem?]; exact ⟨i - f, by rw [List.getElem?_drop, ← hc]; congr 1; omega⟩)
  unfold K.dig at this
  simpa using this
theorem lv_snoc (xs : List Nat) (x : Nat) : K.lv (xs ++ [x]) = K.lv xs + 1000000000 ^ xs.length * x := by
  rw [K.lv_append]; simp [K.lv]
end Go.Proofs.YtflgkijmbpcnfaaDoor
/- the reference's part and more -/
namespace Go.Proofs.YtflgkijmbpcnfaaDoor
open Go.RowKit
theorem lv_getD (xs : List Nat) (j : Nat) : K.lv (xs.drop j) = xs.getD j 0 + 1000000000 * K.lv (xs.drop (j + 1)) := by
  by_cases hj : j < xs.length
  · have ex := List.getElem?_eq_getElem hj
    rw [drop_at ex, List.getD_eq_getElem?_getD, ex]; rfl
  · rw [List.drop_of_length_le (by omega), List.drop_of_length_le (by omega), List.getD_eq_getElem?_getD, List.getElem?_eq_none (by omega)]; rfl
theorem getD_lt {xs : List Nat} (h : ∀ x ∈ xs, x < 1000000000) (j : Nat) : xs.getD j 0 < 1000000000 := by
  rw [List.getD_eq_getElem?_getD]
  by_cases hj : j < xs.length
  · rw [List.getElem?_eq_getElem hj]; exact h _ (List.getElem_mem hj)
  · rw [List.getElem?_eq_none (by omega)]; simp
/-- a list of parts in memory, not yet trimmed -/
def Parts (n : Nat) (w : World) (e : Ending) (w' : World) : Prop :=
  ∃ A k c zs, e = .returned (.slice A k c) ∧ zs.length = k ∧ k ≤ c ∧ k ≤ 100002 ∧ Rd w' A (I64s zs) ∧ (∀ z ∈ zs, z < 1000000000) ∧ K.lv zs = n ∧ Ext w w'
end Go.Proofs.YtflgkijmbpcnfaaDoor
/- the reference's size -/
namespace Go.Proofs.YtflgkijmbpcnfaaDoor
open Go.RowKit
end Go.Proofs.YtflgkijmbpcnfaaDoor
/- the reference's less -/
namespace Go.Proofs.YtflgkijmbpcnfaaDoor
open Go.RowKit
theorem less_step (X Y Z P x y z bw bw' X' Y' : Nat) (h : X + P * (bw + (y + 1000000000 * Y')) = Z + P * (x + 1000000000 * X') + Y) (hz : x + 1000000000 * bw' = z + y + bw) :
    X + P * 1000000000 * (bw' + Y') = Z + P * z + P * 1000000000 * X' + Y := by
  have k := congrArg (P * ·) hz
  simp only [Nat.mul_add] at h k ⊢
  have e1 : P * (1000000000 * Y') = P * 1000000000 * Y' := (Nat.mul_assoc ..).symm
  have e2 : P * (1000000000 * X') = P * 1000000000 * X' := (Nat.mul_assoc ..).symm
  have e3 : P * (1000000000 * bw') = P * 1000000000 * bw' := (Nat.mul_assoc ..).symm
  rw [e1, e2] at h
  rw [e3] at k
  omega
end Go.Proofs.YtflgkijmbpcnfaaDoor
/- plain facts on lists of parts: a part that is set; products, quotients and digits by rounds -/
namespace Go.Proofs.YtflgkijmbpcnfaaDoor
theorem lv_set : ∀ (xs : List Nat) (j v : Nat), j < xs.length → K.lv (xs.set j v) + 1000000000 ^ j * xs.getD j 0 = K.lv xs + 1000000000 ^ j * v
  | [], j, v, h => by simp at h
  | x :: r, 0, v, _ => by simp [K.lv]; omega
  | x :: r, j + 1, v, h => by
    have ih := lv_set r j v (by simpa using h)
    have e1 : 1000000000 ^ j * 1000000000 * r.getD j 0 = 1000000000 * (1000000000 ^ j * r.getD j 0) := by rw [Nat.mul_comm (1000000000 ^ j), Nat.mul_assoc]
    have e2 : 1000000000 ^ j * 1000000000 * v = 1000000000 * (1000000000 ^ j * v) := by rw [Nat.mul_comm (1000000000 ^ j), Nat.mul_assoc]
    simp only [List.set_cons_succ, List.getD_cons_succ, K.lv, Nat.pow_succ, e1, e2]
    omega
/-- one round of a product -/
theorem mul_step {Os : List Nat} {p c x y Y' T o s : Nat} (hp : p < Os.length) (ho : Os.getD p 0 = o) (hs : s = o + x * y + c) (h : K.lv Os + 1000000000 ^ p * (c + x * (y + 1000000000 * Y')) = T) :
    K.lv (Os.set p (s % 1000000000)) + 1000000000 ^ (p + 1) * (s / 1000000000 + x * Y') = T := by
  have h1 := lv_set Os p (s % 1000000000) hp
  rw [ho] at h1
  have h2 : 1000000000 ^ p * (s % 1000000000) + 1000000000 ^ p * 1000000000 * (s / 1000000000) = 1000000000 ^ p * s := by
    rw [Nat.mul_assoc, ← Nat.mul_add, Nat.mod_add_div]
  have h3 : 1000000000 ^ p * s = 1000000000 ^ p * o + 1000000000 ^ p * (x * y) + 1000000000 ^ p * c := by rw [hs, Nat.mul_add, Nat.mul_add]
  have h4 : x * (1000000000 * Y') = 1000000000 * (x * Y') := by rw [← Nat.mul_assoc, Nat.mul_comm x, Nat.mul_assoc]
  rw [Nat.mul_add x, h4, Nat.mul_add, Nat.mul_add, ← Nat.mul_assoc (1000000000 ^ p) 1000000000] at h
  rw [Nat.pow_succ, Nat.mul_add]
  omega
theorem lv_take_at {xs : List Nat} {i x : Nat} (h : xs[i]? = some x) : K.lv (xs.take (i + 1)) = K.lv (xs.take i) + 1000000000 ^ i * x := by
  obtain ⟨hi, e⟩ := List.getElem?_eq_some_iff.1 h
  rw [List.take_succ_eq_append_getElem hi, e, lv_snoc, List.length_take, Nat.min_eq_left (by omega)]
theorem set_lt {xs : List Nat} (h : ∀ x ∈ xs, x < 1000000000) {j v : Nat} (hv : v < 1000000000) : ∀ x ∈ xs.set j v, x < 1000000000 := by
  intro x hx
  rcases List.mem_or_eq_of_mem_set hx with h1 | h1
  · exact h x h1
  · omega
theorem lv_lt' (xs : List Nat) (h : ∀ x ∈ xs, x < 1000000000) : K.lv xs < 1000000000 ^ xs.length := K.lv_lt xs h
/-- where a carry is left, the place lies within the row -/
theorem mul_place {L p c Y T i m a b : Nat} (h : L + 1000000000 ^ p * (c + Y) = T) (hc : 0 < c) (hT : T = a * b) (ha : a < 1000000000 ^ i) (hb : b < 1000000000 ^ m) : p < i + m := by
  have h1 : 1000000000 ^ p ≤ 1000000000 ^ p * (c + Y) := Nat.le_mul_of_pos_right _ (by omega)
  have h2 : a * b < 1000000000 ^ i * 1000000000 ^ m := Nat.mul_lt_mul'' ha hb
  rw [← Nat.pow_add] at h2
  rcases Nat.lt_or_ge p (i + m) with h | h
  · exact h
  · have := Nat.pow_le_pow_right (n := 1000000000) (by omega) h
    omega
end Go.Proofs.YtflgkijmbpcnfaaDoor
/- the reference's Minus -/
namespace Go.Proofs.YtflgkijmbpcnfaaDoor
open Go.RowKit
end Go.Proofs.YtflgkijmbpcnfaaDoor
/- the reference's Add -/
namespace Go.Proofs.YtflgkijmbpcnfaaDoor
open Go.RowKit
theorem RefV.two {w : World} {A1 : Option Addr} {H k1 c1 : Nat} {t : TypeId} {x : Bool} {a b : Value} {A : Option Addr} {xs : List Nat} (h : Rd w A (I64s xs)) (r : Row w H t [.bool x, .slice A1 k1 c1]) :
    Rd ((w.setCell ⟨H, 0, none⟩ a).setCell ⟨H, 1, none⟩ b) A (I64s xs) :=
  h.two (by intro u hu; obtain ⟨y, _, rfl⟩ := List.mem_map.1 hu; exact ⟨_, _, rfl⟩) r
end Go.Proofs.YtflgkijmbpcnfaaDoor
/- the reference's Mul -/
namespace Go.Proofs.YtflgkijmbpcnfaaDoor
open Go.RowKit
theorem I64s_put {w : World} {g : Nat} {t : TypeId} {Os : List Nat} (h : Row w g t (I64s Os)) (j v : Nat) : Row (w.setCell ⟨g, j, none⟩ (.int .i64 (v : Int))) g t (I64s (Os.set j v)) := by
  have := h.set j (.int .i64 (v : Int))
  rwa [I64s_set] at this
theorem at_of_getD {Os : List Nat} {j : Nat} (h : j < Os.length) : Os[j]? = some (Os.getD j 0) := by
  rw [List.getD_eq_getElem?_getD, List.getElem?_eq_getElem h]; rfl
end Go.Proofs.YtflgkijmbpcnfaaDoor
/- the reference's Add, of any two numbers -/
namespace Go.Proofs.YtflgkijmbpcnfaaDoor
open Go.RowKit
theorem lim_len {xs ys : List Nat} (hx : K.Lim xs) (hy : K.Lim ys) (h : K.lv ys ≤ K.lv xs) : ys.length ≤ xs.length := by
  rcases Nat.lt_or_ge xs.length ys.length with hl | hl
  · have h1 := K.lv_lt xs hx.1
    have h2 := hy.ge (by intro e; subst e; simp at hl)
    have h3 : 1000000000 ^ xs.length ≤ 1000000000 ^ (ys.length - 1) := Nat.pow_le_pow_right (by omega) (by omega)
    omega
  · exact hl
end Go.Proofs.YtflgkijmbpcnfaaDoor
/- the reference's Sub -/
namespace Go.Proofs.YtflgkijmbpcnfaaDoor
open Go.RowKit
end Go.Proofs.YtflgkijmbpcnfaaDoor
/- the reference's Sign; Parse of a valid text -/
namespace Go.Proofs.YtflgkijmbpcnfaaDoor
open Go.RowKit
def sgn0 (n : Int) : Int := if n = 0 then 0 else if n < 0 then -1 else 1
theorem valid_len {l : List UInt8} (h : K.validL l = true) : l.length ≤ 2001 := by
  rw [← (K.txt_numL l h).1]; exact K.txt_len _ (K.txt_numL l h).2
end Go.Proofs.YtflgkijmbpcnfaaDoor
/- the reference's Cmp -/
namespace Go.Proofs.YtflgkijmbpcnfaaDoor
open Go.RowKit
theorem sgn0_lt {a b : Int} (h : ¬ sgn0 a = sgn0 b) : (sgn0 a < sgn0 b → sgnI a b = -1) ∧ (¬ sgn0 a < sgn0 b → sgnI a b = 1) := by
  unfold sgn0 at *; unfold sgnI
  repeat' (split at h)
  all_goals (constructor <;> intro h2 <;> simp_all <;> omega)
theorem sgn0_eq {a b : Int} (h : sgn0 a = sgn0 b) : (a < 0 → sgn b.natAbs a.natAbs = sgnI a b) ∧ (¬ a < 0 → sgn a.natAbs b.natAbs = sgnI a b) := by
  have h2 : (a < 0 ↔ b < 0) ∧ (a = 0 ↔ b = 0) := by
    unfold sgn0 at h
    repeat' (split at h)
    all_goals (constructor <;> omega)
  unfold sgn sgnI
  constructor <;> intro h3 <;> (repeat' split) <;> omega
end Go.Proofs.YtflgkijmbpcnfaaDoor
