/- Joined texts: num.combine, Add, Sub, Mul, Gcd; num.Compare, Power, Rest; num.Divide; katabasisref01.Valid; the law package's helpers: texts of numbers, Power at two inputs; the law package's helper awake. -/
import Derived.Test.YtoilkfohhhidpaaDoorJCNumDivides07
import Derived.Test.YtoilkfohhhidpaaDoorJCNumDivides06
/- num.combine, Add, Sub, Mul, Gcd -/
namespace Go.Proofs.YtoilkfohhhidpaaDoor
open Go.RowKit
theorem enter_of {P : Program} {f : FuncId} {fn : Func} (hf : P.funcs[f]? = some fn) (hname : (fn.name == "runtime.NumGoroutine") = false) (hb : fn.body.isSome = true) (args : Array Value) (w : World) :
    (callFunc f args).run P w = .ok (.enter f args) w := by
  obtain ⟨c, hc⟩ := Option.isSome_iff_exists.1 hb
  have h1 : fn.name ≠ "runtime.NumGoroutine" := by simpa using hname
  simp [callFunc, hf, h1, hc]
def BadStr (w : World) (e : Ending) (w' : World) : Prop := e = .returned (.tuple #[.string ⟨#[]⟩, .int .i64 1]) ∧ Ext w w'
theorem told_step {n : Int} {w w1 : World} {e : Ending} {w' : World} (h : Ext w w1) (k : ToldPost n w1 e w') : ToldPost n w e w' := ⟨k.1, k.2.1, h.step k.2.2⟩
set_option maxRecDepth 100000 in
set_option maxHeartbeats 800000 in
theorem combine_ok (f : FuncId) (hcf : ∀ args W, (callFunc f args).run Tryd.prog W = .ok (.enter f args) W) (k : Int) (l1 l2 : List UInt8) (w : World) (h1 : l1.length ≤ 140737488351232) (h2 : l2.length ≤ 140737488351232) (v1 : K.validL l1 = true) (v2 : K.validL l2 = true) (ht : Tab w)
    (hop : Hid (∀ W va vb, NumV W va (K.numL l1) → NumV W vb (K.numL l2) → Calls Tryd.prog f #[va, vb] W (NumPost k W))) (hk : k.natAbs ≤ BIG) :
    Calls Tryd.prog 44 #[.string (Str l1), .string (Str l2), .func (.func f) #[] #[]] w (ToldPost k w) := by
  go_enter Tryd.func44, Tryd.ntmps44
  go_wp2_with fail
  refine (both_ok l1 l2 w h1 h2 v1 v2).mono ?_
  rintro e w1 ⟨⟨y1, y2, rfl, ⟨z1, b1, rfl, hb1, hz1⟩, ⟨z2, b2, rfl, hb2, hz2⟩⟩, hx1⟩
  obtain ⟨A1, k1, c1, rfl⟩ := hz1.slice
  obtain ⟨A2, k2, c2, rfl⟩ := hz2.slice
  have hE : Ext w1 ((w1.alloc (.cells #[.bool b1, .slice A1 k1 c1] 72)).alloc (.cells #[.bool b2, .slice A2 k2 c2] 72)) := ((Ext.rfl' w1).alloc' _).alloc' _
  have n1 := (NumV.mk' hb1 hz1).ext hE
  have n2 := (NumV.mk' hb2 hz2).ext hE
  have hE2 := hx1.step hE
  clear hb1 hz1 hb2 hz2 hx1 hE
  go_wp2_with fail
  refine (hop.out _ _ _ n1 n2).mono ?_
  rintro e w2 ⟨v, rfl, hv, hx2⟩
  go_wp2_with fail
  refine (write_any v k w2 hv hk (ht.ext (hE2.step hx2))).mono ?_
  intro e w3 hp
  have hq := told_step (hE2.step hx2) hp
  clear hE2 hx2 n1 n2 hv hp
  by_cases hf : K.fits k
  · have he := hq.1 hf
    subst he
    go_wp2
    go_ret2
    exact hq
  · have he := hq.2.1 hf
    subst he
    go_wp2
    go_ret2
    exact hq
set_option maxRecDepth 100000 in
set_option maxHeartbeats 800000 in
theorem combine_bad (f : Value) (l1 l2 : List UInt8) (w : World) (h1 : l1.length ≤ 140737488351232) (h2 : l2.length ≤ 140737488351232) (v : K.validL l1 = false ∨ K.validL l2 = false) :
    Calls Tryd.prog 44 #[.string (Str l1), .string (Str l2), f] w (BadStr w) := by
  have hb : Calls Tryd.prog 48 #[.string (Str l1), .string (Str l2)] w (BothBad w) := by
    cases h : K.validL l1 with
    | false => exact both_bad1 l1 l2 w h1 h
    | true =>
      rcases v with v | v
      · rw [h] at v; cases v
      · exact both_bad2 l1 l2 w h1 h2 h v
  have HB := hid hb
  clear hb
  go_enter Tryd.func44, Tryd.ntmps44
  go_wp2_with fail
  refine HB.out.mono ?_
  rintro e w1 ⟨rfl, hx1⟩
  go_wp2
  go_ret2
  exact ⟨rfl, (hx1.alloc' _).alloc' _⟩
theorem gcd_le {a b c : Nat} (ha : a ≤ c) (hb : b ≤ c) : Nat.gcd a b ≤ c := by
  rcases Nat.eq_zero_or_pos a with h | h
  · subst h; rw [Nat.gcd_zero_left]; exact hb
  · exact Nat.le_trans (Nat.gcd_le_left b h) ha
set_option maxRecDepth 100000 in
theorem add_ok (l1 l2 : List UInt8) (w : World) (h1 : l1.length ≤ 140737488351232) (h2 : l2.length ≤ 140737488351232) (v1 : K.validL l1 = true) (v2 : K.validL l2 = true) (ht : Tab w) :
    Calls Tryd.prog 8 #[.string (Str l1), .string (Str l2)] w (ToldPost (K.numL l1 + K.numL l2) w) := by
  have f1 := fits_top (K.txt_numL l1 v1).2
  have f2 := fits_top (K.txt_numL l2 v2).2
  have g1 := fits_big (K.txt_numL l1 v1).2
  have g2 := fits_big (K.txt_numL l2 v2).2
  have hc := combine_ok 45 (enter_of Tryd.func45 (by kernel_rfl) (by kernel_rfl)) (K.numL l1 + K.numL l2) l1 l2 w h1 h2 v1 v2 ht (hid fun W va vb ha hb => nplus_any va vb _ _ W ha hb g1 g2) (by refine le_big (a := 224) ?_ (by omega); rw [show (224 : Nat) = 223 + 1 from rfl, TOP_add]; have := TOP_pos 223; have : TOP 1 = 1000000000 := rfl; rw [this]; omega)
  have HC := hid hc
  clear hc f1 f2 g1 g2
  go_enter Tryd.func8, Tryd.ntmps8
  go_wp2_with fail
  refine HC.out.mono ?_
  intro e w1 hq
  by_cases hf : K.fits (K.numL l1 + K.numL l2)
  · have he := hq.1 hf
    subst he
    go_wp2
    go_ret2
    exact hq
  · have he := hq.2.1 hf
    subst he
    go_wp2
    go_ret2
    exact hq
set_option maxRecDepth 100000 in
theorem add_bad (l1 l2 : List UInt8) (w : World) (h1 : l1.length ≤ 140737488351232) (h2 : l2.length ≤ 140737488351232) (v : K.validL l1 = false ∨ K.validL l2 = false) :
    Calls Tryd.prog 8 #[.string (Str l1), .string (Str l2)] w (BadStr w) := by
  go_enter Tryd.func8, Tryd.ntmps8
  go_wp2_with fail
  refine (combine_bad _ l1 l2 w h1 h2 v).mono ?_
  rintro e w1 ⟨rfl, hx⟩
  go_wp2
  go_ret2
  exact ⟨rfl, hx⟩
set_option maxRecDepth 100000 in
theorem sub_ok (l1 l2 : List UInt8) (w : World) (h1 : l1.length ≤ 140737488351232) (h2 : l2.length ≤ 140737488351232) (v1 : K.validL l1 = true) (v2 : K.validL l2 = true) (ht : Tab w) :
    Calls Tryd.prog 9 #[.string (Str l1), .string (Str l2)] w (ToldPost (K.numL l1 - K.numL l2) w) := by
  have f1 := fits_top (K.txt_numL l1 v1).2
  have f2 := fits_top (K.txt_numL l2 v2).2
  have g1 := fits_big (K.txt_numL l1 v1).2
  have g2 := fits_big (K.txt_numL l2 v2).2
  have hc := combine_ok 46 (enter_of Tryd.func46 (by kernel_rfl) (by kernel_rfl)) (K.numL l1 - K.numL l2) l1 l2 w h1 h2 v1 v2 ht (hid fun W va vb ha hb => nminus_any va vb _ _ W ha hb g1 g2) (by refine le_big (a := 224) ?_ (by omega); rw [show (224 : Nat) = 223 + 1 from rfl, TOP_add]; have := TOP_pos 223; have : TOP 1 = 1000000000 := rfl; rw [this]; omega)
  have HC := hid hc
  clear hc f1 f2 g1 g2
  go_enter Tryd.func9, Tryd.ntmps9
  go_wp2_with fail
  refine HC.out.mono ?_
  intro e w1 hq
  by_cases hf : K.fits (K.numL l1 - K.numL l2)
  · have he := hq.1 hf
    subst he
    go_wp2
    go_ret2
    exact hq
  · have he := hq.2.1 hf
    subst he
    go_wp2
    go_ret2
    exact hq
set_option maxRecDepth 100000 in
theorem sub_bad (l1 l2 : List UInt8) (w : World) (h1 : l1.length ≤ 140737488351232) (h2 : l2.length ≤ 140737488351232) (v : K.validL l1 = false ∨ K.validL l2 = false) :
    Calls Tryd.prog 9 #[.string (Str l1), .string (Str l2)] w (BadStr w) := by
  go_enter Tryd.func9, Tryd.ntmps9
  go_wp2_with fail
  refine (combine_bad _ l1 l2 w h1 h2 v).mono ?_
  rintro e w1 ⟨rfl, hx⟩
  go_wp2
  go_ret2
  exact ⟨rfl, hx⟩
set_option maxRecDepth 100000 in
theorem mul_ok (l1 l2 : List UInt8) (w : World) (h1 : l1.length ≤ 140737488351232) (h2 : l2.length ≤ 140737488351232) (v1 : K.validL l1 = true) (v2 : K.validL l2 = true) (ht : Tab w) :
    Calls Tryd.prog 10 #[.string (Str l1), .string (Str l2)] w (ToldPost (K.numL l1 * K.numL l2) w) := by
  have f1 := fits_top (K.txt_numL l1 v1).2
  have f2 := fits_top (K.txt_numL l2 v2).2
  have g1 := fits_big (K.txt_numL l1 v1).2
  have g2 := fits_big (K.txt_numL l2 v2).2
  have hc := combine_ok 47 (enter_of Tryd.func47 (by kernel_rfl) (by kernel_rfl)) (K.numL l1 * K.numL l2) l1 l2 w h1 h2 v1 v2 ht (hid fun W va vb ha hb => ntimes_any va vb _ _ W ha hb g1 g2) (by rw [Int.natAbs_mul]; exact le_big (mul_top f1 f2) (by omega))
  have HC := hid hc
  clear hc f1 f2 g1 g2
  go_enter Tryd.func10, Tryd.ntmps10
  go_wp2_with fail
  refine HC.out.mono ?_
  intro e w1 hq
  by_cases hf : K.fits (K.numL l1 * K.numL l2)
  · have he := hq.1 hf
    subst he
    go_wp2
    go_ret2
    exact hq
  · have he := hq.2.1 hf
    subst he
    go_wp2
    go_ret2
    exact hq
set_option maxRecDepth 100000 in
theorem mul_bad (l1 l2 : List UInt8) (w : World) (h1 : l1.length ≤ 140737488351232) (h2 : l2.length ≤ 140737488351232) (v : K.validL l1 = false ∨ K.validL l2 = false) :
    Calls Tryd.prog 10 #[.string (Str l1), .string (Str l2)] w (BadStr w) := by
  go_enter Tryd.func10, Tryd.ntmps10
  go_wp2_with fail
  refine (combine_bad _ l1 l2 w h1 h2 v).mono ?_
  rintro e w1 ⟨rfl, hx⟩
  go_wp2
  go_ret2
  exact ⟨rfl, hx⟩
set_option maxRecDepth 100000 in
theorem gcd_ok (l1 l2 : List UInt8) (w : World) (h1 : l1.length ≤ 140737488351232) (h2 : l2.length ≤ 140737488351232) (v1 : K.validL l1 = true) (v2 : K.validL l2 = true) (ht : Tab w) :
    Calls Tryd.prog 22 #[.string (Str l1), .string (Str l2)] w (ToldPost ((Nat.gcd (K.numL l1).natAbs (K.numL l2).natAbs : Int)) w) := by
  have f1 := fits_top (K.txt_numL l1 v1).2
  have f2 := fits_top (K.txt_numL l2 v2).2
  have g1 := fits_big (K.txt_numL l1 v1).2
  have g2 := fits_big (K.txt_numL l2 v2).2
  have hc := combine_ok 61 (enter_of Tryd.func61 (by kernel_rfl) (by kernel_rfl)) ((Nat.gcd (K.numL l1).natAbs (K.numL l2).natAbs : Int)) l1 l2 w h1 h2 v1 v2 ht (hid fun W va vb ha hb => ngcd_any va vb _ _ W ha hb g1 g2) (by rw [abs_cast]; exact gcd_le g1 g2)
  have HC := hid hc
  clear hc f1 f2 g1 g2
  go_enter Tryd.func22, Tryd.ntmps22
  go_wp2_with fail
  refine HC.out.mono ?_
  intro e w1 hq
  by_cases hf : K.fits ((Nat.gcd (K.numL l1).natAbs (K.numL l2).natAbs : Int))
  · have he := hq.1 hf
    subst he
    go_wp2
    go_ret2
    exact hq
  · have he := hq.2.1 hf
    subst he
    go_wp2
    go_ret2
    exact hq
set_option maxRecDepth 100000 in
theorem gcd_bad (l1 l2 : List UInt8) (w : World) (h1 : l1.length ≤ 140737488351232) (h2 : l2.length ≤ 140737488351232) (v : K.validL l1 = false ∨ K.validL l2 = false) :
    Calls Tryd.prog 22 #[.string (Str l1), .string (Str l2)] w (BadStr w) := by
  go_enter Tryd.func22, Tryd.ntmps22
  go_wp2_with fail
  refine (combine_bad _ l1 l2 w h1 h2 v).mono ?_
  rintro e w1 ⟨rfl, hx⟩
  go_wp2
  go_ret2
  exact ⟨rfl, hx⟩
end Go.Proofs.YtoilkfohhhidpaaDoor
/- num.Compare, Power, Rest -/
namespace Go.Proofs.YtoilkfohhhidpaaDoor
open Go.RowKit
theorem both_bad (l1 l2 : List UInt8) (w : World) (h1 : l1.length ≤ 140737488351232) (h2 : l2.length ≤ 140737488351232) (v : K.validL l1 = false ∨ K.validL l2 = false) :
    Calls Tryd.prog 48 #[.string (Str l1), .string (Str l2)] w (BothBad w) := by
  cases h : K.validL l1 with
  | false => exact both_bad1 l1 l2 w h1 h
  | true =>
    rcases v with v | v
    · rw [h] at v; cases v
    · exact both_bad2 l1 l2 w h1 h2 h v
set_option maxRecDepth 100000 in
set_option maxHeartbeats 800000 in
theorem compare_ok (l1 l2 : List UInt8) (w : World) (h1 : l1.length ≤ 140737488351232) (h2 : l2.length ≤ 140737488351232) (v1 : K.validL l1 = true) (v2 : K.validL l2 = true) :
    Calls Tryd.prog 11 #[.string (Str l1), .string (Str l2)] w (fun e w' => e = .returned (.tuple #[.int .i64 (sgnI (K.numL l1) (K.numL l2)), .int .i64 0]) ∧ Ext w w') := by
  have g1 := fits_big (K.txt_numL l1 v1).2
  have g2 := fits_big (K.txt_numL l2 v2).2
  go_enter Tryd.func11, Tryd.ntmps11
  go_wp2_with fail
  refine (both_ok l1 l2 w h1 h2 v1 v2).mono ?_
  rintro e w1 ⟨⟨y1, y2, rfl, ⟨z1, b1, rfl, hb1, hz1⟩, ⟨z2, b2, rfl, hb2, hz2⟩⟩, hx1⟩
  obtain ⟨A1, k1, c1, rfl⟩ := hz1.slice
  obtain ⟨A2, k2, c2, rfl⟩ := hz2.slice
  have hE : Ext w1 ((w1.alloc (.cells #[.bool b1, .slice A1 k1 c1] 72)).alloc (.cells #[.bool b2, .slice A2 k2 c2] 72)) := ((Ext.rfl' w1).alloc' _).alloc' _
  have n1 := (NumV.mk' hb1 hz1).ext hE
  have n2 := (NumV.mk' hb2 hz2).ext hE
  have hE2 := hx1.step hE
  clear hb1 hz1 hb2 hz2 hx1 hE
  go_wp2_with fail
  refine (ncmp_any _ _ _ _ _ n1 n2 g1 g2).mono ?_
  rintro e w2 ⟨rfl, hx2⟩
  obtain ⟨sg, hsg⟩ : ∃ sg, sgnI (K.numL l1) (K.numL l2) = sg := ⟨_, rfl⟩
  rw [hsg]
  have HSG := hid hsg
  clear hsg
  go_wp2
  go_ret2
  exact ⟨by rw [HSG.out]; rfl, hE2.step hx2⟩
set_option maxRecDepth 100000 in
set_option maxHeartbeats 800000 in
theorem compare_bad (l1 l2 : List UInt8) (w : World) (h1 : l1.length ≤ 140737488351232) (h2 : l2.length ≤ 140737488351232) (v : K.validL l1 = false ∨ K.validL l2 = false) :
    Calls Tryd.prog 11 #[.string (Str l1), .string (Str l2)] w (fun e w' => e = .returned (.tuple #[.int .i64 0, .int .i64 1]) ∧ Ext w w') := by
  go_enter Tryd.func11, Tryd.ntmps11
  go_wp2_with fail
  refine (both_bad l1 l2 w h1 h2 v).mono ?_
  rintro e w1 ⟨rfl, hx1⟩
  go_wp2
  go_ret2
  exact ⟨rfl, (hx1.alloc' _).alloc' _⟩
set_option maxRecDepth 100000 in
set_option maxHeartbeats 800000 in
theorem power_ok (l : List UInt8) (n : Nat) (w : World) (h1 : l.length ≤ 140737488351232) (v1 : K.validL l = true) (hn : n ≤ 10000) (ht : Tab w) :
    Calls Tryd.prog 26 #[.string (Str l), .int .i64 (n : Int)] w (ToldPost (K.numL l ^ n) w) := by
  have g1 := (K.txt_numL l v1).2
  go_enter Tryd.func26, Tryd.ntmps26
  go_wp2_with fail
  refine (read_ok l w h1 v1).mono ?_
  rintro e w1 ⟨⟨y1, rfl, ⟨z1, b1, rfl, hb1, hz1⟩⟩, hx1⟩
  obtain ⟨A1, k1, c1, rfl⟩ := hz1.slice
  have hE : Ext w1 (w1.alloc (.cells #[.bool b1, .slice A1 k1 c1] 72)) := (Ext.rfl' w1).alloc' _
  have n1 := (NumV.mk' hb1 hz1).ext hE
  have hE2 := hx1.step hE
  clear hb1 hz1 hx1 hE
  go_wp2_with fail
  refine (npow_any _ _ n _ n1 g1 hn).mono ?_
  rintro e w2 ⟨v, r, rfl, hv, hB, hr, hx2⟩
  have HR := hid hr
  clear hr
  go_wp2_with fail
  refine (write_any v r w2 hv hB (ht.ext (hE2.step hx2))).mono ?_
  intro e w3 hp
  have hq := told_step (hE2.step hx2) hp
  have hq2 : ToldPost (K.numL l ^ n) w e w3 := by
    rcases HR.out with h | ⟨h, h'⟩
    · rwa [h] at hq
    · exact ⟨fun hf => absurd hf h', fun _ => hq.2.1 h, hq.2.2⟩
  have HQ := hid hq2
  clear hE2 hx2 n1 hv hp hq2
  by_cases hf : K.fits r
  · have he := hq.1 hf
    subst he
    go_wp2
    go_ret2
    exact HQ.out
  · have he := hq.2.1 hf
    subst he
    go_wp2
    go_ret2
    exact HQ.out
set_option maxRecDepth 100000 in
set_option maxHeartbeats 800000 in
theorem power_form (l : List UInt8) (n : Int) (w : World) (h1 : l.length ≤ 140737488351232) (v1 : K.validL l = false) :
    Calls Tryd.prog 26 #[.string (Str l), .int .i64 n] w (BadStr w) := by
  go_enter Tryd.func26, Tryd.ntmps26
  go_wp2_with fail
  refine (read_bad l w h1 v1).mono ?_
  rintro e w1 ⟨rfl, hx1⟩
  go_wp2
  go_ret2
  exact ⟨rfl, hx1.alloc' _⟩
set_option maxRecDepth 100000 in
set_option maxHeartbeats 800000 in
theorem power_arg (l : List UInt8) (n : Int) (w : World) (h1 : l.length ≤ 140737488351232) (v1 : K.validL l = true) (hn : n < 0 ∨ 10000 < n) :
    Calls Tryd.prog 26 #[.string (Str l), .int .i64 n] w (fun e w' => e = .returned (.tuple #[.string ⟨#[]⟩, .int .i64 2]) ∧ Ext w w') := by
  go_enter Tryd.func26, Tryd.ntmps26
  go_wp2_with fail
  refine (read_ok l w h1 v1).mono ?_
  rintro e w1 ⟨⟨y1, rfl, ⟨z1, b1, rfl, hb1, hz1⟩⟩, hx1⟩
  obtain ⟨A1, k1, c1, rfl⟩ := hz1.slice
  by_cases h : n < 0
  · clear hn
    go_wp2
    go_ret2
    exact ⟨rfl, hx1.alloc' _⟩
  · have hn2 : 10000 < n := by omega
    clear hn
    go_wp2
    go_ret2
    exact ⟨rfl, hx1.alloc' _⟩
set_option maxRecDepth 100000 in
set_option maxHeartbeats 800000 in
theorem rest_ok (l : List UInt8) (d : Nat) (w : World) (h1 : l.length ≤ 140737488351232) (v1 : K.validL l = true) (hd : 1 ≤ d) (hd2 : d ≤ 2147483647) :
    Calls Tryd.prog 27 #[.string (Str l), .int .i64 (d : Int)] w (fun e w' => e = .returned (.tuple #[.int .i64 (K.numL l % d), .int .i64 0]) ∧ Ext w w') := by
  have g1 := fits_big (K.txt_numL l v1).2
  go_enter Tryd.func27, Tryd.ntmps27
  go_wp2_with fail
  refine (read_ok l w h1 v1).mono ?_
  rintro e w1 ⟨⟨y1, rfl, ⟨z1, b1, rfl, hb1, hz1⟩⟩, hx1⟩
  obtain ⟨A1, k1, c1, rfl⟩ := hz1.slice
  have hE : Ext w1 (w1.alloc (.cells #[.bool b1, .slice A1 k1 c1] 72)) := (Ext.rfl' w1).alloc' _
  have n1 := (NumV.mk' hb1 hz1).ext hE
  have hE2 := hx1.step hE
  clear hb1 hz1 hx1 hE
  go_wp2_with fail
  refine (nrest_any _ _ d _ n1 g1 (by omega) (by omega)).mono ?_
  rintro e w2 ⟨rfl, hx2⟩
  have hr0 : 0 ≤ K.numL l % (d : Int) := Int.emod_nonneg _ (by omega)
  have hr1 : K.numL l % (d : Int) < d := Int.emod_lt_of_pos _ (by omega)
  obtain ⟨r, hsg⟩ : ∃ r, K.numL l % (d : Int) = r := ⟨_, rfl⟩
  rw [hsg] at hr0 hr1 ⊢
  have HSG := hid hsg
  clear hsg
  go_wp2
  go_ret2
  exact ⟨by rw [HSG.out]; rfl, hE2.step hx2⟩
set_option maxRecDepth 100000 in
set_option maxHeartbeats 800000 in
theorem rest_form (l : List UInt8) (n : Int) (w : World) (h1 : l.length ≤ 140737488351232) (v1 : K.validL l = false) :
    Calls Tryd.prog 27 #[.string (Str l), .int .i64 n] w (fun e w' => e = .returned (.tuple #[.int .i64 0, .int .i64 1]) ∧ Ext w w') := by
  go_enter Tryd.func27, Tryd.ntmps27
  go_wp2_with fail
  refine (read_bad l w h1 v1).mono ?_
  rintro e w1 ⟨rfl, hx1⟩
  go_wp2
  go_ret2
  exact ⟨rfl, hx1.alloc' _⟩
set_option maxRecDepth 100000 in
set_option maxHeartbeats 800000 in
theorem rest_arg (l : List UInt8) (n : Int) (w : World) (h1 : l.length ≤ 140737488351232) (v1 : K.validL l = true) (hn : n < 1 ∨ 2147483647 < n) :
    Calls Tryd.prog 27 #[.string (Str l), .int .i64 n] w (fun e w' => e = .returned (.tuple #[.int .i64 0, .int .i64 2]) ∧ Ext w w') := by
  go_enter Tryd.func27, Tryd.ntmps27
  go_wp2_with fail
  refine (read_ok l w h1 v1).mono ?_
  rintro e w1 ⟨⟨y1, rfl, ⟨z1, b1, rfl, hb1, hz1⟩⟩, hx1⟩
  obtain ⟨A1, k1, c1, rfl⟩ := hz1.slice
  by_cases h : n < 1
  · clear hn
    go_wp2
    go_ret2
    exact ⟨rfl, hx1.alloc' _⟩
  · have hn2 : 2147483647 < n := by omega
    clear hn
    go_wp2
    go_ret2
    exact ⟨rfl, hx1.alloc' _⟩
end Go.Proofs.YtoilkfohhhidpaaDoor
/- num.Divide -/
namespace Go.Proofs.YtoilkfohhhidpaaDoor
open Go.RowKit
def Bad2 (k : Int) (w : World) (e : Ending) (w' : World) : Prop := e = .returned (.tuple #[.string ⟨#[]⟩, .string ⟨#[]⟩, .int .i64 k]) ∧ Ext w w'
set_option maxRecDepth 100000 in
set_option maxHeartbeats 800000 in
theorem divide_form (l1 l2 : List UInt8) (w : World) (h1 : l1.length ≤ 140737488351232) (h2 : l2.length ≤ 140737488351232) (v : K.validL l1 = false ∨ K.validL l2 = false) :
    Calls Tryd.prog 21 #[.string (Str l1), .string (Str l2)] w (Bad2 1 w) := by
  go_enter Tryd.func21, Tryd.ntmps21
  go_wp2_with fail
  refine (both_bad l1 l2 w h1 h2 v).mono ?_
  rintro e w1 ⟨rfl, hx1⟩
  go_wp2
  go_ret3
  exact ⟨rfl, (hx1.alloc' _).alloc' _⟩
set_option maxRecDepth 100000 in
set_option maxHeartbeats 800000 in
theorem divide_arg (l1 l2 : List UInt8) (w : World) (h1 : l1.length ≤ 140737488351232) (h2 : l2.length ≤ 140737488351232) (v1 : K.validL l1 = true) (v2 : K.validL l2 = true) (hn : ¬ 0 < K.numL l2) :
    Calls Tryd.prog 21 #[.string (Str l1), .string (Str l2)] w (Bad2 2 w) := by
  have hd : decide (0 < K.numL l2) = false := decide_eq_false hn
  have HD := hid hd
  clear hd hn
  go_enter Tryd.func21, Tryd.ntmps21
  go_wp2_with fail
  refine (both_ok l1 l2 w h1 h2 v1 v2).mono ?_
  rintro e w1 ⟨⟨y1, y2, rfl, ⟨z1, b1, rfl, hb1, hz1⟩, ⟨z2, b2, rfl, hb2, hz2⟩⟩, hx1⟩
  obtain ⟨A1, k1, c1, rfl⟩ := hz1.slice
  obtain ⟨A2, k2, c2, rfl⟩ := hz2.slice
  have hE : Ext w1 ((w1.alloc (.cells #[.bool b1, .slice A1 k1 c1] 72)).alloc (.cells #[.bool b2, .slice A2 k2 c2] 72)) := ((Ext.rfl' w1).alloc' _).alloc' _
  have n2 := (NumV.mk' hb2 hz2).ext hE
  have hE2 := hx1.step hE
  clear hb1 hz1 hb2 hz2 hx1 hE
  go_wp2_with fail
  refine (positive_any _ _ _ n2).mono ?_
  rintro e w2 ⟨rfl, hx2⟩
  rw [HD.out]
  go_wp2
  go_ret3
  exact ⟨rfl, hE2.step hx2⟩
def DivOk (q r : Int) (w : World) (e : Ending) (w' : World) : Prop := e = .returned (.tuple #[.string (Str (K.txt q)), .string (Str (K.txt r)), .int .i64 0]) ∧ Ext w w'
set_option maxRecDepth 100000 in
set_option maxHeartbeats 1600000 in
theorem divide_ok (l1 l2 : List UInt8) (w : World) (h1 : l1.length ≤ 140737488351232) (h2 : l2.length ≤ 140737488351232) (v1 : K.validL l1 = true) (v2 : K.validL l2 = true) (hn : 0 < K.numL l2) (ht : Tab w) :
    Calls Tryd.prog 21 #[.string (Str l1), .string (Str l2)] w (DivOk (K.numL l1 / K.numL l2) (K.numL l1 % K.numL l2) w) := by
  have g1 := fits_big (K.txt_numL l1 v1).2
  have g2 := fits_big (K.txt_numL l2 v2).2
  have hd : decide (0 < K.numL l2) = true := decide_eq_true hn
  have HD := hid hd
  have hr0 : 0 ≤ K.numL l1 % K.numL l2 := Int.emod_nonneg _ (by omega)
  have hr1 : K.numL l1 % K.numL l2 < K.numL l2 := Int.emod_lt_of_pos _ hn
  have hqb : (K.numL l1 / K.numL l2).natAbs ≤ BIG := Nat.le_trans (Int.natAbs_ediv_le_natAbs _ _) g1
  have hrb : (K.numL l1 % K.numL l2).natAbs ≤ BIG := by omega
  have HQ := hid hqb
  have HR := hid hrb
  clear hd hr0 hr1 hqb hrb
  go_enter Tryd.func21, Tryd.ntmps21
  go_wp2_with fail
  refine (both_ok l1 l2 w h1 h2 v1 v2).mono ?_
  rintro e w1 ⟨⟨y1, y2, rfl, ⟨z1, b1, rfl, hb1, hz1⟩, ⟨z2, b2, rfl, hb2, hz2⟩⟩, hx1⟩
  obtain ⟨A1, k1, c1, rfl⟩ := hz1.slice
  obtain ⟨A2, k2, c2, rfl⟩ := hz2.slice
  have hE : Ext w1 ((w1.alloc (.cells #[.bool b1, .slice A1 k1 c1] 72)).alloc (.cells #[.bool b2, .slice A2 k2 c2] 72)) := ((Ext.rfl' w1).alloc' _).alloc' _
  have n1 := (NumV.mk' hb1 hz1).ext hE
  have n2 := (NumV.mk' hb2 hz2).ext hE
  have hE2 := hx1.step hE
  clear hb1 hz1 hb2 hz2 hx1 hE
  go_wp2_with fail
  refine (positive_any _ _ _ n2).mono ?_
  rintro e w2 ⟨rfl, hx2⟩
  rw [HD.out]
  obtain ⟨f0, f1, f2, f3⟩ := boxes hx2
  go_wp2_with fail
  refine (ndivide_any _ _ _ _ _ (n1.ext hx2) (n2.ext hx2) g1 g2 hn).mono ?_
  rintro e w3 ⟨u1, u2, rfl, ⟨z3, b3, rfl, hb3, hz3⟩, ⟨z4, b4, rfl, hb4, hz4⟩, hx3⟩
  obtain ⟨A3, k3, c3, rfl⟩ := hz3.slice
  obtain ⟨A4, k4, c4, rfl⟩ := hz4.slice
  have hE3 := (hE2.step hx2).step hx3
  have hE4 : Ext w3 ((w3.alloc (.cells #[.bool b3, .slice A3 k3 c3] 72)).alloc (.cells #[.bool b4, .slice A4 k4 c4] 72)) := ((Ext.rfl' w3).alloc' _).alloc' _
  have n3 := (NumV.mk' hb3 hz3).ext hE4
  have n4 := (NumV.mk' hb4 hz4).ext hE4
  have ht4 := ht.ext (hE3.step hE4)
  have hk : ∀ w', Ext ((w3.alloc (.cells #[.bool b3, .slice A3 k3 c3] 72)).alloc (.cells #[.bool b4, .slice A4 k4 c4] 72)) w' → _ := fun w' e => boxes e
  have HK := hid hk
  have N3 := hid n3
  have N4 := hid n4
  have HT := hid ht4
  have HE := hid (hE3.step hE4)
  clear hk n3 n4 ht4 hE3 hE4 hE2 hx2 hx3 hz3 hz4 hb3 hb4 n1 n2 f0 f1 f2 f3 ht
  go_wp2_with fail
  go_region_held3 (fun w' => w'.cell? ⟨w3.heap.size, 0, none⟩ = some (.bool b3) ∧ w'.cell? ⟨w3.heap.size, 1, none⟩ = some (.slice A3 k3 c3) ∧ w'.cell? ⟨w3.heap.size + 1, 0, none⟩ = some (.bool b4) ∧ w'.cell? ⟨w3.heap.size + 1, 1, none⟩ = some (.slice A4 k4 c4))
    (first | go_keep | exact HK.out _ hxa | exact HK.out _ (hxa.step hx6))
    (first | (go_at_call_of 60 (Value.agg #[Value.bool b3, Value.slice A3 k3 c3]); refine (text_any _ _ _ (N3.out.ext ?_) HQ.out (HT.out.ext ?_)).mono ?_; exact (Ext.rfl' _).drew'; exact (Ext.rfl' _).drew'; rintro e w5 ⟨rfl, hx5⟩; have hxa := Ext.undrew hx5; clear hx5) | (go_at_call_of 60 (Value.agg #[Value.bool b4, Value.slice A4 k4 c4]); refine (text_any _ _ _ (N4.out.ext ?_) HR.out (HT.out.ext ?_)).mono ?_; exact hxa; exact hxa; rintro e w6 ⟨rfl, hx6⟩))
  go_wp2
  go_ret3
  exact ⟨rfl, (HE.out.step hxa).step hx6⟩
end Go.Proofs.YtoilkfohhhidpaaDoor
/- katabasisref01.Valid -/
namespace Go.Proofs.YtoilkfohhhidpaaDoor
open Go.RowKit
theorem Str_list (l : List UInt8) : (Str l).toList = l := Str_toList l
theorem ne_lit {c d : UInt8} (h : ¬ c = d) : ((c.toNat : Int) == (d.toNat : Int)) = false := by
  rw [beq_eq_false_iff_ne]; intro e; exact h (UInt8.toNat.inj (by omega))
/-- the loop over the digits from 'a' on -/
theorem all_drop {l : List UInt8} {a k : Nat} {c : UInt8} (hk : a ≤ k) (h : l[k]? = some c) (ha : ((l.take k).drop a).all K.dig = true) (hc : K.dig c = true) : ((l.take (k + 1)).drop a).all K.dig = true := by
  obtain ⟨hk', e⟩ := List.getElem?_eq_some_iff.1 h
  rw [List.take_succ_eq_append_getElem hk', e, List.drop_append_of_le_length (by rw [List.length_take]; omega), List.all_append, ha]
  simp [hc]
theorem all_drop_false {l : List UInt8} {a k : Nat} {c : UInt8} (hk : a ≤ k) (h : l[k]? = some c) (hc : K.dig c = false) : (l.drop a).all K.dig = false := by
  rw [List.all_eq_false]
  refine ⟨c, ?_, by simp [hc]⟩
  apply List.mem_of_getElem? (i := k - a)
  rw [List.getElem?_drop, show a + (k - a) = k by omega]
  exact h
theorem body_drop (l : List UInt8) : K.body l = l.drop (if l.head? = some 45 then 1 else 0) := by
  unfold K.body; split <;> simp
set_option maxRecDepth 100000 in
set_option maxHeartbeats 1600000 in
theorem rvalid_any (l : List UInt8) (w : World) (hl : l.length ≤ 140737488351232) :
    Calls Tryd.prog 13 #[.string (Str l)] w fun e w' => e = .returned (.bool (K.validL l)) ∧ w = w' := by
  have hv : K.validL l = (!(K.body l).isEmpty && decide ((K.body l).length ≤ 2000) && (if (K.body l).head? = some 48 then l == [48] else (K.body l).all K.dig)) := rfl
  have hS : (Str l).size = l.length := Str_size l
  have hT := Str_list l
  cases l with
  | nil =>
    have HVV : Hid (K.validL [] = false) := hid rfl
    clear hv hS hl
    go_enter Tryd.func13, Tryd.ntmps13
    go_wp2
    go_ret
    exact ⟨rfl, rfl⟩
  | cons c r =>
    obtain ⟨h0, e0⟩ := Str_at (l := c :: r) (i := 0) (c := c) rfl
    have hlen : (c :: r).length = r.length + 1 := rfl
    by_cases hc : c = 45
    · subst hc
      have hcc : ((((Str (45 :: r))[0]'h0).toNat : Int) == 45) = true := by rw [e0]; rfl
      have hb : K.body (45 :: r) = r := rfl
      rw [hb] at hv
      clear e0
      cases r with
      | nil =>
        have HVV : Hid (K.validL [45] = false) := hid rfl
        clear hv
        go_enter Tryd.func13, Tryd.ntmps13
        go_wp2
        go_ret
        exact ⟨by rw [HVV.out]; rfl, rfl⟩
      | cons d r =>
        obtain ⟨h1, e1⟩ := Str_at (l := 45 :: d :: r) (i := 1) (c := d) rfl
        have hlen2 : (45 :: d :: r).length = r.length + 1 + 1 := rfl
        by_cases hbig : r.length + 1 ≤ 2000
        · by_cases hd : d = 48
          · subst hd
            have HVV : Hid (K.validL (45 :: 48 :: r) = false) := by refine hid ?_; rw [hv]; simp
            have hdd : ((((Str (45 :: 48 :: r))[1]'h1).toNat : Int) == 48) = true := by rw [e1]; rfl
            clear hv e1
            go_enter Tryd.func13, Tryd.ntmps13
            go_wp2
            go_ret
            exact ⟨by rw [HVV.out]; rfl, rfl⟩
          · have hvv : K.validL (45 :: d :: r) = ((45 :: d :: r).drop 1).all K.dig := by
              rw [hv, if_neg (by simpa using hd)]
              simp only [List.isEmpty_cons, Bool.not_false, Bool.true_and, List.length_cons, hbig, decide_true]
              rfl
            have HVV := hid hvv
            have hdd : ((((Str (45 :: d :: r))[1]'h1).toNat : Int) == 48) = false := by
              rw [e1]; exact ne_lit hd
            clear hv e1 hd hvv
            go_enter Tryd.func13, Tryd.ntmps13
            go_wp2_with fail
            generalize hll : 45 :: d :: r = l at *
            have HVV : Hid (K.validL (45 :: d :: r) = (l.drop 1).all K.dig) := by rw [hll]; exact HVV
            generalize (Str l)[0]'h0 = x0 at *
            generalize (Str l)[1]'h1 = x1 at *
            have hpos : 1 ≤ l.length := by omega
            clear hll h0 hlen hlen2 hdd hcc hT h1 hb hbig
            go_loop [5] (fun i => ∃ k : Nat, 1 ≤ k ∧ k ≤ l.length ∧ i = .int .i64 k ∧ Hid (((l.take k).drop 1).all K.dig = true)) (fun i => l.length - (intOf i).toNat)
            case atStart => exact ⟨1, Nat.le_refl _, by omega, rfl, hid (by rw [List.drop_of_length_le (by rw [List.length_take]; omega)]; rfl)⟩
            case round =>
              obtain ⟨k, hk1, hk2, rfl, hall⟩ := hrel
              by_cases hlt : k < l.length
              · obtain ⟨x, ex⟩ : ∃ x, l[k]? = some x := ⟨_, List.getElem?_eq_getElem hlt⟩
                obtain ⟨hh, e0⟩ := Str_at ex
                have HX := hid ex
                clear ex
                by_cases hd1 : x.toNat < 48
                · have hf : (l.drop 1).all K.dig = false := all_drop_false hk1 HX.out (by unfold K.dig; simp; omega)
                  have HF := hid hf
                  have e1 : ((Str l)[k]'hh).toNat < 48 := by rw [e0]; exact hd1
                  clear hf e0
                  go_wp2
                  go_ret
                  exact ⟨by rw [HVV.out, HF.out]; rfl, rfl⟩
                · by_cases hd2 : 57 < x.toNat
                  · have hf : (l.drop 1).all K.dig = false := all_drop_false hk1 HX.out (by unfold K.dig; simp; omega)
                    have HF := hid hf
                    have e1 : ¬ ((Str l)[k]'hh).toNat < 48 := by rw [e0]; exact hd1
                    have e2 : 57 < ((Str l)[k]'hh).toNat := by rw [e0]; exact hd2
                    clear hf e0
                    go_wp2
                    go_ret
                    exact ⟨by rw [HVV.out, HF.out]; rfl, rfl⟩
                  · have hdg : Hid (K.dig x = true) := by unfold K.dig Hid; simp; omega
                    have e1 : ¬ ((Str l)[k]'hh).toNat < 48 := by rw [e0]; exact hd1
                    have e2 : ¬ 57 < ((Str l)[k]'hh).toNat := by rw [e0]; exact hd2
                    clear e0
                    go_wp2
                    go_round
                    case rel => exact ⟨k + 1, by omega, by omega, rfl, hid (all_drop hk1 HX.out hall.out hdg.out)⟩
                    case measure => simp [intOf]; omega
              · have hf : Hid ((l.drop 1).all K.dig = true) := by
                  have h := hall.out
                  rwa [List.take_of_length_le (by omega)] at h
                go_wp2
                go_ret
                exact ⟨by rw [HVV.out, hf.out]; rfl, rfl⟩
        · have HVV : Hid (K.validL (45 :: d :: r) = false) := by refine hid ?_; rw [hv]; simp; omega
          clear hv e1
          go_enter Tryd.func13, Tryd.ntmps13
          go_wp2
          go_ret
          exact ⟨by rw [HVV.out]; rfl, rfl⟩
    · have hcc : ((((Str (c :: r))[0]'h0).toNat : Int) == 45) = false := by
        rw [e0]; exact ne_lit hc
      have hb : K.body (c :: r) = c :: r := by unfold K.body; rw [if_neg (by simpa using hc)]
      rw [hb] at hv
      by_cases hbig : r.length + 1 ≤ 2000
      · by_cases hd : c = 48
        · subst hd
          have hdd : ((((Str (48 :: r))[0]'h0).toNat : Int) == 48) = true := by rw [e0]; rfl
          cases r with
          | nil =>
            have HVV : Hid (K.validL [48] = ([48].drop 0).all K.dig) := hid rfl
            clear hv e0 hc
            go_enter Tryd.func13, Tryd.ntmps13
            go_wp2_with fail
            generalize hll : [(48 : UInt8)] = l at *
            have HVV : Hid (K.validL ([(48 : UInt8)]) = (l.drop 0).all K.dig) := by rw [hll]; exact HVV
            generalize (Str l)[0]'h0 = x0 at *
            have hpos : 0 ≤ l.length := by omega
            clear hll h0 hlen hdd hcc hT hb hbig
            go_loop [5] (fun i => ∃ k : Nat, 0 ≤ k ∧ k ≤ l.length ∧ i = .int .i64 k ∧ Hid (((l.take k).drop 0).all K.dig = true)) (fun i => l.length - (intOf i).toNat)
            case atStart => exact ⟨0, Nat.le_refl _, by omega, rfl, hid (by rw [List.drop_of_length_le (by rw [List.length_take]; omega)]; rfl)⟩
            case round =>
              obtain ⟨k, hk1, hk2, rfl, hall⟩ := hrel
              by_cases hlt : k < l.length
              · obtain ⟨x, ex⟩ : ∃ x, l[k]? = some x := ⟨_, List.getElem?_eq_getElem hlt⟩
                obtain ⟨hh, e0⟩ := Str_at ex
                have HX := hid ex
                clear ex
                by_cases hd1 : x.toNat < 48
                · have hf : (l.drop 0).all K.dig = false := all_drop_false hk1 HX.out (by unfold K.dig; simp; omega)
                  have HF := hid hf
                  have e1 : ((Str l)[k]'hh).toNat < 48 := by rw [e0]; exact hd1
                  clear hf e0
                  go_wp2
                  go_ret
                  exact ⟨by rw [HVV.out, HF.out]; rfl, rfl⟩
                · by_cases hd2 : 57 < x.toNat
                  · have hf : (l.drop 0).all K.dig = false := all_drop_false hk1 HX.out (by unfold K.dig; simp; omega)
                    have HF := hid hf
                    have e1 : ¬ ((Str l)[k]'hh).toNat < 48 := by rw [e0]; exact hd1
                    have e2 : 57 < ((Str l)[k]'hh).toNat := by rw [e0]; exact hd2
                    clear hf e0
                    go_wp2
                    go_ret
                    exact ⟨by rw [HVV.out, HF.out]; rfl, rfl⟩
                  · have hdg : Hid (K.dig x = true) := by unfold K.dig Hid; simp; omega
                    have e1 : ¬ ((Str l)[k]'hh).toNat < 48 := by rw [e0]; exact hd1
                    have e2 : ¬ 57 < ((Str l)[k]'hh).toNat := by rw [e0]; exact hd2
                    clear e0
                    go_wp2
                    go_round
                    case rel => exact ⟨k + 1, by omega, by omega, rfl, hid (all_drop hk1 HX.out hall.out hdg.out)⟩
                    case measure => simp [intOf]; omega
              · have hf : Hid ((l.drop 0).all K.dig = true) := by
                  have h := hall.out
                  rwa [List.take_of_length_le (by omega)] at h
                go_wp2
                go_ret
                exact ⟨by rw [HVV.out, hf.out]; rfl, rfl⟩
          | cons d r =>
            have hbig2 : r.length + 1 + 1 ≤ 2000 := by simpa using hbig
            have HVV : Hid (K.validL (48 :: d :: r) = false) := by refine hid ?_; rw [hv]; simp
            clear hv e0 hc
            go_enter Tryd.func13, Tryd.ntmps13
            go_wp2
            go_ret
            exact ⟨by rw [HVV.out]; rfl, rfl⟩
        · have hvv : K.validL (c :: r) = ((c :: r).drop 0).all K.dig := by
            rw [hv, if_neg (by simpa using hd)]
            simp only [List.isEmpty_cons, Bool.not_false, Bool.true_and, List.length_cons, hbig, decide_true]
            rfl
          have HVV := hid hvv
          have hdd : ((((Str (c :: r))[0]'h0).toNat : Int) == 48) = false := by
            rw [e0]; exact ne_lit hd
          clear hv e0 hd hvv hc
          go_enter Tryd.func13, Tryd.ntmps13
          go_wp2_with fail
          generalize hll : c :: r = l at *
          have HVV : Hid (K.validL (c :: r) = (l.drop 0).all K.dig) := by rw [hll]; exact HVV
          generalize (Str l)[0]'h0 = x0 at *
          have hpos : 0 ≤ l.length := by omega
          clear hll h0 hlen hdd hcc hT hb hbig
          go_loop [5] (fun i => ∃ k : Nat, 0 ≤ k ∧ k ≤ l.length ∧ i = .int .i64 k ∧ Hid (((l.take k).drop 0).all K.dig = true)) (fun i => l.length - (intOf i).toNat)
          case atStart => exact ⟨0, Nat.le_refl _, by omega, rfl, hid (by rw [List.drop_of_length_le (by rw [List.length_take]; omega)]; rfl)⟩
          case round =>
            obtain ⟨k, hk1, hk2, rfl, hall⟩ := hrel
            by_cases hlt : k < l.length
            · obtain ⟨x, ex⟩ : ∃ x, l[k]? = some x := ⟨_, List.getElem?_eq_getElem hlt⟩
              obtain ⟨hh, e0⟩ := Str_at ex
              have HX := hid ex
              clear ex
              by_cases hd1 : x.toNat < 48
              · have hf : (l.drop 0).all K.dig = false := all_drop_false hk1 HX.out (by unfold K.dig; simp; omega)
                have HF := hid hf
                have e1 : ((Str l)[k]'hh).toNat < 48 := by rw [e0]; exact hd1
                clear hf e0
                go_wp2
                go_ret
                exact ⟨by rw [HVV.out, HF.out]; rfl, rfl⟩
              · by_cases hd2 : 57 < x.toNat
                · have hf : (l.drop 0).all K.dig = false := all_drop_false hk1 HX.out (by unfold K.dig; simp; omega)
                  have HF := hid hf
                  have e1 : ¬ ((Str l)[k]'hh).toNat < 48 := by rw [e0]; exact hd1
                  have e2 : 57 < ((Str l)[k]'hh).toNat := by rw [e0]; exact hd2
                  clear hf e0
                  go_wp2
                  go_ret
                  exact ⟨by rw [HVV.out, HF.out]; rfl, rfl⟩
                · have hdg : Hid (K.dig x = true) := by unfold K.dig Hid; simp; omega
                  have e1 : ¬ ((Str l)[k]'hh).toNat < 48 := by rw [e0]; exact hd1
                  have e2 : ¬ 57 < ((Str l)[k]'hh).toNat := by rw [e0]; exact hd2
                  clear e0
                  go_wp2
                  go_round
                  case rel => exact ⟨k + 1, by omega, by omega, rfl, hid (all_drop hk1 HX.out hall.out hdg.out)⟩
                  case measure => simp [intOf]; omega
            · have hf : Hid ((l.drop 0).all K.dig = true) := by
                have h := hall.out
                rwa [List.take_of_length_le (by omega)] at h
              go_wp2
              go_ret
              exact ⟨by rw [HVV.out, hf.out]; rfl, rfl⟩
      · have HVV : Hid (K.validL (c :: r) = false) := by refine hid ?_; rw [hv]; simp; omega
        clear hv e0 hc
        go_enter Tryd.func13, Tryd.ntmps13
        go_wp2
        go_ret
        exact ⟨by rw [HVV.out]; rfl, rfl⟩
end Go.Proofs.YtoilkfohhhidpaaDoor
/- the law package's helpers: texts of numbers, Power at two inputs -/
namespace Go.Proofs.YtoilkfohhhidpaaDoor
open Go.RowKit
def told (n : Int) : List UInt8 := if n.natAbs < K.LIM then K.txt n else []
theorem told_fits {n : Int} (h : K.fits n) : told n = K.txt n := if_pos h
theorem told_not {n : Int} (h : ¬ K.fits n) : told n = [] := if_neg h
theorem told_len (n : Int) : (told n).length ≤ 2001 := by
  by_cases h : K.fits n
  · rw [told_fits h]; exact K.txt_len n h
  · rw [told_not h]; simp
def sL (a b : List UInt8) : List UInt8 := if K.validL a = true ∧ K.validL b = true then told (K.numL a + K.numL b) else []
def mL (a b : List UInt8) : List UInt8 := if K.validL a = true ∧ K.validL b = true then told (K.numL a * K.numL b) else []
theorem sL_len (a b : List UInt8) : (sL a b).length ≤ 2001 := by unfold sL; split; exact told_len _; simp
theorem mL_len (a b : List UInt8) : (mL a b).length ≤ 2001 := by unfold mL; split; exact told_len _; simp
theorem not_both {a b : List UInt8} (h : ¬ (K.validL a = true ∧ K.validL b = true)) : K.validL a = false ∨ K.validL b = false := by
  cases h1 : K.validL a <;> cases h2 : K.validL b <;> simp_all
theorem told_any (n : Int) (w : World) {e : Ending} {w' : World} (h : ToldPost n w e w') : ∃ c : Int, e = .returned (.tuple #[.string (Str (told n)), .int .i64 c]) := by
  by_cases hf : K.fits n
  · exact ⟨0, by rw [told_fits hf]; exact h.1 hf⟩
  · exact ⟨3, by rw [told_not hf]; exact h.2.1 hf⟩
def tw (k : Nat) : Nat := 2 ^ k
theorem natAbs_two (k : Nat) : ((2 : Int) ^ k).natAbs = tw k := by unfold tw; rw [Int.natAbs_pow]; rfl
theorem tw_big : K.LIM ≤ tw 10000 := by decide +kernel
theorem not_fits_tw : ¬ K.fits ((2 : Int) ^ 10000) := by
  unfold K.fits; rw [natAbs_two]; exact Nat.not_lt.mpr tw_big
theorem power_big (w : World) (ht : Tab w) :
    Calls Tryd.prog 26 #[.string ⟨#[50]⟩, .int .i64 10000] w (fun e w' => e = .returned (.tuple #[.string ⟨#[]⟩, .int .i64 3]) ∧ Ext w w') := by
  have h := power_ok [50] 10000 w (by simp) (by decide +kernel) (by omega) ht
  rw [show K.numL [50] = 2 from by decide +kernel] at h
  exact h.mono fun e w' h => ⟨h.2.1 not_fits_tw, h.2.2⟩
def L100 : List UInt8 := [49, 50, 54, 55, 54, 53, 48, 54, 48, 48, 50, 50, 56, 50, 50, 57, 52, 48, 49, 52, 57, 54, 55, 48, 51, 50, 48, 53, 51, 55, 54]
theorem L100_ok : K.validL L100 = true := by decide +kernel
theorem L100_num : K.numL L100 = (2 : Int) ^ 100 := by decide +kernel
theorem power_hundred (w : World) (ht : Tab w) :
    Calls Tryd.prog 26 #[.string ⟨#[50]⟩, .int .i64 100] w (fun e w' => e = .returned (.tuple #[.string (Str L100), .int .i64 0]) ∧ Ext w w') := by
  have h := power_ok [50] 100 w (by simp) (by decide +kernel) (by omega) ht
  rw [show K.numL [50] = 2 from by decide +kernel, ← L100_num] at h
  refine h.mono fun e w' h => ⟨?_, h.2.2⟩
  have := h.1 (K.txt_numL L100 L100_ok).2
  rwa [(K.txt_numL L100 L100_ok).1] at this
theorem lit_eq {l : List UInt8} {n : Int} (h : K.validL l = true) (e : K.numL l = n) : K.fits n ∧ K.txt n = l := by
  subst e; exact ⟨(K.txt_numL l h).2, (K.txt_numL l h).1⟩
end Go.Proofs.YtoilkfohhhidpaaDoor
/- the law package's helper awake -/
namespace Go.Proofs.YtoilkfohhhidpaaDoor
open Go.RowKit
theorem Str_inj {a b : List UInt8} (h : Str a = Str b) : a = b := by
  have := congrArg ByteArray.toList h
  rwa [Str_toList, Str_toList] at this
def Alike (a b : List UInt8) : Prop := a = [] ∨ b = [] ∨ a = b
theorem divide_lit (w : World) (ht : Tab w) :
    Calls Tryd.prog 21 #[.string ⟨#[45, 55]⟩, .string ⟨#[50]⟩] w (fun e w' => e = .returned (.tuple #[.string ⟨#[45, 52]⟩, .string ⟨#[49]⟩, .int .i64 0]) ∧ Ext w w') := by
  have h := divide_ok [45, 55] [50] w (by simp) (by simp) (by decide +kernel) (by decide +kernel) (by decide +kernel) ht
  rw [show K.numL [45, 55] / K.numL [50] = -4 from by decide +kernel, show K.numL [45, 55] % K.numL [50] = 1 from by decide +kernel] at h
  refine h.mono fun e w' h => ⟨?_, h.2⟩
  rw [h.1, K.txt_of_lit [45, 52] (-4) (by decide +kernel) (by decide +kernel), K.txt_of_lit [49] 1 (by decide +kernel) (by decide +kernel)]
  rfl
theorem valid_lit (l : List UInt8) (b : Bool) (s : ByteArray) (hs : Str l = s) (hb : K.validL l = b) (hl : l.length ≤ 2001) (w : World) :
    Calls Tryd.prog 12 #[.string s] w (fun e w' => e = .returned (.bool b) ∧ Ext w w') := by
  subst hs hb
  exact valid_any l w (by omega)
def S100 : ByteArray := Str L100
set_option maxRecDepth 100000 in
theorem awake_any (w : World) (ht : Tab w) :
    Calls Tryd.prog 14 #[] w (fun e w' => e = .returned (.bool true) ∧ Ext w w') := by
  have HT := hid ht
  have e100 : (Str L100).toList = [49, 50, 54, 55, 54, 53, 48, 54, 48, 48, 50, 50, 56, 50, 50, 57, 52, 48, 49, 52, 57, 54, 55, 48, 51, 50, 48, 53, 51, 55, 54] := by rw [Str_toList]; rfl
  go_enter Tryd.func14, Tryd.ntmps14
  go_wp2_with fail
  refine (divide_lit w HT.out).mono ?_
  rintro e w1 ⟨rfl, hx1⟩
  go_wp2_with fail
  refine (power_big w1 (HT.out.ext hx1)).mono ?_
  rintro e w2 ⟨rfl, hx2⟩
  have hx2 := hx1.step hx2
  clear hx1
  go_wp2_with fail
  refine (power_hundred w2 (HT.out.ext hx2)).mono ?_
  rintro e w3 ⟨rfl, hx3⟩
  have hx3 := hx2.step hx3
  clear hx2
  go_wp2_with fail
  refine (valid_lit [45, 49, 55] true _ rfl (by decide +kernel) (by decide) w3).mono ?_
  rintro e w4 ⟨rfl, hx4⟩
  have hx4 := hx3.step hx4
  clear hx3
  go_wp2_with fail
  refine (valid_lit [48, 48, 55] false _ rfl (by decide +kernel) (by decide) w4).mono ?_
  rintro e w5 ⟨rfl, hx5⟩
  have hx5 := hx4.step hx5
  clear hx4
  go_wp2_with fail
  refine (valid_lit [45, 48] false _ rfl (by decide +kernel) (by decide) w5).mono ?_
  rintro e w6 ⟨rfl, hx6⟩
  have hx6 := hx5.step hx6
  clear hx5
  go_wp2_with fail
  refine (valid_lit [43, 49] false _ rfl (by decide +kernel) (by decide) w6).mono ?_
  rintro e w7 ⟨rfl, hx7⟩
  have hx7 := hx6.step hx7
  clear hx6
  go_wp2_with fail
  refine (valid_lit [] false _ rfl (by decide +kernel) (by decide) w7).mono ?_
  rintro e w8 ⟨rfl, hx8⟩
  have hx8 := hx7.step hx8
  clear hx7
  go_wp2
  go_ret
  exact ⟨rfl, hx8⟩
end Go.Proofs.YtoilkfohhhidpaaDoor
