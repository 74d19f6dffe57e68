/- num.combine, Add, Sub, Mul, Gcd -/
import Derived.Test.YtdbaemadphhhcaaDoorPow2
namespace Go.Proofs.YtdbaemadphhhcaaDoor
open Go.RowKit
theorem enter_of {P : Program} {f : FuncId} {fn : Func} (hf : P.funcs[f]? = some fn) (hname : (fn.name == "runtime.NumGoroutine") = false) (hb : fn.body.isSome = true) (args : Array Value) (w : World) :
    (callFunc f args).run P w = .ok (.enter f args) w := by
  obtain ⟨c, hc⟩ := Option.isSome_iff_exists.1 hb
  have h1 : fn.name ≠ "runtime.NumGoroutine" := by simpa using hname
  simp [callFunc, hf, h1, hc]
def BadStr (w : World) (e : Ending) (w' : World) : Prop := e = .returned (.tuple #[.string ⟨#[]⟩, .int .i64 1]) ∧ Ext w w'
theorem told_step {n : Int} {w w1 : World} {e : Ending} {w' : World} (h : Ext w w1) (k : ToldPost n w1 e w') : ToldPost n w e w' := ⟨k.1, k.2.1, h.step k.2.2⟩
set_option maxRecDepth 100000 in
set_option maxHeartbeats 800000 in
theorem combine_ok (f : FuncId) (hcf : ∀ args W, (callFunc f args).run Tryd.prog W = .ok (.enter f args) W) (k : Int) (l1 l2 : List UInt8) (w : World) (h1 : l1.length ≤ 140737488351232) (h2 : l2.length ≤ 140737488351232) (v1 : K.validL l1 = true) (v2 : K.validL l2 = true) (ht : Tab w)
    (hop : Hid (∀ W va vb, NumV W va (K.numL l1) → NumV W vb (K.numL l2) → Calls Tryd.prog f #[va, vb] W (NumPost k W))) (hk : k.natAbs ≤ BIG) :
    Calls Tryd.prog 39 #[.string (Str l1), .string (Str l2), .func (.func f) #[] #[]] w (ToldPost k w) := by
  go_enter Tryd.func39, Tryd.ntmps39
  go_wp2_with fail
  refine (both_ok l1 l2 w h1 h2 v1 v2).mono ?_
  rintro e w1 ⟨⟨y1, y2, rfl, ⟨z1, b1, rfl, hb1, hz1⟩, ⟨z2, b2, rfl, hb2, hz2⟩⟩, hx1⟩
  obtain ⟨A1, k1, c1, rfl⟩ := hz1.slice
  obtain ⟨A2, k2, c2, rfl⟩ := hz2.slice
  have hE : Ext w1 ((w1.alloc (.cells #[.bool b1, .slice A1 k1 c1] 59)).alloc (.cells #[.bool b2, .slice A2 k2 c2] 59)) := ((Ext.rfl' w1).alloc' _).alloc' _
  have n1 := (NumV.mk' hb1 hz1).ext hE
  have n2 := (NumV.mk' hb2 hz2).ext hE
  have hE2 := hx1.step hE
  clear hb1 hz1 hb2 hz2 hx1 hE
  go_wp2_with fail
  refine (hop.out _ _ _ n1 n2).mono ?_
  rintro e w2 ⟨v, rfl, hv, hx2⟩
  go_wp2_with fail
  refine (write_any v k w2 hv hk (ht.ext (hE2.step hx2))).mono ?_
  intro e w3 hp
  have hq := told_step (hE2.step hx2) hp
  clear hE2 hx2 n1 n2 hv hp
  by_cases hf : K.fits k
  · have he := hq.1 hf
    subst he
    go_wp2
    go_ret2
    exact hq
  · have he := hq.2.1 hf
    subst he
    go_wp2
    go_ret2
    exact hq
set_option maxRecDepth 100000 in
set_option maxHeartbeats 800000 in
theorem combine_bad (f : Value) (l1 l2 : List UInt8) (w : World) (h1 : l1.length ≤ 140737488351232) (h2 : l2.length ≤ 140737488351232) (v : K.validL l1 = false ∨ K.validL l2 = false) :
    Calls Tryd.prog 39 #[.string (Str l1), .string (Str l2), f] w (BadStr w) := by
  have hb : Calls Tryd.prog 43 #[.string (Str l1), .string (Str l2)] w (BothBad w) := by
    cases h : K.validL l1 with
    | false => exact both_bad1 l1 l2 w h1 h
    | true =>
      rcases v with v | v
      · rw [h] at v; cases v
      · exact both_bad2 l1 l2 w h1 h2 h v
  have HB := hid hb
  clear hb
  go_enter Tryd.func39, Tryd.ntmps39
  go_wp2_with fail
  refine HB.out.mono ?_
  rintro e w1 ⟨rfl, hx1⟩
  go_wp2
  go_ret2
  exact ⟨rfl, (hx1.alloc' _).alloc' _⟩
theorem gcd_le {a b c : Nat} (ha : a ≤ c) (hb : b ≤ c) : Nat.gcd a b ≤ c := by
  rcases Nat.eq_zero_or_pos a with h | h
  · subst h; rw [Nat.gcd_zero_left]; exact hb
  · exact Nat.le_trans (Nat.gcd_le_left b h) ha
set_option maxRecDepth 100000 in
theorem add_ok (l1 l2 : List UInt8) (w : World) (h1 : l1.length ≤ 140737488351232) (h2 : l2.length ≤ 140737488351232) (v1 : K.validL l1 = true) (v2 : K.validL l2 = true) (ht : Tab w) :
    Calls Tryd.prog 11 #[.string (Str l1), .string (Str l2)] w (ToldPost (K.numL l1 + K.numL l2) w) := by
  have f1 := fits_top (K.txt_numL l1 v1).2
  have f2 := fits_top (K.txt_numL l2 v2).2
  have g1 := fits_big (K.txt_numL l1 v1).2
  have g2 := fits_big (K.txt_numL l2 v2).2
  have hc := combine_ok 40 (enter_of Tryd.func40 (by kernel_rfl) (by kernel_rfl)) (K.numL l1 + K.numL l2) l1 l2 w h1 h2 v1 v2 ht (hid fun W va vb ha hb => nplus_any va vb _ _ W ha hb g1 g2) (by refine le_big (a := 224) ?_ (by omega); rw [show (224 : Nat) = 223 + 1 from rfl, TOP_add]; have := TOP_pos 223; have : TOP 1 = 1000000000 := rfl; rw [this]; omega)
  have HC := hid hc
  clear hc f1 f2 g1 g2
  go_enter Tryd.func11, Tryd.ntmps11
  go_wp2_with fail
  refine HC.out.mono ?_
  intro e w1 hq
  by_cases hf : K.fits (K.numL l1 + K.numL l2)
  · have he := hq.1 hf
    subst he
    go_wp2
    go_ret2
    exact hq
  · have he := hq.2.1 hf
    subst he
    go_wp2
    go_ret2
    exact hq
set_option maxRecDepth 100000 in
theorem add_bad (l1 l2 : List UInt8) (w : World) (h1 : l1.length ≤ 140737488351232) (h2 : l2.length ≤ 140737488351232) (v : K.validL l1 = false ∨ K.validL l2 = false) :
    Calls Tryd.prog 11 #[.string (Str l1), .string (Str l2)] w (BadStr w) := by
  go_enter Tryd.func11, Tryd.ntmps11
  go_wp2_with fail
  refine (combine_bad _ l1 l2 w h1 h2 v).mono ?_
  rintro e w1 ⟨rfl, hx⟩
  go_wp2
  go_ret2
  exact ⟨rfl, hx⟩
set_option maxRecDepth 100000 in
theorem sub_ok (l1 l2 : List UInt8) (w : World) (h1 : l1.length ≤ 140737488351232) (h2 : l2.length ≤ 140737488351232) (v1 : K.validL l1 = true) (v2 : K.validL l2 = true) (ht : Tab w) :
    Calls Tryd.prog 12 #[.string (Str l1), .string (Str l2)] w (ToldPost (K.numL l1 - K.numL l2) w) := by
  have f1 := fits_top (K.txt_numL l1 v1).2
  have f2 := fits_top (K.txt_numL l2 v2).2
  have g1 := fits_big (K.txt_numL l1 v1).2
  have g2 := fits_big (K.txt_numL l2 v2).2
  have hc := combine_ok 41 (enter_of Tryd.func41 (by kernel_rfl) (by kernel_rfl)) (K.numL l1 - K.numL l2) l1 l2 w h1 h2 v1 v2 ht (hid fun W va vb ha hb => nminus_any va vb _ _ W ha hb g1 g2) (by refine le_big (a := 224) ?_ (by omega); rw [show (224 : Nat) = 223 + 1 from rfl, TOP_add]; have := TOP_pos 223; have : TOP 1 = 1000000000 := rfl; rw [this]; omega)
  have HC := hid hc
  clear hc f1 f2 g1 g2
  go_enter Tryd.func12, Tryd.ntmps12
  go_wp2_with fail
  refine HC.out.mono ?_
  intro e w1 hq
  by_cases hf : K.fits (K.numL l1 - K.numL l2)
  · have he := hq.1 hf
    subst he
    go_wp2
    go_ret2
    exact hq
  · have he := hq.2.1 hf
    subst he
    go_wp2
    go_ret2
    exact hq
set_option maxRecDepth 100000 in
theorem sub_bad (l1 l2 : List UInt8) (w : World) (h1 : l1.length ≤ 140737488351232) (h2 : l2.length ≤ 140737488351232) (v : K.validL l1 = false ∨ K.validL l2 = false) :
    Calls Tryd.prog 12 #[.string (Str l1), .string (Str l2)] w (BadStr w) := by
  go_enter Tryd.func12, Tryd.ntmps12
  go_wp2_with fail
  refine (combine_bad _ l1 l2 w h1 h2 v).mono ?_
  rintro e w1 ⟨rfl, hx⟩
  go_wp2
  go_ret2
  exact ⟨rfl, hx⟩
set_option maxRecDepth 100000 in
theorem mul_ok (l1 l2 : List UInt8) (w : World) (h1 : l1.length ≤ 140737488351232) (h2 : l2.length ≤ 140737488351232) (v1 : K.validL l1 = true) (v2 : K.validL l2 = true) (ht : Tab w) :
    Calls Tryd.prog 13 #[.string (Str l1), .string (Str l2)] w (ToldPost (K.numL l1 * K.numL l2) w) := by
  have f1 := fits_top (K.txt_numL l1 v1).2
  have f2 := fits_top (K.txt_numL l2 v2).2
  have g1 := fits_big (K.txt_numL l1 v1).2
  have g2 := fits_big (K.txt_numL l2 v2).2
  have hc := combine_ok 42 (enter_of Tryd.func42 (by kernel_rfl) (by kernel_rfl)) (K.numL l1 * K.numL l2) l1 l2 w h1 h2 v1 v2 ht (hid fun W va vb ha hb => ntimes_any va vb _ _ W ha hb g1 g2) (by rw [Int.natAbs_mul]; exact le_big (mul_top f1 f2) (by omega))
  have HC := hid hc
  clear hc f1 f2 g1 g2
  go_enter Tryd.func13, Tryd.ntmps13
  go_wp2_with fail
  refine HC.out.mono ?_
  intro e w1 hq
  by_cases hf : K.fits (K.numL l1 * K.numL l2)
  · have he := hq.1 hf
    subst he
    go_wp2
    go_ret2
    exact hq
  · have he := hq.2.1 hf
    subst he
    go_wp2
    go_ret2
    exact hq
set_option maxRecDepth 100000 in
theorem mul_bad (l1 l2 : List UInt8) (w : World) (h1 : l1.length ≤ 140737488351232) (h2 : l2.length ≤ 140737488351232) (v : K.validL l1 = false ∨ K.validL l2 = false) :
    Calls Tryd.prog 13 #[.string (Str l1), .string (Str l2)] w (BadStr w) := by
  go_enter Tryd.func13, Tryd.ntmps13
  go_wp2_with fail
  refine (combine_bad _ l1 l2 w h1 h2 v).mono ?_
  rintro e w1 ⟨rfl, hx⟩
  go_wp2
  go_ret2
  exact ⟨rfl, hx⟩
set_option maxRecDepth 100000 in
theorem gcd_ok (l1 l2 : List UInt8) (w : World) (h1 : l1.length ≤ 140737488351232) (h2 : l2.length ≤ 140737488351232) (v1 : K.validL l1 = true) (v2 : K.validL l2 = true) (ht : Tab w) :
    Calls Tryd.prog 25 #[.string (Str l1), .string (Str l2)] w (ToldPost ((Nat.gcd (K.numL l1).natAbs (K.numL l2).natAbs : Int)) w) := by
  have f1 := fits_top (K.txt_numL l1 v1).2
  have f2 := fits_top (K.txt_numL l2 v2).2
  have g1 := fits_big (K.txt_numL l1 v1).2
  have g2 := fits_big (K.txt_numL l2 v2).2
  have hc := combine_ok 56 (enter_of Tryd.func56 (by kernel_rfl) (by kernel_rfl)) ((Nat.gcd (K.numL l1).natAbs (K.numL l2).natAbs : Int)) l1 l2 w h1 h2 v1 v2 ht (hid fun W va vb ha hb => ngcd_any va vb _ _ W ha hb g1 g2) (by rw [abs_cast]; exact gcd_le g1 g2)
  have HC := hid hc
  clear hc f1 f2 g1 g2
  go_enter Tryd.func25, Tryd.ntmps25
  go_wp2_with fail
  refine HC.out.mono ?_
  intro e w1 hq
  by_cases hf : K.fits ((Nat.gcd (K.numL l1).natAbs (K.numL l2).natAbs : Int))
  · have he := hq.1 hf
    subst he
    go_wp2
    go_ret2
    exact hq
  · have he := hq.2.1 hf
    subst he
    go_wp2
    go_ret2
    exact hq
set_option maxRecDepth 100000 in
theorem gcd_bad (l1 l2 : List UInt8) (w : World) (h1 : l1.length ≤ 140737488351232) (h2 : l2.length ≤ 140737488351232) (v : K.validL l1 = false ∨ K.validL l2 = false) :
    Calls Tryd.prog 25 #[.string (Str l1), .string (Str l2)] w (BadStr w) := by
  go_enter Tryd.func25, Tryd.ntmps25
  go_wp2_with fail
  refine (combine_bad _ l1 l2 w h1 h2 v).mono ?_
  rintro e w1 ⟨rfl, hx⟩
  go_wp2
  go_ret2
  exact ⟨rfl, hx⟩
end Go.Proofs.YtdbaemadphhhcaaDoor
