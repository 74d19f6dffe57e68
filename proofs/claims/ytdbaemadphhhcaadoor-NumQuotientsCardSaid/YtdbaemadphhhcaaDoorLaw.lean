/- the law package's helpers: sum, product, alike, awake -/
import Derived.Test.YtdbaemadphhhcaaDoorApi
import Derived.Test.YtdbaemadphhhcaaDoorApi2
import Derived.Test.YtdbaemadphhhcaaDoorRValid
namespace Go.Proofs.YtdbaemadphhhcaaDoor
open Go.RowKit
def told (n : Int) : List UInt8 := if n.natAbs < K.LIM then K.txt n else []
theorem told_fits {n : Int} (h : K.fits n) : told n = K.txt n := if_pos h
theorem told_not {n : Int} (h : ¬ K.fits n) : told n = [] := if_neg h
theorem told_len (n : Int) : (told n).length ≤ 2001 := by
  by_cases h : K.fits n
  · rw [told_fits h]; exact K.txt_len n h
  · rw [told_not h]; simp
def sL (a b : List UInt8) : List UInt8 := if K.validL a = true ∧ K.validL b = true then told (K.numL a + K.numL b) else []
def mL (a b : List UInt8) : List UInt8 := if K.validL a = true ∧ K.validL b = true then told (K.numL a * K.numL b) else []
theorem sL_len (a b : List UInt8) : (sL a b).length ≤ 2001 := by unfold sL; split; exact told_len _; simp
theorem mL_len (a b : List UInt8) : (mL a b).length ≤ 2001 := by unfold mL; split; exact told_len _; simp
theorem not_both {a b : List UInt8} (h : ¬ (K.validL a = true ∧ K.validL b = true)) : K.validL a = false ∨ K.validL b = false := by
  cases h1 : K.validL a <;> cases h2 : K.validL b <;> simp_all
theorem told_any (n : Int) (w : World) {e : Ending} {w' : World} (h : ToldPost n w e w') : ∃ c : Int, e = .returned (.tuple #[.string (Str (told n)), .int .i64 c]) := by
  by_cases hf : K.fits n
  · exact ⟨0, by rw [told_fits hf]; exact h.1 hf⟩
  · exact ⟨3, by rw [told_not hf]; exact h.2.1 hf⟩
set_option maxRecDepth 100000 in
theorem sum_at {a b r : List UInt8} (w : World) (hr : Hid (sL a b = r)) (h1 : a.length ≤ 140737488351232) (h2 : b.length ≤ 140737488351232) (ht : Tab w) :
    Calls Tryd.prog 33 #[.string (Str a), .string (Str b)] w (StrPost r w) := by
  have hc : Hid (Calls Tryd.prog 11 #[.string (Str a), .string (Str b)] w (fun e w' => (∃ c : Int, e = .returned (.tuple #[.string (Str r), .int .i64 c])) ∧ Ext w w')) := by
    have hr := hr.out
    unfold sL at hr
    by_cases hv : K.validL a = true ∧ K.validL b = true
    · rw [if_pos hv] at hr
      subst hr
      exact hid ((add_ok a b w h1 h2 hv.1 hv.2 ht).mono fun e w' h => ⟨told_any _ w h, h.2.2⟩)
    · rw [if_neg hv] at hr
      subst hr
      exact hid ((add_bad a b w h1 h2 (not_both hv)).mono fun e w' h => ⟨⟨1, h.1⟩, h.2⟩)
  clear hr
  go_enter Tryd.func33, Tryd.ntmps33
  go_wp2_with fail
  refine hc.out.mono ?_
  rintro e w1 ⟨⟨c, rfl⟩, hx⟩
  go_wp2
  go_ret
  exact ⟨rfl, hx⟩
set_option maxRecDepth 100000 in
theorem prod_at {a b r : List UInt8} (w : World) (hr : Hid (mL a b = r)) (h1 : a.length ≤ 140737488351232) (h2 : b.length ≤ 140737488351232) (ht : Tab w) :
    Calls Tryd.prog 34 #[.string (Str a), .string (Str b)] w (StrPost r w) := by
  have hc : Hid (Calls Tryd.prog 13 #[.string (Str a), .string (Str b)] w (fun e w' => (∃ c : Int, e = .returned (.tuple #[.string (Str r), .int .i64 c])) ∧ Ext w w')) := by
    have hr := hr.out
    unfold mL at hr
    by_cases hv : K.validL a = true ∧ K.validL b = true
    · rw [if_pos hv] at hr
      subst hr
      exact hid ((mul_ok a b w h1 h2 hv.1 hv.2 ht).mono fun e w' h => ⟨told_any _ w h, h.2.2⟩)
    · rw [if_neg hv] at hr
      subst hr
      exact hid ((mul_bad a b w h1 h2 (not_both hv)).mono fun e w' h => ⟨⟨1, h.1⟩, h.2⟩)
  clear hr
  go_enter Tryd.func34, Tryd.ntmps34
  go_wp2_with fail
  refine hc.out.mono ?_
  rintro e w1 ⟨⟨c, rfl⟩, hx⟩
  go_wp2
  go_ret
  exact ⟨rfl, hx⟩
def tw (k : Nat) : Nat := 2 ^ k
theorem natAbs_two (k : Nat) : ((2 : Int) ^ k).natAbs = tw k := by unfold tw; rw [Int.natAbs_pow]; rfl
theorem tw_big : K.LIM ≤ tw 10000 := by decide +kernel
theorem not_fits_tw : ¬ K.fits ((2 : Int) ^ 10000) := by
  unfold K.fits; rw [natAbs_two]; exact Nat.not_lt.mpr tw_big
theorem power_big (w : World) (ht : Tab w) :
    Calls Tryd.prog 29 #[.string ⟨#[50]⟩, .int .i64 10000] w (fun e w' => e = .returned (.tuple #[.string ⟨#[]⟩, .int .i64 3]) ∧ Ext w w') := by
  have h := power_ok [50] 10000 w (by simp) (by decide +kernel) (by omega) ht
  rw [show K.numL [50] = 2 from by decide +kernel] at h
  exact h.mono fun e w' h => ⟨h.2.1 not_fits_tw, h.2.2⟩
def L100 : List UInt8 := [49, 50, 54, 55, 54, 53, 48, 54, 48, 48, 50, 50, 56, 50, 50, 57, 52, 48, 49, 52, 57, 54, 55, 48, 51, 50, 48, 53, 51, 55, 54]
theorem L100_ok : K.validL L100 = true := by decide +kernel
theorem L100_num : K.numL L100 = (2 : Int) ^ 100 := by decide +kernel
theorem power_hundred (w : World) (ht : Tab w) :
    Calls Tryd.prog 29 #[.string ⟨#[50]⟩, .int .i64 100] w (fun e w' => e = .returned (.tuple #[.string (Str L100), .int .i64 0]) ∧ Ext w w') := by
  have h := power_ok [50] 100 w (by simp) (by decide +kernel) (by omega) ht
  rw [show K.numL [50] = 2 from by decide +kernel, ← L100_num] at h
  refine h.mono fun e w' h => ⟨?_, h.2.2⟩
  have := h.1 (K.txt_numL L100 L100_ok).2
  rwa [(K.txt_numL L100 L100_ok).1] at this
theorem lit_eq {l : List UInt8} {n : Int} (h : K.validL l = true) (e : K.numL l = n) : K.fits n ∧ K.txt n = l := by
  subst e; exact ⟨(K.txt_numL l h).2, (K.txt_numL l h).1⟩
end Go.Proofs.YtdbaemadphhhcaaDoor
