/- the law package's helpers: alike, awake -/
import Derived.Test.YtdbaemadphhhcaaDoorLaw
namespace Go.Proofs.YtdbaemadphhhcaaDoor
open Go.RowKit
theorem Str_inj {a b : List UInt8} (h : Str a = Str b) : a = b := by
  have := congrArg ByteArray.toList h
  rwa [Str_toList, Str_toList] at this
def Alike (a b : List UInt8) : Prop := a = [] ∨ b = [] ∨ a = b
theorem alike_at {a b : List UInt8} (w : World) (h : Alike a b) :
    Calls Tryd.prog 35 #[.string (Str a), .string (Str b)] w (fun e w' => e = .returned (.bool true) ∧ w = w') := by
  have e0 : Str [] = ⟨#[]⟩ := rfl
  by_cases ha : a = []
  · subst ha
    go_enter Tryd.func35, Tryd.ntmps35
    go_wp2
    go_ret
    exact ⟨rfl, rfl⟩
  · have ha' : (Str a).toList.isEmpty = false := by rw [Str_toList]; simpa using ha
    by_cases hb : b = []
    · subst hb
      clear ha
      go_enter Tryd.func35, Tryd.ntmps35
      go_wp2
      go_ret
      exact ⟨rfl, rfl⟩
    · have hb' : (Str b).toList.isEmpty = false := by rw [Str_toList]; simpa using hb
      obtain rfl : a = b := by rcases h with h | h | h <;> simp_all
      clear ha hb hb'
      go_enter Tryd.func35, Tryd.ntmps35
      go_wp2
      go_ret
      exact ⟨rfl, rfl⟩
theorem divide_lit (w : World) (ht : Tab w) :
    Calls Tryd.prog 24 #[.string ⟨#[45, 55]⟩, .string ⟨#[50]⟩] w (fun e w' => e = .returned (.tuple #[.string ⟨#[45, 52]⟩, .string ⟨#[49]⟩, .int .i64 0]) ∧ Ext w w') := by
  have h := divide_ok [45, 55] [50] w (by simp) (by simp) (by decide +kernel) (by decide +kernel) (by decide +kernel) ht
  rw [show K.numL [45, 55] / K.numL [50] = -4 from by decide +kernel, show K.numL [45, 55] % K.numL [50] = 1 from by decide +kernel] at h
  refine h.mono fun e w' h => ⟨?_, h.2⟩
  rw [h.1, K.txt_of_lit [45, 52] (-4) (by decide +kernel) (by decide +kernel), K.txt_of_lit [49] 1 (by decide +kernel) (by decide +kernel)]
  rfl
theorem valid_lit (l : List UInt8) (b : Bool) (s : ByteArray) (hs : Str l = s) (hb : K.validL l = b) (hl : l.length ≤ 2001) (w : World) :
    Calls Tryd.prog 15 #[.string s] w (fun e w' => e = .returned (.bool b) ∧ Ext w w') := by
  subst hs hb
  exact valid_any l w (by omega)
def S100 : ByteArray := Str L100
set_option maxRecDepth 100000 in
theorem awake_any (w : World) (ht : Tab w) :
    Calls Tryd.prog 17 #[] w (fun e w' => e = .returned (.bool true) ∧ Ext w w') := by
  have HT := hid ht
  have e100 : (Str L100).toList = [49, 50, 54, 55, 54, 53, 48, 54, 48, 48, 50, 50, 56, 50, 50, 57, 52, 48, 49, 52, 57, 54, 55, 48, 51, 50, 48, 53, 51, 55, 54] := by rw [Str_toList]; rfl
  go_enter Tryd.func17, Tryd.ntmps17
  go_wp2_with fail
  refine (divide_lit w HT.out).mono ?_
  rintro e w1 ⟨rfl, hx1⟩
  go_wp2_with fail
  refine (power_big w1 (HT.out.ext hx1)).mono ?_
  rintro e w2 ⟨rfl, hx2⟩
  have hx2 := hx1.step hx2
  clear hx1
  go_wp2_with fail
  refine (power_hundred w2 (HT.out.ext hx2)).mono ?_
  rintro e w3 ⟨rfl, hx3⟩
  have hx3 := hx2.step hx3
  clear hx2
  go_wp2_with fail
  refine (valid_lit [45, 49, 55] true _ rfl (by decide +kernel) (by decide) w3).mono ?_
  rintro e w4 ⟨rfl, hx4⟩
  have hx4 := hx3.step hx4
  clear hx3
  go_wp2_with fail
  refine (valid_lit [48, 48, 55] false _ rfl (by decide +kernel) (by decide) w4).mono ?_
  rintro e w5 ⟨rfl, hx5⟩
  have hx5 := hx4.step hx5
  clear hx4
  go_wp2_with fail
  refine (valid_lit [45, 48] false _ rfl (by decide +kernel) (by decide) w5).mono ?_
  rintro e w6 ⟨rfl, hx6⟩
  have hx6 := hx5.step hx6
  clear hx5
  go_wp2_with fail
  refine (valid_lit [43, 49] false _ rfl (by decide +kernel) (by decide) w6).mono ?_
  rintro e w7 ⟨rfl, hx7⟩
  have hx7 := hx6.step hx7
  clear hx6
  go_wp2_with fail
  refine (valid_lit [] false _ rfl (by decide +kernel) (by decide) w7).mono ?_
  rintro e w8 ⟨rfl, hx8⟩
  have hx8 := hx7.step hx8
  clear hx7
  go_wp2
  go_ret
  exact ⟨rfl, hx8⟩
end Go.Proofs.YtdbaemadphhhcaaDoor
