/- (natural).trimmed -/
import Derived.Test.YtdbaemadphhhcaaDoorProg
import Derived.Test.YtdbaemadphhhcaaDoorLimb
import Derived.Test.YtdbaemadphhhcaaDoorMem
namespace Go.Proofs.YtdbaemadphhhcaaDoor
open Go.RowKit

/-- what trimmed leaves -/
def TrimPost (A : Option Addr) (c : Nat) (xs : List Nat) (w : World) (e : Ending) (w' : World) : Prop :=
  ∃ k, k ≤ xs.length ∧ e = .returned (.slice A k c) ∧ Cut xs (xs.take k) ∧ Drew w w'
set_option maxHeartbeats 400000 in
theorem trimmed (A : Option Addr) (c n : Nat) (xs : List Nat) (w : World) (ha : Rd w A (U64s xs)) (ln : xs.length = n) (hn : n ≤ 1000000) (hc : n ≤ c) :
    Calls Tryd.prog 72 #[.slice A n c] w (TrimPost A c xs w) := by
  have LN := hid ln
  clear ln
  go_enter Tryd.func72, Tryd.ntmps72
  go_wp2
  go_loopw [0] (fun a wr => ∃ k : Nat, k ≤ n ∧ a = .slice A k c ∧ K.lv (xs.take k) = K.lv xs ∧ Drew w wr) (fun a _ => match a with | .slice _ k _ => k | _ => 0)
  case atStart => exact ⟨n, Nat.le_refl _, rfl, by rw [List.take_of_length_le (by rw [LN.out]; omega)], Drew.rfl' w⟩
  case round =>
    obtain ⟨k, hk, rfl, hl, hwr⟩ := hrel
    have HL := hid hl
    clear hl
    by_cases h0 : k = 0
    · subst h0
      go_wp2
      go_ret
      exact ⟨0, Nat.zero_le _, rfl, ⟨0, rfl, HL.out, by simp⟩, hwr⟩
    · obtain ⟨j, rfl⟩ : ∃ j, k = j + 1 := ⟨k - 1, by omega⟩
      obtain ⟨b, o, x, eA, ex, hb, hx⟩ := (ha.drew hwr).at_ (k := j) (by rw [LN.out]; omega)
      subst eA
      have HX := hid ex
      clear ex ha h0
      by_cases hx0 : x = 0
      · subst hx0
        go_wp2
        go_outline
        go_roundw
        case rel => exact ⟨j, by omega, rfl, by rw [← HL.out, lv_take_zero xs j HX.out], hwr⟩
        case measure => simp
      · go_wp2
        go_ret
        refine ⟨j + 1, by rw [LN.out]; omega, rfl, ⟨j + 1, rfl, HL.out, ?_⟩, hwr⟩
        obtain ⟨hj, e⟩ := List.getElem?_eq_some_iff.1 HX.out
        rw [List.take_succ_eq_append_getElem hj, e]
        simpa using hx0
end Go.Proofs.YtdbaemadphhhcaaDoor
