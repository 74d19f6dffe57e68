/- comparing: cmp.Compare, natural.compare -/
import Derived.Test.YtdbaemadphhhcaaDoorProg
import Derived.Test.YtdbaemadphhhcaaDoorMake
namespace Go.Proofs.YtdbaemadphhhcaaDoor
open Go.RowKit

def sgn (a b : Nat) : Int := if a < b then -1 else if b < a then 1 else 0

theorem cmpU (a b : Nat) (w : World) : Calls Tryd.prog 77 #[.int .u64 (a : Int), .int .u64 (b : Int)] w fun e w' => e = .returned (.int .i64 (sgn a b)) ∧ w = w' := by
  unfold sgn
  by_cases h1 : a < b
  · go_enter Tryd.func77, Tryd.ntmps77
    go_wp2
    go_ret
    simp [h1]
  · by_cases h2 : b < a
    · go_enter Tryd.func77, Tryd.ntmps77
      go_wp2
      go_ret
      simp [h1, h2]
    · go_enter Tryd.func77, Tryd.ntmps77
      go_wp2
      go_ret
      simp [h1, h2]
theorem cmpI (a b : Nat) (w : World) : Calls Tryd.prog 76 #[.int .i64 (a : Int), .int .i64 (b : Int)] w fun e w' => e = .returned (.int .i64 (sgn a b)) ∧ w = w' := by
  unfold sgn
  by_cases h1 : a < b
  · go_enter Tryd.func76, Tryd.ntmps76
    go_wp2
    go_ret
    simp [h1]
  · by_cases h2 : b < a
    · go_enter Tryd.func76, Tryd.ntmps76
      go_wp2
      go_ret
      simp [h1, h2]
    · go_enter Tryd.func76, Tryd.ntmps76
      go_wp2
      go_ret
      simp [h1, h2]

/-- comparing lists of the same length from the top -/
def cmpL : List Nat → List Nat → Int
  | x :: r, y :: s => if cmpL r s = 0 then sgn x y else cmpL r s
  | _, _ => 0
theorem cmpL_drop (k : Nat) : ∀ (xs ys : List Nat), cmpL (xs.drop k) (ys.drop k) ≠ 0 → cmpL xs ys = cmpL (xs.drop k) (ys.drop k) := by
  induction k with
  | zero => intro xs ys _; rfl
  | succ k ih =>
    intro xs ys h
    match xs, ys, h with
    | x :: r, y :: s, h =>
      simp only [List.drop_succ_cons] at h ⊢
      have := ih r s h
      rw [cmpL, this, if_neg h]
    | [], _, h => simp [cmpL] at h
    | x :: r, [], h => simp [cmpL] at h
theorem sgn_self (x : Nat) : sgn x x = 0 := by simp [sgn]
theorem sgn_ne {x y : Nat} (h : x ≠ y) : sgn x y ≠ 0 := by unfold sgn; split <;> (try split) <;> omega

set_option maxHeartbeats 400000 in
theorem natCmp (A B : Option Addr) (ca cb : Nat) (n m : Nat) (xs ys : List Nat) (w : World) (ha : Rd w A (U64s xs)) (hb : Rd w B (U64s ys)) (ln : xs.length = n) (lm : ys.length = m) (hn : n ≤ 1000000) (hm : m ≤ 1000000) :
    Calls Tryd.prog 64 #[.slice A n ca, .slice B m cb] w fun e w' => e = .returned (.int .i64 (if n = m then cmpL xs ys else sgn n m)) ∧ Drew w w' := by
  have LN := hid ln
  have LM := hid lm
  clear ln lm
  by_cases hl : n = m
  · subst hl
    rw [if_pos rfl]
    go_enter Tryd.func64, Tryd.ntmps64
    go_wp2
    go_loopw [5] (fun i wr => ∃ (q : Int), -1 ≤ q ∧ q < n ∧ i = .int .i64 q ∧ cmpL (xs.drop (q + 1).toNat) (ys.drop (q + 1).toNat) = 0 ∧ Drew w wr) (fun i _ => (intOf i + 1).toNat)
    case atStart => exact ⟨(n : Int) - 1, by omega, by omega, rfl, by rw [show ((n : Int) - 1 + 1).toNat = n by omega, List.drop_of_length_le (by rw [LN.out]; omega)]; simp [cmpL], Drew.rfl' w⟩
    case round =>
      obtain ⟨q, hq1, hq2, rfl, hc, hwr⟩ := hrel
      by_cases hq : 0 ≤ q
      · obtain ⟨j, rfl⟩ := Int.eq_ofNat_of_zero_le hq
        obtain ⟨b1, o1, x, eA, ex, hb1, hx⟩ := (ha.drew hwr).at_ (k := j) (by rw [LN.out]; omega)
        obtain ⟨b2, o2, y, eB, ey, hb2, hy⟩ := (hb.drew hwr).at_ (k := j) (by rw [LM.out]; omega)
        subst eA eB
        have HC := hid hc
        have HX := hid ex
        have HY := hid ey
        clear hc ex ey ha hb
        have hstep : Hid (cmpL (xs.drop j) (ys.drop j) = sgn x y) := by
          have e := HC.out
          rw [show ((j : Int) + 1).toNat = j + 1 by omega] at e
          show _ = _
          rw [drop_at HX.out, drop_at HY.out, cmpL, if_pos e]
        by_cases hxy : x = y
        · subst hxy
          go_wp2_with fail
          go_quiet (fail)
          go_wp2
          go_roundw
          case rel => exact ⟨(j : Int) - 1, by omega, by omega, rfl, by rw [show ((j : Int) - 1 + 1).toNat = j by omega, hstep.out, sgn_self], hwr.drewN _⟩
          case measure => simp [intOf]
        · go_wp2_with fail
          go_quiet (fail)
          generalize hw1 : World.drewN wr _ = w1
          have hwr1 : Drew w w1 := hw1 ▸ hwr.drewN _
          have hx1 : w1.cell? ⟨b1, o1 + j, none⟩ = some (.int .u64 x) := by rw [← hw1]; exact hx
          have hy1 : w1.cell? ⟨b2, o2 + j, none⟩ = some (.int .u64 y) := by rw [← hw1]; exact hy
          clear hw1 hx hy hwr
          go_wp2_with fail
          go_quiet ((go_at_call 77; exact Calls.quiet_of_same ((cmpU _ _ _).mono fun _ _ ⟨a, b⟩ => ⟨a, b.symm⟩)))
          go_wp2
          go_ret
          exact ⟨by rw [cmpL_drop j xs ys (by rw [hstep.out]; exact sgn_ne hxy), hstep.out]; rfl, hwr1.drewN _⟩
      · go_wp2
        go_ret
        exact ⟨by rw [show (q + 1).toNat = 0 by omega] at hc; rw [show cmpL xs ys = 0 from hc]; rfl, hwr⟩
  · go_enter Tryd.func64, Tryd.ntmps64
    rw [if_neg hl]
    go_wp2_with (go_at_call 76; refine (cmpI _ _ _).mono ?_; rintro e w' ⟨rfl, rfl⟩)
    go_ret
    exact ⟨rfl, Drew.rfl' _⟩
theorem cmpL_val : ∀ (xs ys : List Nat), xs.length = ys.length → (∀ x ∈ xs, x < 1000000000) → (∀ y ∈ ys, y < 1000000000) → cmpL xs ys = sgn (K.lv xs) (K.lv ys)
  | [], [], _, _, _ => by simp [cmpL, K.lv, sgn]
  | x :: r, y :: s, h, hx, hy => by
    have ih := cmpL_val r s (by simpa using h) (fun z hz => hx z (List.mem_cons_of_mem _ hz)) (fun z hz => hy z (List.mem_cons_of_mem _ hz))
    have h1 := hx x (List.mem_cons_self ..)
    have h2 := hy y (List.mem_cons_self ..)
    rw [cmpL, ih]
    simp only [K.lv]
    unfold sgn
    repeat (first | omega | split)
theorem cmp_val {xs ys : List Nat} (hx : K.Lim xs) (hy : K.Lim ys) : (if xs.length = ys.length then cmpL xs ys else sgn xs.length ys.length) = sgn (K.lv xs) (K.lv ys) := by
  split
  · rename_i h; exact cmpL_val xs ys h hx.1 hy.1
  · rename_i h
    have aux : ∀ {a b : List Nat}, K.Lim a → K.Lim b → a.length < b.length → K.lv a < K.lv b := by
      intro a b ha hb hl
      have h1 := K.lv_lt a ha.1
      have h2 := hb.ge (by intro e; subst e; simp at hl)
      have h3 : 1000000000 ^ a.length ≤ 1000000000 ^ (b.length - 1) := Nat.pow_le_pow_right (by omega) (by omega)
      omega
    rcases Nat.lt_or_ge xs.length ys.length with hl | hl
    · have := aux hx hy hl
      unfold sgn; rw [if_pos hl, if_pos this]
    · have hl' : ys.length < xs.length := by omega
      have := aux hy hx hl'
      unfold sgn; rw [if_neg (by omega), if_pos hl', if_neg (by omega), if_pos this]
theorem natCmp_any (va vb : Value) (a b : Nat) (w : World) (ha : NatV w va a) (hb : NatV w vb b) (la : a ≤ BIG) (lb : b ≤ BIG) :
    Calls Tryd.prog 64 #[va, vb] w fun e w' => e = .returned (.int .i64 (sgn a b)) ∧ Drew w w' := by
  obtain ⟨A, n, ca, xs, rfl, h2, _, h4, h5, rfl⟩ := ha
  obtain ⟨B, m, cb, ys, rfl, k2, _, k4, k5, rfl⟩ := hb
  have hn := len_of_big h5 la
  have hm := len_of_big k5 lb
  refine (natCmp A B ca cb n m xs ys w h4 k4 h2 k2 (by omega) (by omega)).mono ?_
  rintro e w' ⟨rfl, hw⟩
  subst h2 k2
  rw [cmp_val h5 k5]
  exact ⟨rfl, hw⟩
end Go.Proofs.YtdbaemadphhhcaaDoor
