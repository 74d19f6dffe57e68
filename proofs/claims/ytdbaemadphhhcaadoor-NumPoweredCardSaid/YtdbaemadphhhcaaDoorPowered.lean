/- the law NumPowered -/
import Derived.Test.YtdbaemadphhhcaaDoorVal
namespace Go.Proofs.YtdbaemadphhhcaaDoor
open Go.RowKit
def pwI (a : Int) (k : Nat) : Int := a ^ k
theorem power_yes {a x : List UInt8} {k : Int} {n : Nat} (w : World) (hk : k = (n : Int)) (hn : n ≤ 10000) (h1 : a.length ≤ 140737488351232) (v1 : K.validL a = true) (hx : Hid (K.validL x = true ∧ K.numL x = pwI (K.numL a) n)) (ht : Tab w) :
    Calls Tryd.prog 29 #[.string (Str a), .int .i64 k] w (fun e w' => e = .returned (.tuple #[.string (Str x), .int .i64 0]) ∧ Ext w w') := by
  subst hk
  exact (power_ok a n w h1 v1 hn ht).mono fun e w' h => told_eq h hx.out.1 hx.out.2
theorem power_no {a : List UInt8} {k : Int} {n : Nat} (w : World) (hk : k = (n : Int)) (hn : n ≤ 10000) (h1 : a.length ≤ 140737488351232) (v1 : K.validL a = true) (hx : Hid (¬ K.fits (pwI (K.numL a) n))) (ht : Tab w) :
    Calls Tryd.prog 29 #[.string (Str a), .int .i64 k] w (fun e w' => e = .returned (.tuple #[.string ⟨#[]⟩, .int .i64 3]) ∧ Ext w w') := by
  subst hk
  exact (power_ok a n w h1 v1 hn ht).mono fun e w' h => ⟨h.2.1 hx.out, h.2.2⟩
theorem mul_yes {x y z : List UInt8} (w : World) (h1 : x.length ≤ 140737488351232) (h2 : y.length ≤ 140737488351232) (v1 : K.validL x = true) (v2 : K.validL y = true) (hz : Hid (K.validL z = true ∧ K.numL z = K.numL x * K.numL y)) (ht : Tab w) :
    Calls Tryd.prog 13 #[.string (Str x), .string (Str y)] w (fun e w' => e = .returned (.tuple #[.string (Str z), .int .i64 0]) ∧ Ext w w') :=
  (mul_ok x y w h1 h2 v1 v2 ht).mono fun e w' h => told_eq h hz.out.1 hz.out.2
theorem mul_no {x y : List UInt8} (w : World) (h1 : x.length ≤ 140737488351232) (h2 : y.length ≤ 140737488351232) (v1 : K.validL x = true) (v2 : K.validL y = true) (hz : Hid (¬ K.fits (K.numL x * K.numL y))) (ht : Tab w) :
    Calls Tryd.prog 13 #[.string (Str x), .string (Str y)] w (fun e w' => e = .returned (.tuple #[.string ⟨#[]⟩, .int .i64 3]) ∧ Ext w w') :=
  (mul_ok x y w h1 h2 v1 v2 ht).mono fun e w' h => ⟨h.2.1 hz.out, h.2.2⟩
theorem pwI_add (a : Int) (m n : Nat) : pwI a (m + n) = pwI a m * pwI a n := Int.pow_add a m n
theorem pos_lim : 0 < K.LIM := K.LIM_pos
theorem not_fits_add {a : Int} {m n : Nat} (h : ¬ K.fits (pwI a m) ∨ ¬ K.fits (pwI a n)) : ¬ K.fits (pwI a (m + n)) := by
  rw [pwI_add]
  unfold K.fits at h ⊢
  rw [Int.natAbs_mul]
  have hL : 0 < K.LIM := K.LIM_pos
  have key : ∀ k j : Nat, ¬ (pwI a k).natAbs < K.LIM → (pwI a k).natAbs ≤ (pwI a k).natAbs * (pwI a j).natAbs := by
    intro k j h
    by_cases ha : a = 0
    · subst ha
      exfalso; apply h
      have : (pwI 0 k).natAbs ≤ 1 := by
        unfold pwI
        cases k with
        | zero => simp
        | succ k => simp [Int.pow_succ]
      have h2 : 1 < K.LIM := Nat.lt_of_lt_of_le (by decide : 1 < K.pw 1) (K.pw_mono (by omega))
      omega
    · apply Nat.le_mul_of_pos_right
      have : pwI a j ≠ 0 := by unfold pwI; exact Int.pow_ne_zero ha
      omega
  rcases h with h | h
  · have := key m n h; omega
  · have := key n m h; rw [Nat.mul_comm]; omega
theorem fit_text {n : Int} (h : K.fits n) : ∃ x, Hid (K.validL x = true ∧ K.numL x = n) ∧ Hid (x.length ≤ 140737488351232) := ⟨K.txt n, hid ⟨K.valid_txt n h, K.numL_txt n⟩, hid (len_of (K.txt_len n h))⟩
set_option maxRecDepth 100000 in
set_option maxHeartbeats 4000000 in
theorem bad0_NumPowered (a : List UInt8) (m n : Int) (w : World) (ha : a.length ≤ 140737488351232) (ht : Tab w) (va : Hid (K.validL a = false)) :
    Calls Tryd.prog 10 #[.string (Str a), .int .i64 m, .int .i64 n] w (TruePost w) := by
  have HT := hid ht
  go_enter Tryd.func10, Tryd.ntmps10
  go_wp2_with fail
  refine (rvalid_at a w va ha).mono ?_
  rintro e wz ⟨rfl, rfl⟩
  go_wp2_with fail
  refine (awake_any w HT.out).mono ?_
  rintro e w1 ⟨rfl, hx1⟩
  have hy1 : Ext w w1 := hx1
  clear hx1
  go_wp2
  go_ret
  exact ⟨rfl, hy1⟩
set_option maxRecDepth 100000 in
set_option maxHeartbeats 4000000 in
theorem bad1_NumPowered (a : List UInt8) (m n : Int) (w : World) (ha : a.length ≤ 140737488351232) (ht : Tab w) (va : Hid (K.validL a = true)) (h : m < 0) :
    Calls Tryd.prog 10 #[.string (Str a), .int .i64 m, .int .i64 n] w (TruePost w) := by
  have HT := hid ht
  go_enter Tryd.func10, Tryd.ntmps10
  go_wp2_with fail
  refine (rvalid_at a w va ha).mono ?_
  rintro e wz ⟨rfl, rfl⟩
  go_wp2_with fail
  refine (awake_any w HT.out).mono ?_
  rintro e w1 ⟨rfl, hx1⟩
  have hy1 : Ext w w1 := hx1
  clear hx1
  go_wp2
  go_ret
  exact ⟨rfl, hy1⟩
set_option maxRecDepth 100000 in
set_option maxHeartbeats 4000000 in
theorem bad2_NumPowered (a : List UInt8) (m n : Int) (w : World) (ha : a.length ≤ 140737488351232) (ht : Tab w) (va : Hid (K.validL a = true)) (h1 : ¬ m < 0) (h : n < 0) :
    Calls Tryd.prog 10 #[.string (Str a), .int .i64 m, .int .i64 n] w (TruePost w) := by
  have HT := hid ht
  go_enter Tryd.func10, Tryd.ntmps10
  go_wp2_with fail
  refine (rvalid_at a w va ha).mono ?_
  rintro e wz ⟨rfl, rfl⟩
  go_wp2_with fail
  refine (awake_any w HT.out).mono ?_
  rintro e w1 ⟨rfl, hx1⟩
  have hy1 : Ext w w1 := hx1
  clear hx1
  go_wp2
  go_ret
  exact ⟨rfl, hy1⟩
set_option maxRecDepth 100000 in
set_option maxHeartbeats 4000000 in
theorem bad3_NumPowered (a : List UInt8) (m n : Int) (w : World) (ha : a.length ≤ 140737488351232) (ht : Tab w) (va : Hid (K.validL a = true)) (h1 : ¬ m < 0) (h2 : ¬ n < 0) (h : 10000 < m) :
    Calls Tryd.prog 10 #[.string (Str a), .int .i64 m, .int .i64 n] w (TruePost w) := by
  have HT := hid ht
  go_enter Tryd.func10, Tryd.ntmps10
  go_wp2_with fail
  refine (rvalid_at a w va ha).mono ?_
  rintro e wz ⟨rfl, rfl⟩
  go_wp2_with fail
  refine (awake_any w HT.out).mono ?_
  rintro e w1 ⟨rfl, hx1⟩
  have hy1 : Ext w w1 := hx1
  clear hx1
  go_wp2
  go_ret
  exact ⟨rfl, hy1⟩
set_option maxRecDepth 100000 in
set_option maxHeartbeats 4000000 in
theorem bad4_NumPowered (a : List UInt8) (m n : Int) (w : World) (ha : a.length ≤ 140737488351232) (ht : Tab w) (va : Hid (K.validL a = true)) (h1 : ¬ m < 0) (h2 : ¬ n < 0) (h3 : ¬ 10000 < m) (h : 10000 - m < n) :
    Calls Tryd.prog 10 #[.string (Str a), .int .i64 m, .int .i64 n] w (TruePost w) := by
  have HT := hid ht
  go_enter Tryd.func10, Tryd.ntmps10
  go_wp2_with fail
  refine (rvalid_at a w va ha).mono ?_
  rintro e wz ⟨rfl, rfl⟩
  go_wp2_with fail
  refine (awake_any w HT.out).mono ?_
  rintro e w1 ⟨rfl, hx1⟩
  have hy1 : Ext w w1 := hx1
  clear hx1
  go_wp2
  go_ret
  exact ⟨rfl, hy1⟩
set_option maxRecDepth 100000 in
set_option maxHeartbeats 4000000 in
theorem ok111_NumPowered (a x y z : List UInt8) (m n : Nat) (w : World) (ha : a.length ≤ 140737488351232) (ht : Tab w) (hmn : m + n ≤ 10000) (va : Hid (K.validL a = true)) (hx : Hid (K.validL x = true ∧ K.numL x = pwI (K.numL a) m)) (lx : Hid (x.length ≤ 140737488351232)) (hy : Hid (K.validL y = true ∧ K.numL y = pwI (K.numL a) n)) (ly : Hid (y.length ≤ 140737488351232)) (hz : Hid (K.validL z = true ∧ K.numL z = pwI (K.numL a) (m + n))) (lz : Hid (z.length ≤ 140737488351232)) :
    Calls Tryd.prog 10 #[.string (Str a), .int .i64 (m : Int), .int .i64 (n : Int)] w (TruePost w) := by
  have HT := hid ht
  have b1 : m ≤ 10000 := by omega
  have b2 : n ≤ 10000 := by omega
  have q := hid (show K.validL z = true ∧ K.numL z = K.numL x * K.numL y from ⟨hz.out.1, by rw [hz.out.2, hx.out.2, hy.out.2, pwI_add]⟩)
  go_enter Tryd.func10, Tryd.ntmps10
  go_wp2_with fail
  refine (rvalid_at a w va ha).mono ?_
  rintro e wz ⟨rfl, rfl⟩
  go_wp2_with fail
  refine (power_yes (n := m) w (by simp) b1 ha va.out hx HT.out).mono ?_
  rintro e w1 ⟨rfl, hx1⟩
  have hy1 : Ext w w1 := hx1
  clear hx1
  go_wp2_with fail
  refine (power_yes (n := n) w1 (by simp) b2 ha va.out hy (HT.out.ext hy1)).mono ?_
  rintro e w2 ⟨rfl, hx2⟩
  have hy2 : Ext w w2 := hy1.step hx2
  clear hx2 hy1
  go_wp2_with fail
  refine (power_yes (n := m + n) w2 (by simp) hmn ha va.out hz (HT.out.ext hy2)).mono ?_
  rintro e w3 ⟨rfl, hx3⟩
  have hy3 : Ext w w3 := hy2.step hx3
  clear hx3 hy2
  go_wp2_with fail
  refine (mul_yes w3 lx.out ly.out hx.out.1 hy.out.1 q (HT.out.ext hy3)).mono ?_
  rintro e w4 ⟨rfl, hx4⟩
  have hy4 : Ext w w4 := hy3.step hx4
  clear hx4 hy3
  go_wp2_with fail
  refine (awake_any w4 (HT.out.ext hy4)).mono ?_
  rintro e w5 ⟨rfl, hx5⟩
  have hy5 : Ext w w5 := hy4.step hx5
  clear hx5 hy4
  go_wp2
  go_ret
  exact ⟨rfl, hy5⟩
set_option maxRecDepth 100000 in
set_option maxHeartbeats 4000000 in
theorem ok110_NumPowered (a x y : List UInt8) (m n : Nat) (w : World) (ha : a.length ≤ 140737488351232) (ht : Tab w) (hmn : m + n ≤ 10000) (va : Hid (K.validL a = true)) (hx : Hid (K.validL x = true ∧ K.numL x = pwI (K.numL a) m)) (lx : Hid (x.length ≤ 140737488351232)) (hy : Hid (K.validL y = true ∧ K.numL y = pwI (K.numL a) n)) (ly : Hid (y.length ≤ 140737488351232)) (hz : Hid (¬ K.fits (pwI (K.numL a) (m + n)))) :
    Calls Tryd.prog 10 #[.string (Str a), .int .i64 (m : Int), .int .i64 (n : Int)] w (TruePost w) := by
  have HT := hid ht
  have b1 : m ≤ 10000 := by omega
  have b2 : n ≤ 10000 := by omega
  have q := hid (show ¬ K.fits (K.numL x * K.numL y) from by rw [hx.out.2, hy.out.2, ← pwI_add]; exact hz.out)
  go_enter Tryd.func10, Tryd.ntmps10
  go_wp2_with fail
  refine (rvalid_at a w va ha).mono ?_
  rintro e wz ⟨rfl, rfl⟩
  go_wp2_with fail
  refine (power_yes (n := m) w (by simp) b1 ha va.out hx HT.out).mono ?_
  rintro e w1 ⟨rfl, hx1⟩
  have hy1 : Ext w w1 := hx1
  clear hx1
  go_wp2_with fail
  refine (power_yes (n := n) w1 (by simp) b2 ha va.out hy (HT.out.ext hy1)).mono ?_
  rintro e w2 ⟨rfl, hx2⟩
  have hy2 : Ext w w2 := hy1.step hx2
  clear hx2 hy1
  go_wp2_with fail
  refine (power_no (n := m + n) w2 (by simp) hmn ha va.out hz (HT.out.ext hy2)).mono ?_
  rintro e w3 ⟨rfl, hx3⟩
  have hy3 : Ext w w3 := hy2.step hx3
  clear hx3 hy2
  go_wp2_with fail
  refine (mul_no w3 lx.out ly.out hx.out.1 hy.out.1 q (HT.out.ext hy3)).mono ?_
  rintro e w4 ⟨rfl, hx4⟩
  have hy4 : Ext w w4 := hy3.step hx4
  clear hx4 hy3
  go_wp2_with fail
  refine (awake_any w4 (HT.out.ext hy4)).mono ?_
  rintro e w5 ⟨rfl, hx5⟩
  have hy5 : Ext w w5 := hy4.step hx5
  clear hx5 hy4
  go_wp2
  go_ret
  exact ⟨rfl, hy5⟩
set_option maxRecDepth 100000 in
set_option maxHeartbeats 4000000 in
theorem ok100_NumPowered (a x : List UInt8) (m n : Nat) (w : World) (ha : a.length ≤ 140737488351232) (ht : Tab w) (hmn : m + n ≤ 10000) (va : Hid (K.validL a = true)) (hx : Hid (K.validL x = true ∧ K.numL x = pwI (K.numL a) m)) (lx : Hid (x.length ≤ 140737488351232)) (hy : Hid (¬ K.fits (pwI (K.numL a) n))) (hz : Hid (¬ K.fits (pwI (K.numL a) (m + n)))) :
    Calls Tryd.prog 10 #[.string (Str a), .int .i64 (m : Int), .int .i64 (n : Int)] w (TruePost w) := by
  have HT := hid ht
  have b1 : m ≤ 10000 := by omega
  have b2 : n ≤ 10000 := by omega
  go_enter Tryd.func10, Tryd.ntmps10
  go_wp2_with fail
  refine (rvalid_at a w va ha).mono ?_
  rintro e wz ⟨rfl, rfl⟩
  go_wp2_with fail
  refine (power_yes (n := m) w (by simp) b1 ha va.out hx HT.out).mono ?_
  rintro e w1 ⟨rfl, hx1⟩
  have hy1 : Ext w w1 := hx1
  clear hx1
  go_wp2_with fail
  refine (power_no (n := n) w1 (by simp) b2 ha va.out hy (HT.out.ext hy1)).mono ?_
  rintro e w2 ⟨rfl, hx2⟩
  have hy2 : Ext w w2 := hy1.step hx2
  clear hx2 hy1
  go_wp2_with fail
  refine (power_no (n := m + n) w2 (by simp) hmn ha va.out hz (HT.out.ext hy2)).mono ?_
  rintro e w3 ⟨rfl, hx3⟩
  have hy3 : Ext w w3 := hy2.step hx3
  clear hx3 hy2
  go_wp2_with fail
  refine (awake_any w3 (HT.out.ext hy3)).mono ?_
  rintro e w4 ⟨rfl, hx4⟩
  have hy4 : Ext w w4 := hy3.step hx4
  clear hx4 hy3
  go_wp2
  go_ret
  exact ⟨rfl, hy4⟩
set_option maxRecDepth 100000 in
set_option maxHeartbeats 4000000 in
theorem ok010_NumPowered (a y : List UInt8) (m n : Nat) (w : World) (ha : a.length ≤ 140737488351232) (ht : Tab w) (hmn : m + n ≤ 10000) (va : Hid (K.validL a = true)) (hx : Hid (¬ K.fits (pwI (K.numL a) m))) (hy : Hid (K.validL y = true ∧ K.numL y = pwI (K.numL a) n)) (ly : Hid (y.length ≤ 140737488351232)) (hz : Hid (¬ K.fits (pwI (K.numL a) (m + n)))) :
    Calls Tryd.prog 10 #[.string (Str a), .int .i64 (m : Int), .int .i64 (n : Int)] w (TruePost w) := by
  have HT := hid ht
  have b1 : m ≤ 10000 := by omega
  have b2 : n ≤ 10000 := by omega
  go_enter Tryd.func10, Tryd.ntmps10
  go_wp2_with fail
  refine (rvalid_at a w va ha).mono ?_
  rintro e wz ⟨rfl, rfl⟩
  go_wp2_with fail
  refine (power_no (n := m) w (by simp) b1 ha va.out hx HT.out).mono ?_
  rintro e w1 ⟨rfl, hx1⟩
  have hy1 : Ext w w1 := hx1
  clear hx1
  go_wp2_with fail
  refine (power_yes (n := n) w1 (by simp) b2 ha va.out hy (HT.out.ext hy1)).mono ?_
  rintro e w2 ⟨rfl, hx2⟩
  have hy2 : Ext w w2 := hy1.step hx2
  clear hx2 hy1
  go_wp2_with fail
  refine (power_no (n := m + n) w2 (by simp) hmn ha va.out hz (HT.out.ext hy2)).mono ?_
  rintro e w3 ⟨rfl, hx3⟩
  have hy3 : Ext w w3 := hy2.step hx3
  clear hx3 hy2
  go_wp2_with fail
  refine (awake_any w3 (HT.out.ext hy3)).mono ?_
  rintro e w4 ⟨rfl, hx4⟩
  have hy4 : Ext w w4 := hy3.step hx4
  clear hx4 hy3
  go_wp2
  go_ret
  exact ⟨rfl, hy4⟩
set_option maxRecDepth 100000 in
set_option maxHeartbeats 4000000 in
theorem ok000_NumPowered (a : List UInt8) (m n : Nat) (w : World) (ha : a.length ≤ 140737488351232) (ht : Tab w) (hmn : m + n ≤ 10000) (va : Hid (K.validL a = true)) (hx : Hid (¬ K.fits (pwI (K.numL a) m))) (hy : Hid (¬ K.fits (pwI (K.numL a) n))) (hz : Hid (¬ K.fits (pwI (K.numL a) (m + n)))) :
    Calls Tryd.prog 10 #[.string (Str a), .int .i64 (m : Int), .int .i64 (n : Int)] w (TruePost w) := by
  have HT := hid ht
  have b1 : m ≤ 10000 := by omega
  have b2 : n ≤ 10000 := by omega
  go_enter Tryd.func10, Tryd.ntmps10
  go_wp2_with fail
  refine (rvalid_at a w va ha).mono ?_
  rintro e wz ⟨rfl, rfl⟩
  go_wp2_with fail
  refine (power_no (n := m) w (by simp) b1 ha va.out hx HT.out).mono ?_
  rintro e w1 ⟨rfl, hx1⟩
  have hy1 : Ext w w1 := hx1
  clear hx1
  go_wp2_with fail
  refine (power_no (n := n) w1 (by simp) b2 ha va.out hy (HT.out.ext hy1)).mono ?_
  rintro e w2 ⟨rfl, hx2⟩
  have hy2 : Ext w w2 := hy1.step hx2
  clear hx2 hy1
  go_wp2_with fail
  refine (power_no (n := m + n) w2 (by simp) hmn ha va.out hz (HT.out.ext hy2)).mono ?_
  rintro e w3 ⟨rfl, hx3⟩
  have hy3 : Ext w w3 := hy2.step hx3
  clear hx3 hy2
  go_wp2_with fail
  refine (awake_any w3 (HT.out.ext hy3)).mono ?_
  rintro e w4 ⟨rfl, hx4⟩
  have hy4 : Ext w w4 := hy3.step hx4
  clear hx4 hy3
  go_wp2
  go_ret
  exact ⟨rfl, hy4⟩
theorem law_NumPowered (a : List UInt8) (m n : Int) (w : World) (ha : a.length ≤ 140737488351232) (ht : Tab w) :
    Calls Tryd.prog 10 #[.string (Str a), .int .i64 m, .int .i64 n] w (TruePost w) := by
  cases va : K.validL a with
  | false => exact bad0_NumPowered a m n w ha ht (hid va)
  | true =>
    by_cases h1 : m < 0
    · exact bad1_NumPowered a m n w ha ht (hid va) h1
    by_cases h2 : n < 0
    · exact bad2_NumPowered a m n w ha ht (hid va) h1 h2
    by_cases h3 : 10000 < m
    · exact bad3_NumPowered a m n w ha ht (hid va) h1 h2 h3
    by_cases h4 : 10000 - m < n
    · exact bad4_NumPowered a m n w ha ht (hid va) h1 h2 h3 h4
    obtain ⟨m, rfl⟩ := Int.eq_ofNat_of_zero_le (Int.not_lt.mp h1)
    obtain ⟨n, rfl⟩ := Int.eq_ofNat_of_zero_le (Int.not_lt.mp h2)
    have hmn : m + n ≤ 10000 := by omega
    by_cases fm : K.fits (pwI (K.numL a) m)
    · obtain ⟨x, hx, lx⟩ := fit_text fm
      by_cases fn : K.fits (pwI (K.numL a) n)
      · obtain ⟨y, hy, ly⟩ := fit_text fn
        by_cases fz : K.fits (pwI (K.numL a) (m + n))
        · obtain ⟨z, hz, lz⟩ := fit_text fz
          exact ok111_NumPowered a x y z m n w ha ht hmn (hid va) hx lx hy ly hz lz
        · exact ok110_NumPowered a x y m n w ha ht hmn (hid va) hx lx hy ly (hid fz)
      · exact ok100_NumPowered a x m n w ha ht hmn (hid va) hx lx (hid fn) (hid (not_fits_add (.inr fn)))
    · by_cases fn : K.fits (pwI (K.numL a) n)
      · obtain ⟨y, hy, ly⟩ := fit_text fn
        exact ok010_NumPowered a y m n w ha ht hmn (hid va) (hid fm) hy ly (hid (not_fits_add (.inl fm)))
      · exact ok000_NumPowered a m n w ha ht hmn (hid va) (hid fm) (hid fn) (hid (not_fits_add (.inl fm)))
end Go.Proofs.YtdbaemadphhhcaaDoor
