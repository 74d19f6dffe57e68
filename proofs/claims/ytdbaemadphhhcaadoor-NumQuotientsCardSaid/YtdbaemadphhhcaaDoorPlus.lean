/- (natural).plus -/
import Derived.Test.YtdbaemadphhhcaaDoorTrim
import Derived.Test.YtdbaemadphhhcaaDoorMake
namespace Go.Proofs.YtdbaemadphhhcaaDoor
open Go.RowKit
def SumPost (n : Nat) (w : World) (e : Ending) (w' : World) : Prop := ∃ v, e = .returned v ∧ NatV w' v n ∧ Ext w w'
/-- the last step of plus, minus, times ..: a row of the call's own, trimmed -/
theorem SumPost.of_trim {w wr : World} {g : Nat} {s : List Nat} {n : Nat} (hrow : Row wr g 76 (U64s s)) (hb : Ext w wr) (hs : ∀ x ∈ s, x < 1000000000) (hv : K.lv s = n) (e : Ending) (w' : World)
    (h : TrimPost (some ⟨g, 0, none⟩) s.length s wr e w') : SumPost n w e w' := by
  obtain ⟨k, hk, rfl, hc, hw⟩ := h
  refine ⟨_, rfl, ⟨some ⟨g, 0, none⟩, k, s.length, s.take k, rfl, by simp; omega, hk, ?_, hc.lim hs, by rw [hc.lv, hv]⟩, hb.step hw.ext⟩
  have h0 := (hrow.rd0).take k
  rw [show (U64s s).take k = U64s (s.take k) by simp [U64s]] at h0
  exact h0.ext hw.ext

set_option maxHeartbeats 800000 in
theorem plus_a (A B : Option Addr) (ca cb n m : Nat) (xs ys : List Nat) (w : World) (ha : Rd w A (U64s xs)) (hb : Rd w B (U64s ys)) (ln : xs.length = n) (lm : ys.length = m) (hn : n ≤ 1000) (hm : m ≤ 1000)
    (bx : ∀ x ∈ xs, x < 1000000000) (by_ : ∀ y ∈ ys, y < 1000000000) (hl : ¬ n < m) :
    Calls Tryd.prog 63 #[.slice A n ca, .slice B m cb] w (SumPost (K.lv xs + K.lv ys) w) := by
  have LN := hid ln
  have LM := hid lm
  have hmk := fun w => mkNat (n + 1) ((n : Int) + 1) (by omega) (by omega) w
  have BX := hid bx
  have BY := hid by_
  clear ln lm bx by_
  go_enter Tryd.func63, Tryd.ntmps63
  go_wp2
  go_loopw [6, 7, 8, 22] (fun c _ _ i wr => ∃ (k cy : Nat) (done : List Nat), k ≤ n ∧ cy ≤ 1 ∧ i = .int .i64 k ∧ c = .int .u64 cy ∧ Row wr w.heap.size 76 (U64s (done ++ List.replicate (n + 1 - k) 0)) ∧ done.length = k ∧ (∀ x ∈ done, x < 1000000000) ∧
      done ++ addc (xs.drop k) (ys.drop k) cy = addc xs ys 0 ∧ Ext w wr) (fun _ _ _ i _ => n - (intOf i).toNat)
  case atStart => exact ⟨0, 0, [], by omega, by omega, rfl, rfl, by rw [List.nil_append, ← U64s_zeros]; exact Row.made w _ _ _, rfl, by simp, rfl, (Ext.rfl' w).alloc' _⟩
  case round =>
    obtain ⟨k, cy, done, hk, hcy, rfl, rfl, hrow, hd, hdl, hinv, hext⟩ := hrel
    have HD := hid hd
    have HI := hid hinv
    clear hd hinv hmk
    by_cases hlt : k < n
    · obtain ⟨b1, o1, x, eA, ex, hb1, hx⟩ := (ha.ext hext).at_ (k := k) (by rw [LN.out]; omega)
      subst eA
      have hxB := BX.out x (mem_at ex)
      have HX := hid ex
      have hz : n + 1 - k = (n + 1 - (k + 1)) + 1 := by omega
      have hcell : wr.cell? ⟨w.heap.size, k, none⟩ = some (.int .u64 0) := by rw [hrow.cell, hz]; simp [U64s, HD.out, zeros_succ]
      have hfree := hrow.free k
      have HZ := hid hz
      clear ex hz
      by_cases hlm : k < m
      · obtain ⟨b2, o2, y, eB, ey, hb2, hy⟩ := (hb.ext hext).at_ (k := k) (by rw [LM.out]; omega)
        subst eB
        have hyB := BY.out y (mem_at ey)
        have HY := hid ey
        clear ey ha hb
        go_wp2
        go_roundw
        case rel =>
          refine ⟨k + 1, (cy + x + y) / 1000000000, done ++ [(cy + x + y) % 1000000000], by omega, by omega, rfl, rfl, ?_, by simp [HD.out], ?_, ?_, hext.set' (Nat.le_refl _) _⟩
          · have h1 := hrow.set k (.int .u64 (((cy + x + y) % 1000000000 : Nat) : Int))
            rw [U64s_set, HZ.out, zeros_succ, set_app _ _ _ _ _ HD.out] at h1
            exact h1
          · intro z hz
            rcases List.mem_append.1 hz with h | h
            · exact hdl z h
            · simp at h; omega
          · rw [← HI.out, drop_at HX.out, drop_at HY.out, addc]
            simp
        case measure => simp [intOf]; omega
      · have hy0 : ys.drop k = [] := List.drop_of_length_le (by rw [LM.out]; omega)
        have HY := hid hy0
        clear hy0 ha hb
        go_wp2
        go_roundw
        case rel =>
          refine ⟨k + 1, (cy + x) / 1000000000, done ++ [(cy + x) % 1000000000], by omega, by omega, rfl, rfl, ?_, by simp [HD.out], ?_, ?_, hext.set' (Nat.le_refl _) _⟩
          · have h1 := hrow.set k (.int .u64 (((cy + x) % 1000000000 : Nat) : Int))
            rw [U64s_set, HZ.out, zeros_succ, set_app _ _ _ _ _ HD.out] at h1
            exact h1
          · intro z hz
            rcases List.mem_append.1 hz with h | h
            · exact hdl z h
            · simp at h; omega
          · have hy1 : ys.drop (k + 1) = [] := List.drop_of_length_le (by rw [LM.out]; omega)
            rw [← HI.out, drop_at HX.out, HY.out, addc, hy1]
            simp
        case measure => simp [intOf]; omega
    · obtain rfl : k = n := by omega
      have hcell : wr.cell? ⟨w.heap.size, k, none⟩ = some (.int .u64 0) := by rw [hrow.cell, show k + 1 - k = 1 by omega]; simp [U64s, HD.out]
      have hfree := hrow.free k
      have hx0 : xs.drop k = [] := List.drop_of_length_le (by rw [LN.out]; omega)
      have hres : Row (wr.setCell ⟨w.heap.size, k, none⟩ (.int .u64 (cy : Int))) w.heap.size 76 (U64s (addc xs ys 0)) := by
        have h1 := hrow.set k (.int .u64 (cy : Int))
        rw [show k + 1 - k = 0 + 1 by omega, U64s_set, zeros_succ, set_app _ _ _ _ _ HD.out] at h1
        rw [← HI.out, hx0]
        simpa [addc] using h1
      have hE : Ext w (wr.setCell ⟨w.heap.size, k, none⟩ (.int .u64 (cy : Int))) := hext.set' (Nat.le_refl _) _
      have hlen : (addc xs ys 0).length = k + 1 := by rw [addc_len, LN.out]
      have hval : K.lv (addc xs ys 0) = K.lv xs + K.lv ys := by rw [lv_addc _ _ _ (by rw [LN.out, LM.out]; omega)]; omega
      have hlims : ∀ x ∈ addc xs ys 0, x < 1000000000 := addc_lt _ _ _ BX.out BY.out (by omega)
      generalize addc xs ys 0 = s at *
      have HL := hid hlen
      have HV := hid hval
      clear hlen hval hx0 ha hb
      go_wp2_with fail
      refine (trimmed _ (k + 1) (k + 1) s _ hres.rd0 HL.out (by omega) (Nat.le_refl _)).mono ?_
      intro e w' hp
      have hq : SumPost (K.lv xs + K.lv ys) w e w' := SumPost.of_trim hres hE hlims HV.out e w' (by rw [HL.out]; exact hp)
      obtain ⟨v, rfl, hq⟩ := hq
      go_wp2
      go_ret
      exact ⟨v, rfl, hq⟩

set_option maxHeartbeats 800000 in
theorem plus_b (A B : Option Addr) (ca cb n m : Nat) (xs ys : List Nat) (w : World) (ha : Rd w A (U64s xs)) (hb : Rd w B (U64s ys)) (ln : xs.length = n) (lm : ys.length = m) (hn : n ≤ 1000) (hm : m ≤ 1000)
    (bx : ∀ x ∈ xs, x < 1000000000) (by_ : ∀ y ∈ ys, y < 1000000000) (hl : n < m) :
    Calls Tryd.prog 63 #[.slice A n ca, .slice B m cb] w (SumPost (K.lv xs + K.lv ys) w) := by
  have LN := hid ln
  have LM := hid lm
  have hmk := fun w => mkNat (m + 1) ((m : Int) + 1) (by omega) (by omega) w
  have BX := hid by_
  have BY := hid bx
  clear ln lm bx by_
  go_enter Tryd.func63, Tryd.ntmps63
  go_wp2
  go_loopw [6, 7, 8, 22] (fun c _ _ i wr => ∃ (k cy : Nat) (done : List Nat), k ≤ m ∧ cy ≤ 1 ∧ i = .int .i64 k ∧ c = .int .u64 cy ∧ Row wr w.heap.size 76 (U64s (done ++ List.replicate (m + 1 - k) 0)) ∧ done.length = k ∧ (∀ x ∈ done, x < 1000000000) ∧
      done ++ addc (ys.drop k) (xs.drop k) cy = addc ys xs 0 ∧ Ext w wr) (fun _ _ _ i _ => m - (intOf i).toNat)
  case atStart => exact ⟨0, 0, [], by omega, by omega, rfl, rfl, by rw [List.nil_append, ← U64s_zeros]; exact Row.made w _ _ _, rfl, by simp, rfl, (Ext.rfl' w).alloc' _⟩
  case round =>
    obtain ⟨k, cy, done, hk, hcy, rfl, rfl, hrow, hd, hdl, hinv, hext⟩ := hrel
    have HD := hid hd
    have HI := hid hinv
    clear hd hinv hmk
    by_cases hlt : k < m
    · obtain ⟨b1, o1, x, eA, ex, hb1, hx⟩ := (hb.ext hext).at_ (k := k) (by rw [LM.out]; omega)
      subst eA
      have hxB := BX.out x (mem_at ex)
      have HX := hid ex
      have hz : m + 1 - k = (m + 1 - (k + 1)) + 1 := by omega
      have hcell : wr.cell? ⟨w.heap.size, k, none⟩ = some (.int .u64 0) := by rw [hrow.cell, hz]; simp [U64s, HD.out, zeros_succ]
      have hfree := hrow.free k
      have HZ := hid hz
      clear ex hz
      by_cases hlm : k < n
      · obtain ⟨b2, o2, y, eB, ey, hb2, hy⟩ := (ha.ext hext).at_ (k := k) (by rw [LN.out]; omega)
        subst eB
        have hyB := BY.out y (mem_at ey)
        have HY := hid ey
        clear ey hb ha
        go_wp2
        go_roundw
        case rel =>
          refine ⟨k + 1, (cy + x + y) / 1000000000, done ++ [(cy + x + y) % 1000000000], by omega, by omega, rfl, rfl, ?_, by simp [HD.out], ?_, ?_, hext.set' (Nat.le_refl _) _⟩
          · have h1 := hrow.set k (.int .u64 (((cy + x + y) % 1000000000 : Nat) : Int))
            rw [U64s_set, HZ.out, zeros_succ, set_app _ _ _ _ _ HD.out] at h1
            exact h1
          · intro z hz
            rcases List.mem_append.1 hz with h | h
            · exact hdl z h
            · simp at h; omega
          · rw [← HI.out, drop_at HX.out, drop_at HY.out, addc]
            simp
        case measure => simp [intOf]; omega
      · have hy0 : xs.drop k = [] := List.drop_of_length_le (by rw [LN.out]; omega)
        have HY := hid hy0
        clear hy0 hb ha
        go_wp2
        go_roundw
        case rel =>
          refine ⟨k + 1, (cy + x) / 1000000000, done ++ [(cy + x) % 1000000000], by omega, by omega, rfl, rfl, ?_, by simp [HD.out], ?_, ?_, hext.set' (Nat.le_refl _) _⟩
          · have h1 := hrow.set k (.int .u64 (((cy + x) % 1000000000 : Nat) : Int))
            rw [U64s_set, HZ.out, zeros_succ, set_app _ _ _ _ _ HD.out] at h1
            exact h1
          · intro z hz
            rcases List.mem_append.1 hz with h | h
            · exact hdl z h
            · simp at h; omega
          · have hy1 : xs.drop (k + 1) = [] := List.drop_of_length_le (by rw [LN.out]; omega)
            rw [← HI.out, drop_at HX.out, HY.out, addc, hy1]
            simp
        case measure => simp [intOf]; omega
    · obtain rfl : k = m := by omega
      have hcell : wr.cell? ⟨w.heap.size, k, none⟩ = some (.int .u64 0) := by rw [hrow.cell, show k + 1 - k = 1 by omega]; simp [U64s, HD.out]
      have hfree := hrow.free k
      have hx0 : ys.drop k = [] := List.drop_of_length_le (by rw [LM.out]; omega)
      have hres : Row (wr.setCell ⟨w.heap.size, k, none⟩ (.int .u64 (cy : Int))) w.heap.size 76 (U64s (addc ys xs 0)) := by
        have h1 := hrow.set k (.int .u64 (cy : Int))
        rw [show k + 1 - k = 0 + 1 by omega, U64s_set, zeros_succ, set_app _ _ _ _ _ HD.out] at h1
        rw [← HI.out, hx0]
        simpa [addc] using h1
      have hE : Ext w (wr.setCell ⟨w.heap.size, k, none⟩ (.int .u64 (cy : Int))) := hext.set' (Nat.le_refl _) _
      have hlen : (addc ys xs 0).length = k + 1 := by rw [addc_len, LM.out]
      have hval : K.lv (addc ys xs 0) = K.lv xs + K.lv ys := by rw [lv_addc _ _ _ (by rw [LM.out, LN.out]; omega)]; omega
      have hlims : ∀ x ∈ addc ys xs 0, x < 1000000000 := addc_lt _ _ _ BX.out BY.out (by omega)
      generalize addc ys xs 0 = s at *
      have HL := hid hlen
      have HV := hid hval
      clear hlen hval hx0 hb ha
      go_wp2_with fail
      refine (trimmed _ (k + 1) (k + 1) s _ hres.rd0 HL.out (by omega) (Nat.le_refl _)).mono ?_
      intro e w' hp
      have hq : SumPost (K.lv xs + K.lv ys) w e w' := SumPost.of_trim hres hE hlims HV.out e w' (by rw [HL.out]; exact hp)
      obtain ⟨v, rfl, hq⟩ := hq
      go_wp2
      go_ret
      exact ⟨v, rfl, hq⟩

theorem plus_any (va vb : Value) (a b : Nat) (w : World) (ha : NatV w va a) (hb : NatV w vb b) (la : a ≤ BIG) (lb : b ≤ BIG) :
    Calls Tryd.prog 63 #[va, vb] w (SumPost (a + b) w) := by
  obtain ⟨A, n, ca, xs, rfl, h2, _, h4, h5, rfl⟩ := ha
  obtain ⟨B, m, cb, ys, rfl, k2, _, k4, k5, rfl⟩ := hb
  have hn := len_of_big h5 la
  have hm := len_of_big k5 lb
  by_cases hl : n < m
  · exact plus_b A B ca cb n m xs ys w h4 k4 h2 k2 (by omega) (by omega) h5.1 k5.1 hl
  · exact plus_a A B ca cb n m xs ys w h4 k4 h2 k2 (by omega) (by omega) h5.1 k5.1 hl
end Go.Proofs.YtdbaemadphhhcaaDoor
