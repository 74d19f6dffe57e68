/- Joined texts: (natural).plus; slices.Clone of a natural; (natural).minus; (natural).divideShort, (natural).scaled. -/
import Derived.Test.YtoilkfohhhidpaaGreatDoorJCStepFirst01
/- (natural).plus -/
namespace Go.Proofs.YtoilkfohhhidpaaGreatDoor
open Go.RowKit
def SumPost (n : Nat) (w : World) (e : Ending) (w' : World) : Prop := ∃ v, e = .returned v ∧ NatV w' v n ∧ Ext w w'
/-- the last step of plus, minus, times ..: a row of the call's own, trimmed -/
theorem SumPost.of_trim {w wr : World} {g : Nat} {s : List Nat} {n : Nat} (hrow : Row wr g 104 (U64s s)) (hb : Ext w wr) (hs : ∀ x ∈ s, x < 1000000000) (hv : K.lv s = n) (e : Ending) (w' : World)
    (h : TrimPost (some ⟨g, 0, none⟩) s.length s wr e w') : SumPost n w e w' := by
  obtain ⟨k, hk, rfl, hc, hw⟩ := h
  refine ⟨_, rfl, ⟨some ⟨g, 0, none⟩, k, s.length, s.take k, rfl, by simp; omega, hk, ?_, hc.lim hs, by rw [hc.lv, hv]⟩, hb.step hw.ext⟩
  have h0 := (hrow.rd0).take k
  rw [show (U64s s).take k = U64s (s.take k) by simp [U64s]] at h0
  exact h0.ext hw.ext

set_option maxHeartbeats 800000 in
theorem plus_a (A B : Option Addr) (ca cb n m : Nat) (xs ys : List Nat) (w : World) (ha : Rd w A (U64s xs)) (hb : Rd w B (U64s ys)) (ln : xs.length = n) (lm : ys.length = m) (hn : n ≤ 1000) (hm : m ≤ 1000)
    (bx : ∀ x ∈ xs, x < 1000000000) (by_ : ∀ y ∈ ys, y < 1000000000) (hl : ¬ n < m) :
    Calls Tryz.prog 95 #[.slice A n ca, .slice B m cb] w (SumPost (K.lv xs + K.lv ys) w) := by
  have LN := hid ln
  have LM := hid lm
  have hmk := fun w => mkNat (n + 1) ((n : Int) + 1) (by omega) (by omega) w
  have BX := hid bx
  have BY := hid by_
  clear ln lm bx by_
  go_enter Tryz.func95, Tryz.ntmps95
  go_wp2
  go_loopw [6, 7, 8, 22] (fun c _ _ i wr => ∃ (k cy : Nat) (done : List Nat), k ≤ n ∧ cy ≤ 1 ∧ i = .int .i64 k ∧ c = .int .u64 cy ∧ Row wr w.heap.size 104 (U64s (done ++ List.replicate (n + 1 - k) 0)) ∧ done.length = k ∧ (∀ x ∈ done, x < 1000000000) ∧
      done ++ addc (xs.drop k) (ys.drop k) cy = addc xs ys 0 ∧ Ext w wr) (fun _ _ _ i _ => n - (intOf i).toNat)
  case atStart => exact ⟨0, 0, [], by omega, by omega, rfl, rfl, by rw [List.nil_append, ← U64s_zeros]; exact Row.made w _ _ _, rfl, by simp, rfl, (Ext.rfl' w).alloc' _⟩
  case round =>
    obtain ⟨k, cy, done, hk, hcy, rfl, rfl, hrow, hd, hdl, hinv, hext⟩ := hrel
    have HD := hid hd
    have HI := hid hinv
    clear hd hinv hmk
    by_cases hlt : k < n
    · obtain ⟨b1, o1, x, eA, ex, hb1, hx⟩ := (ha.ext hext).at_ (k := k) (by rw [LN.out]; omega)
      subst eA
      have hxB := BX.out x (mem_at ex)
      have HX := hid ex
      have hz : n + 1 - k = (n + 1 - (k + 1)) + 1 := by omega
      have hcell : wr.cell? ⟨w.heap.size, k, none⟩ = some (.int .u64 0) := by rw [hrow.cell, hz]; simp [U64s, HD.out, zeros_succ]
      have hfree := hrow.free k
      have HZ := hid hz
      clear ex hz
      by_cases hlm : k < m
      · obtain ⟨b2, o2, y, eB, ey, hb2, hy⟩ := (hb.ext hext).at_ (k := k) (by rw [LM.out]; omega)
        subst eB
        have hyB := BY.out y (mem_at ey)
        have HY := hid ey
        clear ey ha hb
        go_wp2
        go_roundw
        case rel =>
          refine ⟨k + 1, (cy + x + y) / 1000000000, done ++ [(cy + x + y) % 1000000000], by omega, by omega, rfl, rfl, ?_, by simp [HD.out], ?_, ?_, hext.set' (Nat.le_refl _) _⟩
          · have h1 := hrow.set k (.int .u64 (((cy + x + y) % 1000000000 : Nat) : Int))
            rw [U64s_set, HZ.out, zeros_succ, set_app _ _ _ _ _ HD.out] at h1
            exact h1
          · intro z hz
            rcases List.mem_append.1 hz with h | h
            · exact hdl z h
            · simp at h; omega
          · rw [← HI.out, drop_at HX.out, drop_at HY.out, addc]
            simp
        case measure => simp [intOf]; omega
      · have hy0 : ys.drop k = [] := List.drop_of_length_le (by rw [LM.out]; omega)
        have HY := hid hy0
        clear hy0 ha hb
        go_wp2
        go_roundw
        case rel =>
          refine ⟨k + 1, (cy + x) / 1000000000, done ++ [(cy + x) % 1000000000], by omega, by omega, rfl, rfl, ?_, by simp [HD.out], ?_, ?_, hext.set' (Nat.le_refl _) _⟩
          · have h1 := hrow.set k (.int .u64 (((cy + x) % 1000000000 : Nat) : Int))
            rw [U64s_set, HZ.out, zeros_succ, set_app _ _ _ _ _ HD.out] at h1
            exact h1
          · intro z hz
            rcases List.mem_append.1 hz with h | h
            · exact hdl z h
            · simp at h; omega
          · have hy1 : ys.drop (k + 1) = [] := List.drop_of_length_le (by rw [LM.out]; omega)
            rw [← HI.out, drop_at HX.out, HY.out, addc, hy1]
            simp
        case measure => simp [intOf]; omega
    · obtain rfl : k = n := by omega
      have hcell : wr.cell? ⟨w.heap.size, k, none⟩ = some (.int .u64 0) := by rw [hrow.cell, show k + 1 - k = 1 by omega]; simp [U64s, HD.out]
      have hfree := hrow.free k
      have hx0 : xs.drop k = [] := List.drop_of_length_le (by rw [LN.out]; omega)
      have hres : Row (wr.setCell ⟨w.heap.size, k, none⟩ (.int .u64 (cy : Int))) w.heap.size 104 (U64s (addc xs ys 0)) := by
        have h1 := hrow.set k (.int .u64 (cy : Int))
        rw [show k + 1 - k = 0 + 1 by omega, U64s_set, zeros_succ, set_app _ _ _ _ _ HD.out] at h1
        rw [← HI.out, hx0]
        simpa [addc] using h1
      have hE : Ext w (wr.setCell ⟨w.heap.size, k, none⟩ (.int .u64 (cy : Int))) := hext.set' (Nat.le_refl _) _
      have hlen : (addc xs ys 0).length = k + 1 := by rw [addc_len, LN.out]
      have hval : K.lv (addc xs ys 0) = K.lv xs + K.lv ys := by rw [lv_addc _ _ _ (by rw [LN.out, LM.out]; omega)]; omega
      have hlims : ∀ x ∈ addc xs ys 0, x < 1000000000 := addc_lt _ _ _ BX.out BY.out (by omega)
      generalize addc xs ys 0 = s at *
      have HL := hid hlen
      have HV := hid hval
      clear hlen hval hx0 ha hb
      go_wp2_with fail
      refine (trimmed _ (k + 1) (k + 1) s _ hres.rd0 HL.out (by omega) (Nat.le_refl _)).mono ?_
      intro e w' hp
      have hq : SumPost (K.lv xs + K.lv ys) w e w' := SumPost.of_trim hres hE hlims HV.out e w' (by rw [HL.out]; exact hp)
      obtain ⟨v, rfl, hq⟩ := hq
      go_wp2
      go_ret
      exact ⟨v, rfl, hq⟩

set_option maxHeartbeats 800000 in
theorem plus_b (A B : Option Addr) (ca cb n m : Nat) (xs ys : List Nat) (w : World) (ha : Rd w A (U64s xs)) (hb : Rd w B (U64s ys)) (ln : xs.length = n) (lm : ys.length = m) (hn : n ≤ 1000) (hm : m ≤ 1000)
    (bx : ∀ x ∈ xs, x < 1000000000) (by_ : ∀ y ∈ ys, y < 1000000000) (hl : n < m) :
    Calls Tryz.prog 95 #[.slice A n ca, .slice B m cb] w (SumPost (K.lv xs + K.lv ys) w) := by
  have LN := hid ln
  have LM := hid lm
  have hmk := fun w => mkNat (m + 1) ((m : Int) + 1) (by omega) (by omega) w
  have BX := hid by_
  have BY := hid bx
  clear ln lm bx by_
  go_enter Tryz.func95, Tryz.ntmps95
  go_wp2
  go_loopw [6, 7, 8, 22] (fun c _ _ i wr => ∃ (k cy : Nat) (done : List Nat), k ≤ m ∧ cy ≤ 1 ∧ i = .int .i64 k ∧ c = .int .u64 cy ∧ Row wr w.heap.size 104 (U64s (done ++ List.replicate (m + 1 - k) 0)) ∧ done.length = k ∧ (∀ x ∈ done, x < 1000000000) ∧
      done ++ addc (ys.drop k) (xs.drop k) cy = addc ys xs 0 ∧ Ext w wr) (fun _ _ _ i _ => m - (intOf i).toNat)
  case atStart => exact ⟨0, 0, [], by omega, by omega, rfl, rfl, by rw [List.nil_append, ← U64s_zeros]; exact Row.made w _ _ _, rfl, by simp, rfl, (Ext.rfl' w).alloc' _⟩
  case round =>
    obtain ⟨k, cy, done, hk, hcy, rfl, rfl, hrow, hd, hdl, hinv, hext⟩ := hrel
    have HD := hid hd
    have HI := hid hinv
    clear hd hinv hmk
    by_cases hlt : k < m
    · obtain ⟨b1, o1, x, eA, ex, hb1, hx⟩ := (hb.ext hext).at_ (k := k) (by rw [LM.out]; omega)
      subst eA
      have hxB := BX.out x (mem_at ex)
      have HX := hid ex
      have hz : m + 1 - k = (m + 1 - (k + 1)) + 1 := by omega
      have hcell : wr.cell? ⟨w.heap.size, k, none⟩ = some (.int .u64 0) := by rw [hrow.cell, hz]; simp [U64s, HD.out, zeros_succ]
      have hfree := hrow.free k
      have HZ := hid hz
      clear ex hz
      by_cases hlm : k < n
      · obtain ⟨b2, o2, y, eB, ey, hb2, hy⟩ := (ha.ext hext).at_ (k := k) (by rw [LN.out]; omega)
        subst eB
        have hyB := BY.out y (mem_at ey)
        have HY := hid ey
        clear ey hb ha
        go_wp2
        go_roundw
        case rel =>
          refine ⟨k + 1, (cy + x + y) / 1000000000, done ++ [(cy + x + y) % 1000000000], by omega, by omega, rfl, rfl, ?_, by simp [HD.out], ?_, ?_, hext.set' (Nat.le_refl _) _⟩
          · have h1 := hrow.set k (.int .u64 (((cy + x + y) % 1000000000 : Nat) : Int))
            rw [U64s_set, HZ.out, zeros_succ, set_app _ _ _ _ _ HD.out] at h1
            exact h1
          · intro z hz
            rcases List.mem_append.1 hz with h | h
            · exact hdl z h
            · simp at h; omega
          · rw [← HI.out, drop_at HX.out, drop_at HY.out, addc]
            simp
        case measure => simp [intOf]; omega
      · have hy0 : xs.drop k = [] := List.drop_of_length_le (by rw [LN.out]; omega)
        have HY := hid hy0
        clear hy0 hb ha
        go_wp2
        go_roundw
        case rel =>
          refine ⟨k + 1, (cy + x) / 1000000000, done ++ [(cy + x) % 1000000000], by omega, by omega, rfl, rfl, ?_, by simp [HD.out], ?_, ?_, hext.set' (Nat.le_refl _) _⟩
          · have h1 := hrow.set k (.int .u64 (((cy + x) % 1000000000 : Nat) : Int))
            rw [U64s_set, HZ.out, zeros_succ, set_app _ _ _ _ _ HD.out] at h1
            exact h1
          · intro z hz
            rcases List.mem_append.1 hz with h | h
            · exact hdl z h
            · simp at h; omega
          · have hy1 : xs.drop (k + 1) = [] := List.drop_of_length_le (by rw [LN.out]; omega)
            rw [← HI.out, drop_at HX.out, HY.out, addc, hy1]
            simp
        case measure => simp [intOf]; omega
    · obtain rfl : k = m := by omega
      have hcell : wr.cell? ⟨w.heap.size, k, none⟩ = some (.int .u64 0) := by rw [hrow.cell, show k + 1 - k = 1 by omega]; simp [U64s, HD.out]
      have hfree := hrow.free k
      have hx0 : ys.drop k = [] := List.drop_of_length_le (by rw [LM.out]; omega)
      have hres : Row (wr.setCell ⟨w.heap.size, k, none⟩ (.int .u64 (cy : Int))) w.heap.size 104 (U64s (addc ys xs 0)) := by
        have h1 := hrow.set k (.int .u64 (cy : Int))
        rw [show k + 1 - k = 0 + 1 by omega, U64s_set, zeros_succ, set_app _ _ _ _ _ HD.out] at h1
        rw [← HI.out, hx0]
        simpa [addc] using h1
      have hE : Ext w (wr.setCell ⟨w.heap.size, k, none⟩ (.int .u64 (cy : Int))) := hext.set' (Nat.le_refl _) _
      have hlen : (addc ys xs 0).length = k + 1 := by rw [addc_len, LM.out]
      have hval : K.lv (addc ys xs 0) = K.lv xs + K.lv ys := by rw [lv_addc _ _ _ (by rw [LM.out, LN.out]; omega)]; omega
      have hlims : ∀ x ∈ addc ys xs 0, x < 1000000000 := addc_lt _ _ _ BX.out BY.out (by omega)
      generalize addc ys xs 0 = s at *
      have HL := hid hlen
      have HV := hid hval
      clear hlen hval hx0 hb ha
      go_wp2_with fail
      refine (trimmed _ (k + 1) (k + 1) s _ hres.rd0 HL.out (by omega) (Nat.le_refl _)).mono ?_
      intro e w' hp
      have hq : SumPost (K.lv xs + K.lv ys) w e w' := SumPost.of_trim hres hE hlims HV.out e w' (by rw [HL.out]; exact hp)
      obtain ⟨v, rfl, hq⟩ := hq
      go_wp2
      go_ret
      exact ⟨v, rfl, hq⟩

theorem plus_any (va vb : Value) (a b : Nat) (w : World) (ha : NatV w va a) (hb : NatV w vb b) (la : a ≤ BIG) (lb : b ≤ BIG) :
    Calls Tryz.prog 95 #[va, vb] w (SumPost (a + b) w) := by
  obtain ⟨A, n, ca, xs, rfl, h2, _, h4, h5, rfl⟩ := ha
  obtain ⟨B, m, cb, ys, rfl, k2, _, k4, k5, rfl⟩ := hb
  have hn := len_of_big h5 la
  have hm := len_of_big k5 lb
  by_cases hl : n < m
  · exact plus_b A B ca cb n m xs ys w h4 k4 h2 k2 (by omega) (by omega) h5.1 k5.1 hl
  · exact plus_a A B ca cb n m xs ys w h4 k4 h2 k2 (by omega) (by omega) h5.1 k5.1 hl
end Go.Proofs.YtoilkfohhhidpaaGreatDoor
/- slices.Clone of a natural -/
namespace Go.Proofs.YtoilkfohhhidpaaGreatDoor
open Go.RowKit
def ClonePost (n : Nat) (xs : List Nat) (w : World) (e : Ending) (w' : World) : Prop :=
  ∃ A c, n ≤ c ∧ e = .returned (.slice A n c) ∧ Ext w w' ∧ (n = 0 ∨ ∃ g spare, A = some ⟨g, 0, none⟩ ∧ w.heap.size ≤ g ∧ Row w' g 104 (U64s xs ++ spare))
theorem ClonePost.of_own {n : Nat} {xs : List Nat} {w w' : World} {v : Value} (h : w'.ownsRow w.heap.size 104 1 v n (U64s xs)) (e : Ext w w') : ClonePost n xs w (.returned v) w' := by
  rcases h.2 with ⟨rfl, rfl⟩ | ⟨g, cap, cur, rfl, hg, hh, hc, _, hs, ht⟩
  · exact ⟨none, 0, Nat.le_refl _, rfl, e, .inl rfl⟩
  · refine ⟨_, cap, hc, rfl, e, .inr ⟨g, cur.toList.drop (n * 1), rfl, hg, ?_⟩⟩
    unfold Row
    rw [hh, ← ht, List.take_append_drop]
set_option maxHeartbeats 400000 in
theorem clone_any (A : Option Addr) (n c : Nat) (xs : List Nat) (w : World) (ha : Rd w A (U64s xs)) (ln : xs.length = n) (hn : n ≤ 1000000) :
    Calls Tryz.prog 113 #[.slice A n c] w (ClonePost n xs w) := by
  have LN := hid ln
  clear ln
  obtain ⟨i0, hi, hz0, hz1, hz2⟩ := info_parts infoU
  have q22 : ∀ (w : World) (a : Option Addr) (n c n' c' : Nat), (binOp .eql 82 (.slice a n c) (.slice none n' c')).run Tryz.prog w = .ok (.bool a.isNone) w := fun w a n c n' c' => Lib.run_eql_slice_nil w _ _ a n c n' c' Tryz.underlying82
  rcases A with _ | a
  · have h0 : n = 0 := by
      rcases ha with h | ⟨_, _, h, _⟩
      · rw [← LN.out]; simpa using h
      · cases h
    subst h0
    go_enter Tryz.func113, Tryz.ntmps113
    go_wp2
    go_ret
    exact ⟨none, 0, Nat.le_refl _, rfl, Ext.rfl' _, .inl rfl⟩
  · have hcell : Hid (∀ j u, (U64s xs)[j]? = some u → w.cell? (a.add j) = some u) := by
      rcases ha with h | ⟨b, o, h, _, hc⟩
      · intro j u hu; rw [h] at hu; simp at hu
      · injection h with h
        subst h
        intro j u hu
        rw [Addr.add_lit]
        exact hc j u hu
    clear ha
    go_enter Tryz.func113, Tryz.ntmps113
    go_wp2_with (at_builtin; refine wpList_append_own _ rfl _ _ 82 rfl w.heap.size 104 i0 (.int .u64 0) 1 8 Tryz.underlying82 hi hz0 hz1 hz2 rfl (by decide) _ _ _ rfl (World.ownsRow_made w #[] 0 (Nat.le_refl _) (Nat.zero_le _) rfl) a n c (U64s xs) rfl ?qc1 ?qc2 ?qc3 ?qc4 ?qc5 ?qc6 ?_)
    case qc1 => simp [LN.out]
    case qc2 =>
      intro j u hj
      exact Lib.cell?_alloc_some _ (hcell.out j u hj)
    case qc3 => intro u hu; obtain ⟨x, _, rfl⟩ := List.mem_map.1 hu; rfl
    case qc4 => unfold maxLen; omega
    case qc5 => omega
    case qc6 => simp
    intro v' w1 hown hgrow hnil
    go_wp2
    go_ret
    have hown' : w1.ownsRow w.heap.size 104 1 v' n (U64s xs) := by simpa using hown
    exact ClonePost.of_own hown' (((Below.refl _ w).alloc (Nat.le_refl _) _).grown hgrow (by simp) (by intro k hk; simp [Value.ownBlock] at hk; omega))
end Go.Proofs.YtoilkfohhhidpaaGreatDoor
/- (natural).minus -/
namespace Go.Proofs.YtoilkfohhhidpaaGreatDoor
open Go.RowKit
theorem U64s_mid {done rest : List Nat} {sp : List Value} {x k : Nat} (hk : done.length = k) : (U64s (done ++ x :: rest) ++ sp)[k]? = some (.int .u64 (x : Int)) := by
  subst hk
  rw [List.getElem?_append_left (by simp)]
  simp [U64s]
theorem U64s_put {done rest : List Nat} {sp : List Value} {x k : Nat} (hk : done.length = k) (v : Nat) : (U64s (done ++ x :: rest) ++ sp).set k (.int .u64 (v : Int)) = U64s ((done ++ [v]) ++ rest) ++ sp := by
  rw [List.set_append_left _ _ (by simp; omega), U64s_set, set_app _ _ _ _ _ hk]
theorem Row.step1 {w : World} {g : Nat} {t : TypeId} {done rest : List Nat} {sp : List Value} {x k : Nat} (h : Row w g t (U64s (done ++ x :: rest) ++ sp)) (hk : done.length = k) (v : Nat) :
    Row (w.setCell ⟨g, k, none⟩ (.int .u64 (v : Int))) g t (U64s ((done ++ [v]) ++ rest) ++ sp) := by
  have h1 := h.set k (.int .u64 (v : Int))
  rwa [U64s_put hk] at h1
theorem Row.step2 {w : World} {g : Nat} {t : TypeId} {done rest : List Nat} {sp : List Value} {x k : Nat} (h : Row w g t (U64s (done ++ x :: rest) ++ sp)) (hk : done.length = k) (u : Value) (v : Nat) :
    Row ((w.setCell ⟨g, k, none⟩ u).setCell ⟨g, k, none⟩ (.int .u64 (v : Int))) g t (U64s ((done ++ [v]) ++ rest) ++ sp) := by
  have h1 := (h.set k u).set k (.int .u64 (v : Int))
  rwa [List.set_set, U64s_put hk] at h1
theorem Row.rd_sp {w : World} {g : Nat} {t : TypeId} {s : List Nat} {sp : List Value} (h : Row w g t (U64s s ++ sp)) : Rd w (some ⟨g, 0, none⟩) (U64s s) := by
  have h0 := (h.rd0).take (U64s s).length
  rwa [List.take_left] at h0
theorem SumPost.of_trim' {w wr : World} {g : Nat} {s : List Nat} {sp : List Value} {n c : Nat} (hrow : Row wr g 104 (U64s s ++ sp)) (hb : Ext w wr) (hs : ∀ x ∈ s, x < 1000000000) (hv : K.lv s = n) (e : Ending) (w' : World)
    (_ : True) (hc : s.length ≤ c) (h : TrimPost (some ⟨g, 0, none⟩) c s wr e w') : SumPost n w e w' := by
  obtain ⟨k, hk, rfl, hcut, hw⟩ := h
  refine ⟨_, rfl, ⟨some ⟨g, 0, none⟩, k, c, s.take k, rfl, by simp; omega, by omega, ?_, hcut.lim hs, by rw [hcut.lv, hv]⟩, hb.step hw.ext⟩
  have h0 := (hrow.rd_sp).take k
  rw [show (U64s s).take k = U64s (s.take k) by simp [U64s]] at h0
  exact h0.ext hw.ext

set_option maxHeartbeats 1600000 in
theorem minus_l (A B : Option Addr) (ca cb n m : Nat) (xs ys : List Nat) (w : World) (ha : Rd w A (U64s xs)) (hb : Rd w B (U64s ys)) (ln : xs.length = n) (lm : ys.length = m) (hn : n ≤ 1000) (hmn : m ≤ n)
    (bx : ∀ x ∈ xs, x < 1000000000) (by_ : ∀ y ∈ ys, y < 1000000000) (hl : K.lv ys ≤ K.lv xs) :
    Calls Tryz.prog 96 #[.slice A n ca, .slice B m cb] w (SumPost (K.lv xs - K.lv ys) w) := by
  have LN := hid ln
  have LM := hid lm
  have BX := hid bx
  have BY := hid by_
  clear bx by_
  go_enter Tryz.func96, Tryz.ntmps96
  go_wp2_with fail
  refine (clone_any A n ca xs w ha ln (by omega)).mono ?_
  clear ln lm
  rintro e w1 ⟨A', c', hc', rfl, hx1, hcl⟩
  by_cases hn0 : n = 0
  · subst hn0
    have hx0 : xs = [] := List.eq_nil_of_length_eq_zero LN.out
    obtain rfl : m = 0 := by omega
    have hy0 : ys = [] := List.eq_nil_of_length_eq_zero LM.out
    subst hx0 hy0
    go_wp2
    go_loopw [6, 7, 8, 13] (fun _ _ _ i wr => i = .int .i64 0 ∧ wr = w1) (fun _ _ _ i _ => 0)
    case atStart => exact ⟨rfl, rfl⟩
    case round =>
      obtain ⟨rfl, rfl⟩ := hrel
      go_wp2_with fail
      refine (trimmed A' c' 0 [] _ (Rd.nil _ _) rfl (by omega) (by omega)).mono ?_
      rintro e w' ⟨k, hk, rfl, hcut, hw⟩
      obtain rfl : k = 0 := by simpa using hk
      go_wp2
      go_ret
      exact ⟨_, rfl, ⟨A', 0, c', [], rfl, rfl, Nat.zero_le _, Rd.nil _ _, K.Lim.nil, rfl⟩, hx1.step hw.ext⟩
  · obtain ⟨g, sp, rfl, hg, hrow1⟩ := hcl.resolve_left hn0
    go_wp2
    go_loopw [6, 7, 8, 13] (fun br _ _ i wr => ∃ (k b : Nat) (done : List Nat), k ≤ n ∧ b ≤ 1 ∧ i = .int .i64 k ∧ br = .int .u64 b ∧ Row wr g 104 (U64s (done ++ xs.drop k) ++ sp) ∧ done.length = k ∧
        done ++ subb (xs.drop k) (ys.drop k) b = subb xs ys 0 ∧ Ext w wr) (fun _ _ _ i _ => n - (intOf i).toNat)
    case atStart => exact ⟨0, 0, [], by omega, by omega, rfl, rfl, by simpa using hrow1, rfl, rfl, hx1⟩
    case round =>
      obtain ⟨k, br, done, hk, hbr, rfl, rfl, hrow, hd, hinv, hext⟩ := hrel
      have HD := hid hd
      have HI := hid hinv
      clear hd hinv hrow1 hx1 hcl
      by_cases hlt : k < n
      · obtain ⟨b1, o1, x, eA, ex, hb1, hx⟩ := (ha.ext hext).at_ (k := k) (by rw [LN.out]; omega)
        have hxB := BX.out x (mem_at ex)
        have HX := hid ex
        rw [drop_at ex] at hrow
        have hcell : wr.cell? ⟨g, k, none⟩ = some (.int .u64 x) := by rw [hrow.cell, U64s_mid HD.out]
        have hfree := hrow.free k
        clear ex eA hx
        by_cases hlm : k < m
        · obtain ⟨b2, o2, y, eB, ey, hb2, hy⟩ := (hb.ext hext).at_ (k := k) (by rw [LM.out]; omega)
          subst eB
          have hyB := BY.out y (mem_at ey)
          have HY := hid ey
          clear ey ha hb
          by_cases hc : x < br + y
          · go_wp2
            go_roundw
            case rel =>
              refine ⟨k + 1, 1, done ++ [(x + 1000000000 - (br + y))], by omega, by omega, rfl, rfl, ?_, by simp [HD.out], ?_, (hext.set' hg _).set' hg _⟩
              · have h1 := hrow.step2 HD.out (.int .u64 (((x + 1000000000 : Nat)) : Int)) (x + 1000000000 - (br + y))
                rw [show (((x + 1000000000 : Nat)) : Int) = (x : Int) + 1000000000 by omega, show (((x + 1000000000 - (br + y)) : Nat) : Int) = (x : Int) + 1000000000 - ((br : Int) + y) by omega] at h1
                exact h1
              · rw [← HI.out, drop_at HX.out, drop_at HY.out, subb_yes (by simpa using hc)]
                simp
            case measure => simp [intOf]; omega
          · go_wp2
            go_roundw
            case rel =>
              refine ⟨k + 1, 0, done ++ [(x - (br + y))], by omega, by omega, rfl, rfl, ?_, by simp [HD.out], ?_, hext.set' hg _⟩
              · have h1 := hrow.step1 HD.out (x - (br + y))
                rw [show (((x - (br + y)) : Nat) : Int) = (x : Int) - ((br : Int) + y) by omega] at h1
                exact h1
              · rw [← HI.out, drop_at HX.out, drop_at HY.out, subb_no (by simpa using hc)]
                simp
            case measure => simp [intOf]; omega
        · have hy0 : ys.drop k = [] := List.drop_of_length_le (by rw [LM.out]; omega)
          have hy1 : ys.drop (k + 1) = [] := List.drop_of_length_le (by rw [LM.out]; omega)
          have HY := hid hy0
          by_cases hb0 : br = 0
          · subst hb0
            have hres : Row wr g 104 (U64s (subb xs ys 0) ++ sp) := by
              rw [← HI.out, HY.out, subb_nil, drop_at HX.out]; exact hrow
            clear HI HY hy0 hy1
            have hval : K.lv (subb xs ys 0) = K.lv xs - K.lv ys := by
              have h1 := lv_subb xs ys 0 BX.out BY.out (by omega) (by omega)
              omega
            have hlims : ∀ x ∈ subb xs ys 0, x < 1000000000 := subb_lt _ _ _ BX.out BY.out (by omega)
            have hlen : (subb xs ys 0).length = n := by rw [subb_len, LN.out]
            generalize subb xs ys 0 = s at *
            have HL := hid hlen
            have HV := hid hval
            clear hlen hval ha hb
            go_wp2_with fail
            refine (trimmed _ c' n s _ hres.rd_sp HL.out (by omega) (by omega)).mono ?_
            intro e w' hp
            have hq : SumPost (K.lv xs - K.lv ys) w e w' := SumPost.of_trim' hres hext hlims HV.out e w' trivial (by rw [HL.out]; omega) hp
            obtain ⟨v, rfl, hq⟩ := hq
            go_wp2
            go_ret
            exact ⟨v, rfl, hq⟩
          · obtain rfl : br = 1 := by omega
            clear hb0 ha hb hy0
            by_cases hc : x < 1
            · obtain rfl : x = 0 := by omega
              go_wp2
              go_roundw
              case rel =>
                refine ⟨k + 1, 1, done ++ [999999999], by omega, by omega, rfl, rfl, hrow.step2 HD.out (.int .u64 1000000000) 999999999, by simp [HD.out], ?_, (hext.set' hg _).set' hg _⟩
                rw [← HI.out, drop_at HX.out, HY.out, subb_yes (by simp), hy1]
                simp
              case measure => simp [intOf]; omega
            · go_wp2
              go_roundw
              case rel =>
                refine ⟨k + 1, 0, done ++ [(x - 1)], by omega, by omega, rfl, rfl, ?_, by simp [HD.out], ?_, hext.set' hg _⟩
                · have h1 := hrow.step1 HD.out (x - 1)
                  rw [show (((x - 1) : Nat) : Int) = (x : Int) - (1 : Int) by omega] at h1
                  exact h1
                · rw [← HI.out, drop_at HX.out, HY.out, subb_no (by simpa using hc), hy1]
                  simp
              case measure => simp [intOf]; omega
      · obtain rfl : k = n := by omega
        have hres : Row wr g 104 (U64s (subb xs ys 0) ++ sp) := by
          have hx0 : xs.drop k = [] := List.drop_of_length_le (by rw [LN.out]; omega)
          rw [hx0, List.append_nil] at hrow
          rw [← HI.out, hx0]; simpa [subb] using hrow
        clear HI
        have hval : K.lv (subb xs ys 0) = K.lv xs - K.lv ys := by
          have h1 := lv_subb xs ys 0 BX.out BY.out (by omega) (by omega)
          omega
        have hlims : ∀ x ∈ subb xs ys 0, x < 1000000000 := subb_lt _ _ _ BX.out BY.out (by omega)
        have hlen : (subb xs ys 0).length = k := by rw [subb_len, LN.out]
        generalize subb xs ys 0 = s at *
        have HL := hid hlen
        have HV := hid hval
        clear hlen hval ha hb
        go_wp2_with fail
        refine (trimmed _ c' k s _ hres.rd_sp HL.out (by omega) (by omega)).mono ?_
        intro e w' hp
        have hq : SumPost (K.lv xs - K.lv ys) w e w' := SumPost.of_trim' hres hext hlims HV.out e w' trivial (by rw [HL.out]; omega) hp
        obtain ⟨v, rfl, hq⟩ := hq
        go_wp2
        go_ret
        exact ⟨v, rfl, hq⟩
theorem minus_any (va vb : Value) (a b : Nat) (w : World) (ha : NatV w va a) (hb : NatV w vb b) (la : a ≤ BIG) (hba : b ≤ a) :
    Calls Tryz.prog 96 #[va, vb] w (SumPost (a - b) w) := by
  obtain ⟨A, n, ca, xs, rfl, h2, _, h4, h5, rfl⟩ := ha
  obtain ⟨B, m, cb, ys, rfl, k2, _, k4, k5, rfl⟩ := hb
  have hn := len_of_big h5 la
  have hm : ys.length ≤ xs.length := by
    refine len_of_lt k5 _ (Nat.lt_of_le_of_lt hba (K.lv_lt _ h5.1))
  exact minus_l A B ca cb n m xs ys w h4 k4 h2 k2 (by omega) (by omega) h5.1 k5.1 hba
end Go.Proofs.YtoilkfohhhidpaaGreatDoor
/- (natural).divideShort, (natural).scaled -/
namespace Go.Proofs.YtoilkfohhhidpaaGreatDoor
open Go.RowKit
theorem U64s_mid0 {done rest : List Nat} {x k : Nat} (hk : done.length = k) : (U64s (done ++ x :: rest))[k]? = some (.int .u64 (x : Int)) := by
  have h := U64s_mid (sp := []) (rest := rest) (x := x) hk
  simpa using h
theorem Row.step0 {w : World} {g : Nat} {t : TypeId} {done rest : List Nat} {x k : Nat} (h : Row w g t (U64s (done ++ x :: rest))) (hk : done.length = k) (v : Nat) :
    Row (w.setCell ⟨g, k, none⟩ (.int .u64 (v : Int))) g t (U64s ((done ++ [v]) ++ rest)) := by
  have h1 := Row.step1 (sp := []) (by rw [List.append_nil]; exact h) hk v
  rwa [List.append_nil] at h1
def DivSPost (q r : Nat) (w : World) (e : Ending) (w' : World) : Prop := ∃ v, e = .returned (.tuple #[v, .int .u64 (r : Int)]) ∧ NatV w' v q ∧ Ext w w'
set_option maxHeartbeats 1600000 in
theorem divS_l (A : Option Addr) (ca n d : Nat) (xs : List Nat) (w : World) (ha : Rd w A (U64s xs)) (ln : xs.length = n) (hn : n ≤ 1001) (bx : ∀ x ∈ xs, x < 1000000000) (hd : 0 < d) (hd2 : d ≤ 2147483648) :
    Calls Tryz.prog 111 #[.slice A n ca, .int .u64 (d : Int)] w (DivSPost (K.lv xs / d) (K.lv xs % d) w) := by
  have LN := hid ln
  have BX := hid bx
  have hmk := fun w => mkNat n (n : Int) (by omega) (by omega) w
  clear bx ln
  go_enter Tryz.func111, Tryz.ntmps111
  go_wp2
  go_loopw [7, 8] (fun r i wr => ∃ (q : Int) (rest : Nat), -1 ≤ q ∧ q < n ∧ i = .int .i64 q ∧ r = .int .u64 rest ∧ rest < d ∧ rest = (divS d (xs.drop (q + 1).toNat)).2 ∧
      Row wr w.heap.size 104 (U64s (List.replicate (q + 1).toNat 0 ++ (divS d (xs.drop (q + 1).toNat)).1)) ∧ Ext w wr) (fun _ i _ => (intOf i + 1).toNat)
  case atStart =>
    have e : xs.drop ((n : Int) - 1 + 1).toNat = [] := List.drop_of_length_le (by rw [LN.out]; omega)
    refine ⟨(n : Int) - 1, 0, by omega, by omega, rfl, rfl, hd, by rw [e]; rfl, ?_, (Ext.rfl' w).alloc' _⟩
    rw [e, show ((n : Int) - 1 + 1).toNat = n by omega]
    have h := Row.made w 104 (.int .u64 0) n
    rw [U64s_zeros] at h
    rw [show (divS d []).1 = [] from rfl, List.append_nil]
    exact h
  case round =>
    obtain ⟨q, rest, hq1, hq2, rfl, rfl, hrd, hre, hrow, hext⟩ := hrel
    have HR := hid hre
    clear hre hmk
    by_cases hq : 0 ≤ q
    · obtain ⟨j, rfl⟩ := Int.eq_ofNat_of_zero_le hq
      obtain ⟨b1, o1, x, eA, ex, hb1, hx⟩ := (ha.ext hext).at_ (k := j) (by rw [LN.out]; omega)
      subst eA
      have hxB := BX.out x (mem_at ex)
      have HX := hid ex
      have ej : ((j : Int) + 1).toNat = j + 1 := by omega
      rw [ej, List.replicate_succ', List.append_assoc, List.singleton_append] at hrow
      have hcell : wr.cell? ⟨w.heap.size, j, none⟩ = some (.int .u64 0) := by
        rw [hrow.cell]
        exact U64s_mid0 (by simp)
      have hfree := hrow.free j
      have EJ := hid ej
      have hd0 : ¬ (d : Int) = 0 := by omega
      clear ex ha ej
      go_wp2
      go_roundw
      case rel =>
        have e0 : ((j : Int) - 1 + 1).toNat = j := by omega
        have e2 : rest = (divS d (xs.drop (j + 1))).2 := by have := HR.out; rwa [EJ.out] at this
        have e1 : divS d (xs.drop j) = (((rest * 1000000000 + x) / d) :: (divS d (xs.drop (j + 1))).1, (rest * 1000000000 + x) % d) := by
          rw [drop_at HX.out, divS, ← e2]
        refine ⟨(j : Int) - 1, (rest * 1000000000 + x) % d, by omega, by omega, rfl, by simp, Nat.mod_lt _ hd, by rw [e0, e1], ?_, hext.set' (Nat.le_refl _) _⟩
        rw [e0, e1]
        have h1 := Row.step0 (k := j) hrow (by simp) ((rest * 1000000000 + x) / d)
        simpa using h1
      case measure => simp [intOf]
    · have eq : (q + 1).toNat = 0 := by omega
      rw [eq] at hrow
      have e2 : rest = (divS d xs).2 := by have := HR.out; rwa [eq] at this
      simp only [List.replicate_zero, List.nil_append, List.drop_zero] at hrow
      have hval : K.lv (divS d xs).1 = K.lv xs / d ∧ (divS d xs).2 = K.lv xs % d := by
        have h1 := lv_divS d hd xs
        have h2 := divS_lt d hd xs
        have h3 := (Nat.div_mod_unique hd (a := K.lv xs) (c := (divS d xs).2) (d := K.lv (divS d xs).1)).2 ⟨by omega, h2⟩
        exact ⟨h3.1.symm, h3.2.symm⟩
      have hlims := divS_limbs d hd xs BX.out
      have hlen : (divS d xs).1.length = n := by rw [divS_len, LN.out]
      rw [hval.2] at e2
      have HE := hid e2
      have HV := hid hval.1
      generalize (divS d xs).1 = s at *
      have HL := hid hlen
      clear hlen hval ha e2
      go_wp2_with fail
      refine (trimmed _ n n s _ hrow.rd0 HL.out (by omega) (by omega)).mono ?_
      intro e w' hp
      have hq : SumPost (K.lv xs / d) w e w' := SumPost.of_trim hrow hext hlims HV.out e w' (by rw [HL.out]; exact hp)
      obtain ⟨v, rfl, hq⟩ := hq
      go_wp2
      go_ret2
      exact ⟨v, by rw [← HE.out]; rfl, hq⟩
theorem divS_any (va : Value) (a d : Nat) (w : World) (ha : NatV w va a) (la : a ≤ BIG) (hd : 0 < d) (hd2 : d ≤ 2147483648) :
    Calls Tryz.prog 111 #[va, .int .u64 (d : Int)] w (DivSPost (a / d) (a % d) w) := by
  obtain ⟨A, n, ca, xs, rfl, h2, _, h4, h5, rfl⟩ := ha
  have hn := len_of_big h5 la
  exact divS_l A ca n d xs w h4 h2 (by omega) h5.1 hd hd2

/-- scaled: a row of the call's own, known whole -/
def ScalePost (s : List Nat) (w : World) (e : Ending) (w' : World) : Prop := ∃ g, e = .returned (.slice (some ⟨g, 0, none⟩) s.length s.length) ∧ w.heap.size ≤ g ∧ Row w' g 104 (U64s s) ∧ Ext w w'
set_option maxHeartbeats 1600000 in
theorem scaled_l (A : Option Addr) (ca n l m : Nat) (xs : List Nat) (w : World) (ha : Rd w A (U64s xs)) (ln : xs.length = n) (hn : n ≤ 1001) (hm : m ≤ 1001) (bx : ∀ x ∈ xs, x < 1000000000) (hl : l < 1000000000) :
    Calls Tryz.prog 120 #[.slice A n ca, .int .u64 (l : Int), .int .i64 (m : Int)] w (ScalePost (scl xs l m 0) w) := by
  have LN := hid ln
  have BX := hid bx
  have hmk := fun w => mkNat m (m : Int) (by omega) (by omega) w
  clear bx ln
  go_enter Tryz.func120, Tryz.ntmps120
  go_wp2
  go_loopw [8, 9, 14] (fun c _ i wr => ∃ (k cy : Nat) (done : List Nat), k ≤ m ∧ cy < 1000000000 ∧ i = .int .i64 k ∧ c = .int .u64 cy ∧ Row wr w.heap.size 104 (U64s (done ++ List.replicate (m - k) 0)) ∧ done.length = k ∧
      done ++ scl (xs.drop k) l (m - k) cy = scl xs l m 0 ∧ Ext w wr) (fun _ _ i _ => m - (intOf i).toNat)
  case atStart => exact ⟨0, 0, [], by omega, by omega, rfl, rfl, by rw [List.nil_append, ← U64s_zeros]; exact Row.made w _ _ _, rfl, rfl, (Ext.rfl' w).alloc' _⟩
  case round =>
    obtain ⟨k, cy, done, hk, hcy, rfl, rfl, hrow, hd, hinv, hext⟩ := hrel
    have HD := hid hd
    have HI := hid hinv
    clear hd hinv hmk
    by_cases hlt : k < m
    · have hz : m - k = (m - (k + 1)) + 1 := by omega
      have HZ := hid hz
      rw [hz, zeros_succ] at hrow
      have hcell : wr.cell? ⟨w.heap.size, k, none⟩ = some (.int .u64 0) := by
        rw [hrow.cell]
        exact U64s_mid0 HD.out
      have hfree := hrow.free k
      clear hz
      by_cases hkn : k < n
      · obtain ⟨b1, o1, x, eA, ex, hb1, hx⟩ := (ha.ext hext).at_ (k := k) (by rw [LN.out]; omega)
        subst eA
        have hxB := BX.out x (mem_at ex)
        have HX := hid ex
        have hxy := prod_lt hxB hl
        have hxy' : (x : Int) * (l : Int) ≤ 999999998000000001 := by rw [← Int.natCast_mul]; omega
        have hxy0 : 0 ≤ (x : Int) * (l : Int) := by rw [← Int.natCast_mul]; omega
        clear ex ha hxy
        go_wp2
        go_roundw
        case rel =>
          refine ⟨k + 1, (cy + x * l) / 1000000000, done ++ [(cy + x * l) % 1000000000], by omega, ?_, rfl, by simp, ?_, by simp [HD.out], ?_, hext.set' (Nat.le_refl _) _⟩
          · have := prod_lt hxB hl
            omega
          · have h1 := Row.step0 hrow HD.out ((cy + x * l) % 1000000000)
            simpa using h1
          · rw [← HI.out, HZ.out, drop_at HX.out, scl]
            simp
        case measure => simp [intOf]; omega
      · have hx0 : xs.drop k = [] := List.drop_of_length_le (by rw [LN.out]; omega)
        have hx1 : xs.drop (k + 1) = [] := List.drop_of_length_le (by rw [LN.out]; omega)
        have HX := hid hx0
        have HX1 := hid hx1
        clear ha hx0 hx1
        go_wp2
        go_roundw
        case rel =>
          refine ⟨k + 1, cy / 1000000000, done ++ [cy % 1000000000], by omega, by omega, rfl, rfl, ?_, by simp [HD.out], ?_, hext.set' (Nat.le_refl _) _⟩
          · have h1 := Row.step0 hrow HD.out (cy % 1000000000)
            simpa using h1
          · rw [← HI.out, HZ.out, HX.out, HX1.out, scl]
            simp
        case measure => simp [intOf]; omega
    · obtain rfl : k = m := by omega
      have hres : Row wr w.heap.size 104 (U64s (scl xs l k 0)) := by
        have h := HI.out
        rw [Nat.sub_self] at h hrow
        rw [← h]
        simpa [scl] using hrow
      have HL := hid (scl_len k xs l 0)
      generalize scl xs l k 0 = s at *
      go_wp2
      go_ret
      exact ⟨w.heap.size, by rw [HL.out]; rfl, Nat.le_refl _, hres, hext⟩
end Go.Proofs.YtoilkfohhhidpaaGreatDoor
