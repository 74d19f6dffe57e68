/- (natural).minus -/
import Derived.Test.YtdbaemadphhhcaaDoorPlus
import Derived.Test.YtdbaemadphhhcaaDoorClone
namespace Go.Proofs.YtdbaemadphhhcaaDoor
open Go.RowKit
theorem U64s_mid {done rest : List Nat} {sp : List Value} {x k : Nat} (hk : done.length = k) : (U64s (done ++ x :: rest) ++ sp)[k]? = some (.int .u64 (x : Int)) := by
  subst hk
  rw [List.getElem?_append_left (by simp)]
  simp [U64s]
theorem U64s_put {done rest : List Nat} {sp : List Value} {x k : Nat} (hk : done.length = k) (v : Nat) : (U64s (done ++ x :: rest) ++ sp).set k (.int .u64 (v : Int)) = U64s ((done ++ [v]) ++ rest) ++ sp := by
  rw [List.set_append_left _ _ (by simp; omega), U64s_set, set_app _ _ _ _ _ hk]
theorem Row.step1 {w : World} {g : Nat} {t : TypeId} {done rest : List Nat} {sp : List Value} {x k : Nat} (h : Row w g t (U64s (done ++ x :: rest) ++ sp)) (hk : done.length = k) (v : Nat) :
    Row (w.setCell ⟨g, k, none⟩ (.int .u64 (v : Int))) g t (U64s ((done ++ [v]) ++ rest) ++ sp) := by
  have h1 := h.set k (.int .u64 (v : Int))
  rwa [U64s_put hk] at h1
theorem Row.step2 {w : World} {g : Nat} {t : TypeId} {done rest : List Nat} {sp : List Value} {x k : Nat} (h : Row w g t (U64s (done ++ x :: rest) ++ sp)) (hk : done.length = k) (u : Value) (v : Nat) :
    Row ((w.setCell ⟨g, k, none⟩ u).setCell ⟨g, k, none⟩ (.int .u64 (v : Int))) g t (U64s ((done ++ [v]) ++ rest) ++ sp) := by
  have h1 := (h.set k u).set k (.int .u64 (v : Int))
  rwa [List.set_set, U64s_put hk] at h1
theorem Row.rd_sp {w : World} {g : Nat} {t : TypeId} {s : List Nat} {sp : List Value} (h : Row w g t (U64s s ++ sp)) : Rd w (some ⟨g, 0, none⟩) (U64s s) := by
  have h0 := (h.rd0).take (U64s s).length
  rwa [List.take_left] at h0
theorem SumPost.of_trim' {w wr : World} {g : Nat} {s : List Nat} {sp : List Value} {n c : Nat} (hrow : Row wr g 76 (U64s s ++ sp)) (hb : Ext w wr) (hs : ∀ x ∈ s, x < 1000000000) (hv : K.lv s = n) (e : Ending) (w' : World)
    (_ : True) (hc : s.length ≤ c) (h : TrimPost (some ⟨g, 0, none⟩) c s wr e w') : SumPost n w e w' := by
  obtain ⟨k, hk, rfl, hcut, hw⟩ := h
  refine ⟨_, rfl, ⟨some ⟨g, 0, none⟩, k, c, s.take k, rfl, by simp; omega, by omega, ?_, hcut.lim hs, by rw [hcut.lv, hv]⟩, hb.step hw.ext⟩
  have h0 := (hrow.rd_sp).take k
  rw [show (U64s s).take k = U64s (s.take k) by simp [U64s]] at h0
  exact h0.ext hw.ext

set_option maxHeartbeats 1600000 in
theorem minus_l (A B : Option Addr) (ca cb n m : Nat) (xs ys : List Nat) (w : World) (ha : Rd w A (U64s xs)) (hb : Rd w B (U64s ys)) (ln : xs.length = n) (lm : ys.length = m) (hn : n ≤ 1000) (hmn : m ≤ n)
    (bx : ∀ x ∈ xs, x < 1000000000) (by_ : ∀ y ∈ ys, y < 1000000000) (hl : K.lv ys ≤ K.lv xs) :
    Calls Tryd.prog 66 #[.slice A n ca, .slice B m cb] w (SumPost (K.lv xs - K.lv ys) w) := by
  have LN := hid ln
  have LM := hid lm
  have BX := hid bx
  have BY := hid by_
  clear bx by_
  go_enter Tryd.func66, Tryd.ntmps66
  go_wp2_with fail
  refine (clone_any A n ca xs w ha ln (by omega)).mono ?_
  clear ln lm
  rintro e w1 ⟨A', c', hc', rfl, hx1, hcl⟩
  by_cases hn0 : n = 0
  · subst hn0
    have hx0 : xs = [] := List.eq_nil_of_length_eq_zero LN.out
    obtain rfl : m = 0 := by omega
    have hy0 : ys = [] := List.eq_nil_of_length_eq_zero LM.out
    subst hx0 hy0
    go_wp2
    go_loopw [6, 7, 8, 13] (fun _ _ _ i wr => i = .int .i64 0 ∧ wr = w1) (fun _ _ _ i _ => 0)
    case atStart => exact ⟨rfl, rfl⟩
    case round =>
      obtain ⟨rfl, rfl⟩ := hrel
      go_wp2_with fail
      refine (trimmed A' c' 0 [] _ (Rd.nil _ _) rfl (by omega) (by omega)).mono ?_
      rintro e w' ⟨k, hk, rfl, hcut, hw⟩
      obtain rfl : k = 0 := by simpa using hk
      go_wp2
      go_ret
      exact ⟨_, rfl, ⟨A', 0, c', [], rfl, rfl, Nat.zero_le _, Rd.nil _ _, K.Lim.nil, rfl⟩, hx1.step hw.ext⟩
  · obtain ⟨g, sp, rfl, hg, hrow1⟩ := hcl.resolve_left hn0
    go_wp2
    go_loopw [6, 7, 8, 13] (fun br _ _ i wr => ∃ (k b : Nat) (done : List Nat), k ≤ n ∧ b ≤ 1 ∧ i = .int .i64 k ∧ br = .int .u64 b ∧ Row wr g 76 (U64s (done ++ xs.drop k) ++ sp) ∧ done.length = k ∧
        done ++ subb (xs.drop k) (ys.drop k) b = subb xs ys 0 ∧ Ext w wr) (fun _ _ _ i _ => n - (intOf i).toNat)
    case atStart => exact ⟨0, 0, [], by omega, by omega, rfl, rfl, by simpa using hrow1, rfl, rfl, hx1⟩
    case round =>
      obtain ⟨k, br, done, hk, hbr, rfl, rfl, hrow, hd, hinv, hext⟩ := hrel
      have HD := hid hd
      have HI := hid hinv
      clear hd hinv hrow1 hx1 hcl
      by_cases hlt : k < n
      · obtain ⟨b1, o1, x, eA, ex, hb1, hx⟩ := (ha.ext hext).at_ (k := k) (by rw [LN.out]; omega)
        have hxB := BX.out x (mem_at ex)
        have HX := hid ex
        rw [drop_at ex] at hrow
        have hcell : wr.cell? ⟨g, k, none⟩ = some (.int .u64 x) := by rw [hrow.cell, U64s_mid HD.out]
        have hfree := hrow.free k
        clear ex eA hx
        by_cases hlm : k < m
        · obtain ⟨b2, o2, y, eB, ey, hb2, hy⟩ := (hb.ext hext).at_ (k := k) (by rw [LM.out]; omega)
          subst eB
          have hyB := BY.out y (mem_at ey)
          have HY := hid ey
          clear ey ha hb
          by_cases hc : x < br + y
          · go_wp2
            go_roundw
            case rel =>
              refine ⟨k + 1, 1, done ++ [(x + 1000000000 - (br + y))], by omega, by omega, rfl, rfl, ?_, by simp [HD.out], ?_, (hext.set' hg _).set' hg _⟩
              · have h1 := hrow.step2 HD.out (.int .u64 (((x + 1000000000 : Nat)) : Int)) (x + 1000000000 - (br + y))
                rw [show (((x + 1000000000 : Nat)) : Int) = (x : Int) + 1000000000 by omega, show (((x + 1000000000 - (br + y)) : Nat) : Int) = (x : Int) + 1000000000 - ((br : Int) + y) by omega] at h1
                exact h1
              · rw [← HI.out, drop_at HX.out, drop_at HY.out, subb_yes (by simpa using hc)]
                simp
            case measure => simp [intOf]; omega
          · go_wp2
            go_roundw
            case rel =>
              refine ⟨k + 1, 0, done ++ [(x - (br + y))], by omega, by omega, rfl, rfl, ?_, by simp [HD.out], ?_, hext.set' hg _⟩
              · have h1 := hrow.step1 HD.out (x - (br + y))
                rw [show (((x - (br + y)) : Nat) : Int) = (x : Int) - ((br : Int) + y) by omega] at h1
                exact h1
              · rw [← HI.out, drop_at HX.out, drop_at HY.out, subb_no (by simpa using hc)]
                simp
            case measure => simp [intOf]; omega
        · have hy0 : ys.drop k = [] := List.drop_of_length_le (by rw [LM.out]; omega)
          have hy1 : ys.drop (k + 1) = [] := List.drop_of_length_le (by rw [LM.out]; omega)
          have HY := hid hy0
          by_cases hb0 : br = 0
          · subst hb0
            have hres : Row wr g 76 (U64s (subb xs ys 0) ++ sp) := by
              rw [← HI.out, HY.out, subb_nil, drop_at HX.out]; exact hrow
            clear HI HY hy0 hy1
            have hval : K.lv (subb xs ys 0) = K.lv xs - K.lv ys := by
              have h1 := lv_subb xs ys 0 BX.out BY.out (by omega) (by omega)
              omega
            have hlims : ∀ x ∈ subb xs ys 0, x < 1000000000 := subb_lt _ _ _ BX.out BY.out (by omega)
            have hlen : (subb xs ys 0).length = n := by rw [subb_len, LN.out]
            generalize subb xs ys 0 = s at *
            have HL := hid hlen
            have HV := hid hval
            clear hlen hval ha hb
            go_wp2_with fail
            refine (trimmed _ c' n s _ hres.rd_sp HL.out (by omega) (by omega)).mono ?_
            intro e w' hp
            have hq : SumPost (K.lv xs - K.lv ys) w e w' := SumPost.of_trim' hres hext hlims HV.out e w' trivial (by rw [HL.out]; omega) hp
            obtain ⟨v, rfl, hq⟩ := hq
            go_wp2
            go_ret
            exact ⟨v, rfl, hq⟩
          · obtain rfl : br = 1 := by omega
            clear hb0 ha hb hy0
            by_cases hc : x < 1
            · obtain rfl : x = 0 := by omega
              go_wp2
              go_roundw
              case rel =>
                refine ⟨k + 1, 1, done ++ [999999999], by omega, by omega, rfl, rfl, hrow.step2 HD.out (.int .u64 1000000000) 999999999, by simp [HD.out], ?_, (hext.set' hg _).set' hg _⟩
                rw [← HI.out, drop_at HX.out, HY.out, subb_yes (by simp), hy1]
                simp
              case measure => simp [intOf]; omega
            · go_wp2
              go_roundw
              case rel =>
                refine ⟨k + 1, 0, done ++ [(x - 1)], by omega, by omega, rfl, rfl, ?_, by simp [HD.out], ?_, hext.set' hg _⟩
                · have h1 := hrow.step1 HD.out (x - 1)
                  rw [show (((x - 1) : Nat) : Int) = (x : Int) - (1 : Int) by omega] at h1
                  exact h1
                · rw [← HI.out, drop_at HX.out, HY.out, subb_no (by simpa using hc), hy1]
                  simp
              case measure => simp [intOf]; omega
      · obtain rfl : k = n := by omega
        have hres : Row wr g 76 (U64s (subb xs ys 0) ++ sp) := by
          have hx0 : xs.drop k = [] := List.drop_of_length_le (by rw [LN.out]; omega)
          rw [hx0, List.append_nil] at hrow
          rw [← HI.out, hx0]; simpa [subb] using hrow
        clear HI
        have hval : K.lv (subb xs ys 0) = K.lv xs - K.lv ys := by
          have h1 := lv_subb xs ys 0 BX.out BY.out (by omega) (by omega)
          omega
        have hlims : ∀ x ∈ subb xs ys 0, x < 1000000000 := subb_lt _ _ _ BX.out BY.out (by omega)
        have hlen : (subb xs ys 0).length = k := by rw [subb_len, LN.out]
        generalize subb xs ys 0 = s at *
        have HL := hid hlen
        have HV := hid hval
        clear hlen hval ha hb
        go_wp2_with fail
        refine (trimmed _ c' k s _ hres.rd_sp HL.out (by omega) (by omega)).mono ?_
        intro e w' hp
        have hq : SumPost (K.lv xs - K.lv ys) w e w' := SumPost.of_trim' hres hext hlims HV.out e w' trivial (by rw [HL.out]; omega) hp
        obtain ⟨v, rfl, hq⟩ := hq
        go_wp2
        go_ret
        exact ⟨v, rfl, hq⟩
theorem minus_any (va vb : Value) (a b : Nat) (w : World) (ha : NatV w va a) (hb : NatV w vb b) (la : a ≤ BIG) (hba : b ≤ a) :
    Calls Tryd.prog 66 #[va, vb] w (SumPost (a - b) w) := by
  obtain ⟨A, n, ca, xs, rfl, h2, _, h4, h5, rfl⟩ := ha
  obtain ⟨B, m, cb, ys, rfl, k2, _, k4, k5, rfl⟩ := hb
  have hn := len_of_big h5 la
  have hm : ys.length ≤ xs.length := by
    refine len_of_lt k5 _ (Nat.lt_of_le_of_lt hba (K.lv_lt _ h5.1))
  exact minus_l A B ca cb n m xs ys w h4 k4 h2 k2 (by omega) (by omega) h5.1 k5.1 hba
end Go.Proofs.YtdbaemadphhhcaaDoor
