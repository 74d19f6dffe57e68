/- Joined texts: (natural).minus; (natural).divideShort, (natural).scaled; Plain mathematics of the long division (Knuth, algorithm D).; num.guess; (natural).times; num.takeAway, num.putBack. -/
import Derived.Test.YtleccblkafcidaaGreatDoorJG01
set_option linter.unusedSimpArgs false
set_option linter.unusedVariables false
/- (natural).minus -/
namespace Go.Proofs.YtleccblkafcidaaGreatDoor
open Go.RowKit
theorem U64s_mid {done rest : List Nat} {sp : List Value} {x k : Nat} (hk : done.length = k) : (U64s (done ++ x :: rest) ++ sp)[k]? = some (.int .u64 (x : Int)) := by
  subst hk
  rw [List.getElem?_append_left (by simp)]
  simp [U64s]
theorem U64s_put {done rest : List Nat} {sp : List Value} {x k : Nat} (hk : done.length = k) (v : Nat) : (U64s (done ++ x :: rest) ++ sp).set k (.int .u64 (v : Int)) = U64s ((done ++ [v]) ++ rest) ++ sp := by
  rw [List.set_append_left _ _ (by simp; omega), U64s_set, set_app _ _ _ _ _ hk]
theorem Row.step1 {w : World} {g : Nat} {t : TypeId} {done rest : List Nat} {sp : List Value} {x k : Nat} (h : Row w g t (U64s (done ++ x :: rest) ++ sp)) (hk : done.length = k) (v : Nat) :
    Row (w.setCell ⟨g, k, none⟩ (.int .u64 (v : Int))) g t (U64s ((done ++ [v]) ++ rest) ++ sp) := by
  have h1 := h.set k (.int .u64 (v : Int))
  rwa [U64s_put hk] at h1
theorem Row.step2 {w : World} {g : Nat} {t : TypeId} {done rest : List Nat} {sp : List Value} {x k : Nat} (h : Row w g t (U64s (done ++ x :: rest) ++ sp)) (hk : done.length = k) (u : Value) (v : Nat) :
    Row ((w.setCell ⟨g, k, none⟩ u).setCell ⟨g, k, none⟩ (.int .u64 (v : Int))) g t (U64s ((done ++ [v]) ++ rest) ++ sp) := by
  have h1 := (h.set k u).set k (.int .u64 (v : Int))
  rwa [List.set_set, U64s_put hk] at h1
theorem Row.rd_sp {w : World} {g : Nat} {t : TypeId} {s : List Nat} {sp : List Value} (h : Row w g t (U64s s ++ sp)) : Rd w (some ⟨g, 0, none⟩) (U64s s) := by
  have h0 := (h.rd0).take (U64s s).length
  rwa [List.take_left] at h0
theorem SumPost.of_trim' {w wr : World} {g : Nat} {s : List Nat} {sp : List Value} {n c : Nat} (hrow : Row wr g 160 (U64s s ++ sp)) (hb : Ext w wr) (hs : ∀ x ∈ s, x < 1000000000) (hv : K.lv s = n) (e : Ending) (w' : World)
    (_ : True) (hc : s.length ≤ c) (h : TrimPost (some ⟨g, 0, none⟩) c s wr e w') : SumPost n w e w' := by
  obtain ⟨k, hk, rfl, hcut, hw⟩ := h
  refine ⟨_, rfl, ⟨some ⟨g, 0, none⟩, k, c, s.take k, rfl, by simp; omega, by omega, ?_, hcut.lim hs, by rw [hcut.lv, hv]⟩, hb.step hw.ext⟩
  have h0 := (hrow.rd_sp).take k
  rw [show (U64s s).take k = U64s (s.take k) by simp [U64s]] at h0
  exact h0.ext hw.ext

set_option maxHeartbeats 1600000 in
theorem minus_l (A B : Option Addr) (ca cb n m : Nat) (xs ys : List Nat) (w : World) (ha : Rd w A (U64s xs)) (hb : Rd w B (U64s ys)) (ln : xs.length = n) (lm : ys.length = m) (hn : n ≤ 1000) (hmn : m ≤ n)
    (bx : ∀ x ∈ xs, x < 1000000000) (by_ : ∀ y ∈ ys, y < 1000000000) (hl : K.lv ys ≤ K.lv xs) :
    Calls Tryz.prog 201 #[.slice A n ca, .slice B m cb] w (SumPost (K.lv xs - K.lv ys) w) := by
  have LN := hid ln
  have LM := hid lm
  have BX := hid bx
  have BY := hid by_
  clear bx by_
  go_enter Tryz.func201, Tryz.ntmps201
  go_wp2_with fail
  refine (clone_any A n ca xs w ha ln (by omega)).mono ?_
  clear ln lm
  rintro e w1 ⟨A', c', hc', rfl, hx1, hcl⟩
  by_cases hn0 : n = 0
  · subst hn0
    have hx0 : xs = [] := List.eq_nil_of_length_eq_zero LN.out
    obtain rfl : m = 0 := by omega
    have hy0 : ys = [] := List.eq_nil_of_length_eq_zero LM.out
    subst hx0 hy0
    go_wp2
    go_loopw [6, 7, 8, 13] (fun _ _ _ i wr => i = .int .i64 0 ∧ wr = w1) (fun _ _ _ i _ => 0)
    case atStart => exact ⟨rfl, rfl⟩
    case round =>
      obtain ⟨rfl, rfl⟩ := hrel
      go_wp2_with fail
      refine (trimmed A' c' 0 [] _ (Rd.nil _ _) rfl (by omega) (by omega)).mono ?_
      rintro e w' ⟨k, hk, rfl, hcut, hw⟩
      obtain rfl : k = 0 := by simpa using hk
      go_wp2
      go_ret
      exact ⟨_, rfl, ⟨A', 0, c', [], rfl, rfl, Nat.zero_le _, Rd.nil _ _, K.Lim.nil, rfl⟩, hx1.step hw.ext⟩
  · obtain ⟨g, sp, rfl, hg, hrow1⟩ := hcl.resolve_left hn0
    go_wp2
    go_loopw [6, 7, 8, 13] (fun br _ _ i wr => ∃ (k b : Nat) (done : List Nat), k ≤ n ∧ b ≤ 1 ∧ i = .int .i64 k ∧ br = .int .u64 b ∧ Row wr g 160 (U64s (done ++ xs.drop k) ++ sp) ∧ done.length = k ∧
        done ++ subb (xs.drop k) (ys.drop k) b = subb xs ys 0 ∧ Ext w wr) (fun _ _ _ i _ => n - (intOf i).toNat)
    case atStart => exact ⟨0, 0, [], by omega, by omega, rfl, rfl, by simpa using hrow1, rfl, rfl, hx1⟩
    case round =>
      obtain ⟨k, br, done, hk, hbr, rfl, rfl, hrow, hd, hinv, hext⟩ := hrel
      have HD := hid hd
      have HI := hid hinv
      clear hd hinv hrow1 hx1 hcl
      by_cases hlt : k < n
      · obtain ⟨b1, o1, x, eA, ex, hb1, hx⟩ := (ha.ext hext).at_ (k := k) (by rw [LN.out]; omega)
        have hxB := BX.out x (mem_at ex)
        have HX := hid ex
        rw [drop_at ex] at hrow
        have hcell : wr.cell? ⟨g, k, none⟩ = some (.int .u64 x) := by rw [hrow.cell, U64s_mid HD.out]
        have hfree := hrow.free k
        clear ex eA hx
        by_cases hlm : k < m
        · obtain ⟨b2, o2, y, eB, ey, hb2, hy⟩ := (hb.ext hext).at_ (k := k) (by rw [LM.out]; omega)
          subst eB
          have hyB := BY.out y (mem_at ey)
          have HY := hid ey
          clear ey ha hb
          by_cases hc : x < br + y
          · go_wp2
            go_roundw
            case rel =>
              refine ⟨k + 1, 1, done ++ [(x + 1000000000 - (br + y))], by omega, by omega, rfl, rfl, ?_, by simp [HD.out], ?_, (hext.set' hg _).set' hg _⟩
              · have h1 := hrow.step2 HD.out (.int .u64 (((x + 1000000000 : Nat)) : Int)) (x + 1000000000 - (br + y))
                rw [show (((x + 1000000000 : Nat)) : Int) = (x : Int) + 1000000000 by omega, show (((x + 1000000000 - (br + y)) : Nat) : Int) = (x : Int) + 1000000000 - ((br : Int) + y) by omega] at h1
                exact h1
              · rw [← HI.out, drop_at HX.out, drop_at HY.out, subb_yes (by simpa using hc)]
                simp
            case measure => simp [intOf]; omega
          · go_wp2
            go_roundw
            case rel =>
              refine ⟨k + 1, 0, done ++ [(x - (br + y))], by omega, by omega, rfl, rfl, ?_, by simp [HD.out], ?_, hext.set' hg _⟩
              · have h1 := hrow.step1 HD.out (x - (br + y))
                rw [show (((x - (br + y)) : Nat) : Int) = (x : Int) - ((br : Int) + y) by omega] at h1
                exact h1
              · rw [← HI.out, drop_at HX.out, drop_at HY.out, subb_no (by simpa using hc)]
                simp
            case measure => simp [intOf]; omega
        · have hy0 : ys.drop k = [] := List.drop_of_length_le (by rw [LM.out]; omega)
          have hy1 : ys.drop (k + 1) = [] := List.drop_of_length_le (by rw [LM.out]; omega)
          have HY := hid hy0
          by_cases hb0 : br = 0
          · subst hb0
            have hres : Row wr g 160 (U64s (subb xs ys 0) ++ sp) := by
              rw [← HI.out, HY.out, subb_nil, drop_at HX.out]; exact hrow
            clear HI HY hy0 hy1
            have hval : K.lv (subb xs ys 0) = K.lv xs - K.lv ys := by
              have h1 := lv_subb xs ys 0 BX.out BY.out (by omega) (by omega)
              omega
            have hlims : ∀ x ∈ subb xs ys 0, x < 1000000000 := subb_lt _ _ _ BX.out BY.out (by omega)
            have hlen : (subb xs ys 0).length = n := by rw [subb_len, LN.out]
            generalize subb xs ys 0 = s at *
            have HL := hid hlen
            have HV := hid hval
            clear hlen hval ha hb
            go_wp2_with fail
            refine (trimmed _ c' n s _ hres.rd_sp HL.out (by omega) (by omega)).mono ?_
            intro e w' hp
            have hq : SumPost (K.lv xs - K.lv ys) w e w' := SumPost.of_trim' hres hext hlims HV.out e w' trivial (by rw [HL.out]; omega) hp
            obtain ⟨v, rfl, hq⟩ := hq
            go_wp2
            go_ret
            exact ⟨v, rfl, hq⟩
          · obtain rfl : br = 1 := by omega
            clear hb0 ha hb hy0
            by_cases hc : x < 1
            · obtain rfl : x = 0 := by omega
              go_wp2
              go_roundw
              case rel =>
                refine ⟨k + 1, 1, done ++ [999999999], by omega, by omega, rfl, rfl, hrow.step2 HD.out (.int .u64 1000000000) 999999999, by simp [HD.out], ?_, (hext.set' hg _).set' hg _⟩
                rw [← HI.out, drop_at HX.out, HY.out, subb_yes (by simp), hy1]
                simp
              case measure => simp [intOf]; omega
            · go_wp2
              go_roundw
              case rel =>
                refine ⟨k + 1, 0, done ++ [(x - 1)], by omega, by omega, rfl, rfl, ?_, by simp [HD.out], ?_, hext.set' hg _⟩
                · have h1 := hrow.step1 HD.out (x - 1)
                  rw [show (((x - 1) : Nat) : Int) = (x : Int) - (1 : Int) by omega] at h1
                  exact h1
                · rw [← HI.out, drop_at HX.out, HY.out, subb_no (by simpa using hc), hy1]
                  simp
              case measure => simp [intOf]; omega
      · obtain rfl : k = n := by omega
        have hres : Row wr g 160 (U64s (subb xs ys 0) ++ sp) := by
          have hx0 : xs.drop k = [] := List.drop_of_length_le (by rw [LN.out]; omega)
          rw [hx0, List.append_nil] at hrow
          rw [← HI.out, hx0]; simpa [subb] using hrow
        clear HI
        have hval : K.lv (subb xs ys 0) = K.lv xs - K.lv ys := by
          have h1 := lv_subb xs ys 0 BX.out BY.out (by omega) (by omega)
          omega
        have hlims : ∀ x ∈ subb xs ys 0, x < 1000000000 := subb_lt _ _ _ BX.out BY.out (by omega)
        have hlen : (subb xs ys 0).length = k := by rw [subb_len, LN.out]
        generalize subb xs ys 0 = s at *
        have HL := hid hlen
        have HV := hid hval
        clear hlen hval ha hb
        go_wp2_with fail
        refine (trimmed _ c' k s _ hres.rd_sp HL.out (by omega) (by omega)).mono ?_
        intro e w' hp
        have hq : SumPost (K.lv xs - K.lv ys) w e w' := SumPost.of_trim' hres hext hlims HV.out e w' trivial (by rw [HL.out]; omega) hp
        obtain ⟨v, rfl, hq⟩ := hq
        go_wp2
        go_ret
        exact ⟨v, rfl, hq⟩
theorem minus_any (va vb : Value) (a b : Nat) (w : World) (ha : NatV w va a) (hb : NatV w vb b) (la : a ≤ BIG) (hba : b ≤ a) :
    Calls Tryz.prog 201 #[va, vb] w (SumPost (a - b) w) := by
  obtain ⟨A, n, ca, xs, rfl, h2, _, h4, h5, rfl⟩ := ha
  obtain ⟨B, m, cb, ys, rfl, k2, _, k4, k5, rfl⟩ := hb
  have hn := len_of_big h5 la
  have hm : ys.length ≤ xs.length := by
    refine len_of_lt k5 _ (Nat.lt_of_le_of_lt hba (K.lv_lt _ h5.1))
  exact minus_l A B ca cb n m xs ys w h4 k4 h2 k2 (by omega) (by omega) h5.1 k5.1 hba
end Go.Proofs.YtleccblkafcidaaGreatDoor
/- (natural).divideShort, (natural).scaled -/
namespace Go.Proofs.YtleccblkafcidaaGreatDoor
open Go.RowKit
theorem U64s_mid0 {done rest : List Nat} {x k : Nat} (hk : done.length = k) : (U64s (done ++ x :: rest))[k]? = some (.int .u64 (x : Int)) := by
  have h := U64s_mid (sp := []) (rest := rest) (x := x) hk
  simpa using h
theorem Row.step0 {w : World} {g : Nat} {t : TypeId} {done rest : List Nat} {x k : Nat} (h : Row w g t (U64s (done ++ x :: rest))) (hk : done.length = k) (v : Nat) :
    Row (w.setCell ⟨g, k, none⟩ (.int .u64 (v : Int))) g t (U64s ((done ++ [v]) ++ rest)) := by
  have h1 := Row.step1 (sp := []) (by rw [List.append_nil]; exact h) hk v
  rwa [List.append_nil] at h1
def DivSPost (q r : Nat) (w : World) (e : Ending) (w' : World) : Prop := ∃ v, e = .returned (.tuple #[v, .int .u64 (r : Int)]) ∧ NatV w' v q ∧ Ext w w'
set_option maxHeartbeats 1600000 in
theorem divS_l (A : Option Addr) (ca n d : Nat) (xs : List Nat) (w : World) (ha : Rd w A (U64s xs)) (ln : xs.length = n) (hn : n ≤ 1001) (bx : ∀ x ∈ xs, x < 1000000000) (hd : 0 < d) (hd2 : d ≤ 2147483648) :
    Calls Tryz.prog 144 #[.slice A n ca, .int .u64 (d : Int)] w (DivSPost (K.lv xs / d) (K.lv xs % d) w) := by
  have LN := hid ln
  have BX := hid bx
  have hmk := fun w => mkNat n (n : Int) (by omega) (by omega) w
  clear bx ln
  go_enter Tryz.func144, Tryz.ntmps144
  go_wp2
  go_loopw [7, 8] (fun r i wr => ∃ (q : Int) (rest : Nat), -1 ≤ q ∧ q < n ∧ i = .int .i64 q ∧ r = .int .u64 rest ∧ rest < d ∧ rest = (divS d (xs.drop (q + 1).toNat)).2 ∧
      Row wr w.heap.size 160 (U64s (List.replicate (q + 1).toNat 0 ++ (divS d (xs.drop (q + 1).toNat)).1)) ∧ Ext w wr) (fun _ i _ => (intOf i + 1).toNat)
  case atStart =>
    have e : xs.drop ((n : Int) - 1 + 1).toNat = [] := List.drop_of_length_le (by rw [LN.out]; omega)
    refine ⟨(n : Int) - 1, 0, by omega, by omega, rfl, rfl, hd, by rw [e]; rfl, ?_, (Ext.rfl' w).alloc' _⟩
    rw [e, show ((n : Int) - 1 + 1).toNat = n by omega]
    have h := Row.made w 160 (.int .u64 0) n
    rw [U64s_zeros] at h
    rw [show (divS d []).1 = [] from rfl, List.append_nil]
    exact h
  case round =>
    obtain ⟨q, rest, hq1, hq2, rfl, rfl, hrd, hre, hrow, hext⟩ := hrel
    have HR := hid hre
    clear hre hmk
    by_cases hq : 0 ≤ q
    · obtain ⟨j, rfl⟩ := Int.eq_ofNat_of_zero_le hq
      obtain ⟨b1, o1, x, eA, ex, hb1, hx⟩ := (ha.ext hext).at_ (k := j) (by rw [LN.out]; omega)
      subst eA
      have hxB := BX.out x (mem_at ex)
      have HX := hid ex
      have ej : ((j : Int) + 1).toNat = j + 1 := by omega
      rw [ej, List.replicate_succ', List.append_assoc, List.singleton_append] at hrow
      have hcell : wr.cell? ⟨w.heap.size, j, none⟩ = some (.int .u64 0) := by
        rw [hrow.cell]
        exact U64s_mid0 (by simp)
      have hfree := hrow.free j
      have EJ := hid ej
      have hd0 : ¬ (d : Int) = 0 := by omega
      clear ex ha ej
      go_wp2
      go_roundw
      case rel =>
        have e0 : ((j : Int) - 1 + 1).toNat = j := by omega
        have e2 : rest = (divS d (xs.drop (j + 1))).2 := by have := HR.out; rwa [EJ.out] at this
        have e1 : divS d (xs.drop j) = (((rest * 1000000000 + x) / d) :: (divS d (xs.drop (j + 1))).1, (rest * 1000000000 + x) % d) := by
          rw [drop_at HX.out, divS, ← e2]
        refine ⟨(j : Int) - 1, (rest * 1000000000 + x) % d, by omega, by omega, rfl, by simp, Nat.mod_lt _ hd, by rw [e0, e1], ?_, hext.set' (Nat.le_refl _) _⟩
        rw [e0, e1]
        have h1 := Row.step0 (k := j) hrow (by simp) ((rest * 1000000000 + x) / d)
        simpa using h1
      case measure => simp [intOf]
    · have eq : (q + 1).toNat = 0 := by omega
      rw [eq] at hrow
      have e2 : rest = (divS d xs).2 := by have := HR.out; rwa [eq] at this
      simp only [List.replicate_zero, List.nil_append, List.drop_zero] at hrow
      have hval : K.lv (divS d xs).1 = K.lv xs / d ∧ (divS d xs).2 = K.lv xs % d := by
        have h1 := lv_divS d hd xs
        have h2 := divS_lt d hd xs
        have h3 := (Nat.div_mod_unique hd (a := K.lv xs) (c := (divS d xs).2) (d := K.lv (divS d xs).1)).2 ⟨by omega, h2⟩
        exact ⟨h3.1.symm, h3.2.symm⟩
      have hlims := divS_limbs d hd xs BX.out
      have hlen : (divS d xs).1.length = n := by rw [divS_len, LN.out]
      rw [hval.2] at e2
      have HE := hid e2
      have HV := hid hval.1
      generalize (divS d xs).1 = s at *
      have HL := hid hlen
      clear hlen hval ha e2
      go_wp2_with fail
      refine (trimmed _ n n s _ hrow.rd0 HL.out (by omega) (by omega)).mono ?_
      intro e w' hp
      have hq : SumPost (K.lv xs / d) w e w' := SumPost.of_trim hrow hext hlims HV.out e w' (by rw [HL.out]; exact hp)
      obtain ⟨v, rfl, hq⟩ := hq
      go_wp2
      go_ret2
      exact ⟨v, by rw [← HE.out]; rfl, hq⟩
theorem divS_any (va : Value) (a d : Nat) (w : World) (ha : NatV w va a) (la : a ≤ BIG) (hd : 0 < d) (hd2 : d ≤ 2147483648) :
    Calls Tryz.prog 144 #[va, .int .u64 (d : Int)] w (DivSPost (a / d) (a % d) w) := by
  obtain ⟨A, n, ca, xs, rfl, h2, _, h4, h5, rfl⟩ := ha
  have hn := len_of_big h5 la
  exact divS_l A ca n d xs w h4 h2 (by omega) h5.1 hd hd2

/-- scaled: a row of the call's own, known whole -/
def ScalePost (s : List Nat) (w : World) (e : Ending) (w' : World) : Prop := ∃ g, e = .returned (.slice (some ⟨g, 0, none⟩) s.length s.length) ∧ w.heap.size ≤ g ∧ Row w' g 160 (U64s s) ∧ Ext w w'
set_option maxHeartbeats 1600000 in
theorem scaled_l (A : Option Addr) (ca n l m : Nat) (xs : List Nat) (w : World) (ha : Rd w A (U64s xs)) (ln : xs.length = n) (hn : n ≤ 1001) (hm : m ≤ 1001) (bx : ∀ x ∈ xs, x < 1000000000) (hl : l < 1000000000) :
    Calls Tryz.prog 239 #[.slice A n ca, .int .u64 (l : Int), .int .i64 (m : Int)] w (ScalePost (scl xs l m 0) w) := by
  have LN := hid ln
  have BX := hid bx
  have hmk := fun w => mkNat m (m : Int) (by omega) (by omega) w
  clear bx ln
  go_enter Tryz.func239, Tryz.ntmps239
  go_wp2
  go_loopw [8, 9, 14] (fun c _ i wr => ∃ (k cy : Nat) (done : List Nat), k ≤ m ∧ cy < 1000000000 ∧ i = .int .i64 k ∧ c = .int .u64 cy ∧ Row wr w.heap.size 160 (U64s (done ++ List.replicate (m - k) 0)) ∧ done.length = k ∧
      done ++ scl (xs.drop k) l (m - k) cy = scl xs l m 0 ∧ Ext w wr) (fun _ _ i _ => m - (intOf i).toNat)
  case atStart => exact ⟨0, 0, [], by omega, by omega, rfl, rfl, by rw [List.nil_append, ← U64s_zeros]; exact Row.made w _ _ _, rfl, rfl, (Ext.rfl' w).alloc' _⟩
  case round =>
    obtain ⟨k, cy, done, hk, hcy, rfl, rfl, hrow, hd, hinv, hext⟩ := hrel
    have HD := hid hd
    have HI := hid hinv
    clear hd hinv hmk
    by_cases hlt : k < m
    · have hz : m - k = (m - (k + 1)) + 1 := by omega
      have HZ := hid hz
      rw [hz, zeros_succ] at hrow
      have hcell : wr.cell? ⟨w.heap.size, k, none⟩ = some (.int .u64 0) := by
        rw [hrow.cell]
        exact U64s_mid0 HD.out
      have hfree := hrow.free k
      clear hz
      by_cases hkn : k < n
      · obtain ⟨b1, o1, x, eA, ex, hb1, hx⟩ := (ha.ext hext).at_ (k := k) (by rw [LN.out]; omega)
        subst eA
        have hxB := BX.out x (mem_at ex)
        have HX := hid ex
        have hxy := prod_lt hxB hl
        have hxy' : (x : Int) * (l : Int) ≤ 999999998000000001 := by rw [← Int.natCast_mul]; omega
        have hxy0 : 0 ≤ (x : Int) * (l : Int) := by rw [← Int.natCast_mul]; omega
        clear ex ha hxy
        go_wp2
        go_roundw
        case rel =>
          refine ⟨k + 1, (cy + x * l) / 1000000000, done ++ [(cy + x * l) % 1000000000], by omega, ?_, rfl, by simp, ?_, by simp [HD.out], ?_, hext.set' (Nat.le_refl _) _⟩
          · have := prod_lt hxB hl
            omega
          · have h1 := Row.step0 hrow HD.out ((cy + x * l) % 1000000000)
            simpa using h1
          · rw [← HI.out, HZ.out, drop_at HX.out, scl]
            simp
        case measure => simp [intOf]; omega
      · have hx0 : xs.drop k = [] := List.drop_of_length_le (by rw [LN.out]; omega)
        have hx1 : xs.drop (k + 1) = [] := List.drop_of_length_le (by rw [LN.out]; omega)
        have HX := hid hx0
        have HX1 := hid hx1
        clear ha hx0 hx1
        go_wp2
        go_roundw
        case rel =>
          refine ⟨k + 1, cy / 1000000000, done ++ [cy % 1000000000], by omega, by omega, rfl, rfl, ?_, by simp [HD.out], ?_, hext.set' (Nat.le_refl _) _⟩
          · have h1 := Row.step0 hrow HD.out (cy % 1000000000)
            simpa using h1
          · rw [← HI.out, HZ.out, HX.out, HX1.out, scl]
            simp
        case measure => simp [intOf]; omega
    · obtain rfl : k = m := by omega
      have hres : Row wr w.heap.size 160 (U64s (scl xs l k 0)) := by
        have h := HI.out
        rw [Nat.sub_self] at h hrow
        rw [← h]
        simpa [scl] using hrow
      have HL := hid (scl_len k xs l 0)
      generalize scl xs l k 0 = s at *
      go_wp2
      go_ret
      exact ⟨w.heap.size, by rw [HL.out]; rfl, Nat.le_refl _, hres, hext⟩
end Go.Proofs.YtleccblkafcidaaGreatDoor
/- Plain mathematics of the long division (Knuth, algorithm D). -/
namespace Go.Proofs.YtleccblkafcidaaGreatDoor
open K

/-! ### taking away -/
def tkl : List Nat → List Nat → Nat → Nat → List Nat
  | w :: ws, y :: ys, l, c => if w < (c + y * l) % 1000000000 then (w + 1000000000 - (c + y * l) % 1000000000) :: tkl ws ys l ((c + y * l) / 1000000000 + 1) else (w - (c + y * l) % 1000000000) :: tkl ws ys l ((c + y * l) / 1000000000)
  | _, _, _, _ => []
def tkc : List Nat → List Nat → Nat → Nat → Nat
  | w :: ws, y :: ys, l, c => if w < (c + y * l) % 1000000000 then tkc ws ys l ((c + y * l) / 1000000000 + 1) else tkc ws ys l ((c + y * l) / 1000000000)
  | _, _, _, c => c
theorem tkl_yes {w y l c : Nat} {ws ys : List Nat} (h : w < (c + y * l) % 1000000000) : tkl (w :: ws) (y :: ys) l c = (w + 1000000000 - (c + y * l) % 1000000000) :: tkl ws ys l ((c + y * l) / 1000000000 + 1) := by rw [tkl, if_pos h]
theorem tkl_no {w y l c : Nat} {ws ys : List Nat} (h : ¬ w < (c + y * l) % 1000000000) : tkl (w :: ws) (y :: ys) l c = (w - (c + y * l) % 1000000000) :: tkl ws ys l ((c + y * l) / 1000000000) := by rw [tkl, if_neg h]
theorem tkc_yes {w y l c : Nat} {ws ys : List Nat} (h : w < (c + y * l) % 1000000000) : tkc (w :: ws) (y :: ys) l c = tkc ws ys l ((c + y * l) / 1000000000 + 1) := by rw [tkc, if_pos h]
theorem tkc_no {w y l c : Nat} {ws ys : List Nat} (h : ¬ w < (c + y * l) % 1000000000) : tkc (w :: ws) (y :: ys) l c = tkc ws ys l ((c + y * l) / 1000000000) := by rw [tkc, if_neg h]
theorem tkl_len : ∀ (ws ys : List Nat) (l c : Nat), ws.length = ys.length → (tkl ws ys l c).length = ys.length
  | [], [], _, _, _ => rfl
  | w :: ws, y :: ys, l, c, h => by
    by_cases hc : w < (c + y * l) % 1000000000
    · rw [tkl_yes hc]; simp [tkl_len ws ys l _ (by simpa using h)]
    · rw [tkl_no hc]; simp [tkl_len ws ys l _ (by simpa using h)]
theorem tkl_lt : ∀ (ws ys : List Nat) (l c : Nat), (∀ w ∈ ws, w < 1000000000) → ∀ z ∈ tkl ws ys l c, z < 1000000000
  | [], _, _, _, _ => by simp [tkl]
  | w :: ws, [], _, _, _ => by simp [tkl]
  | w :: ws, y :: ys, l, c, h => by
    intro z hz
    have h1 := h w (List.mem_cons_self ..)
    have h2 := fun z hz => h z (List.mem_cons_of_mem w hz)
    by_cases hc : w < (c + y * l) % 1000000000
    · rw [tkl_yes hc] at hz
      rcases List.mem_cons.1 hz with rfl | hz
      · omega
      · exact tkl_lt ws ys l _ h2 z hz
    · rw [tkl_no hc] at hz
      rcases List.mem_cons.1 hz with rfl | hz
      · omega
      · exact tkl_lt ws ys l _ h2 z hz
theorem lv_tkl : ∀ (ws ys : List Nat) (l c : Nat), ws.length = ys.length → lv (tkl ws ys l c) + (l * lv ys + c) = lv ws + 1000000000 ^ ys.length * tkc ws ys l c
  | [], [], l, c, _ => by simp [tkl, tkc, lv]
  | w :: ws, y :: ys, l, c, h => by
    have e : l * (y + 1000000000 * lv ys) = y * l + 1000000000 * (l * lv ys) := by rw [Nat.mul_add, Nat.mul_left_comm, Nat.mul_comm l y]
    have ep : ∀ t, 1000000000 ^ (ys.length + 1) * t = 1000000000 * (1000000000 ^ ys.length * t) := fun t => by rw [Nat.pow_succ, Nat.mul_comm (1000000000 ^ _), Nat.mul_assoc]
    by_cases hc : w < (c + y * l) % 1000000000
    · have ih := lv_tkl ws ys l ((c + y * l) / 1000000000 + 1) (by simpa using h)
      rw [tkl_yes hc, tkc_yes hc]
      simp only [lv, List.length_cons]
      rw [e, ep]
      omega
    · have ih := lv_tkl ws ys l ((c + y * l) / 1000000000) (by simpa using h)
      rw [tkl_no hc, tkc_no hc]
      simp only [lv, List.length_cons]
      rw [e, ep]
      omega
/-! ### putting back -/
def pbl : List Nat → List Nat → Nat → List Nat
  | w :: ws, y :: ys, c => (c + (w + y)) % 1000000000 :: pbl ws ys ((c + (w + y)) / 1000000000)
  | _, _, _ => []
theorem pbl_len : ∀ (ws ys : List Nat) (c : Nat), ws.length = ys.length → (pbl ws ys c).length = ys.length
  | [], [], _, _ => rfl
  | w :: ws, y :: ys, c, h => by simp [pbl, pbl_len ws ys _ (by simpa using h)]
theorem pbl_lt : ∀ (ws ys : List Nat) (c : Nat), ∀ z ∈ pbl ws ys c, z < 1000000000
  | [], _, _ => by simp [pbl]
  | w :: ws, [], _ => by simp [pbl]
  | w :: ws, y :: ys, c => by
    intro z hz
    simp only [pbl, List.mem_cons] at hz
    rcases hz with rfl | hz
    · omega
    · exact pbl_lt ws ys _ z hz
theorem lv_pbl : ∀ (ws ys : List Nat) (c : Nat), ws.length = ys.length → lv (pbl ws ys c) = (lv ws + lv ys + c) % 1000000000 ^ ys.length
  | [], [], c, _ => by simp [pbl, lv, Nat.mod_one]
  | w :: ws, y :: ys, c, h => by
    simp only [pbl, lv, List.length_cons]
    rw [lv_pbl ws ys _ (by simpa using h), Nat.pow_succ, Nat.mul_comm (1000000000 ^ _), Nat.mod_mul]
    have e1 : (w + 1000000000 * lv ws + (y + 1000000000 * lv ys) + c) % 1000000000 = (c + (w + y)) % 1000000000 := by omega
    have e2 : (w + 1000000000 * lv ws + (y + 1000000000 * lv ys) + c) / 1000000000 = lv ws + lv ys + (c + (w + y)) / 1000000000 := by omega
    rw [e1, e2]

/-! ### one digit -/
/-- what one step leaves, if the guess is the quotient or one more: U is the window's value, V the divisor's -/
theorem step_exact {ws ys : List Nat} {u0 l q r : Nat} (hl : ws.length = ys.length) (hw : ∀ w ∈ ws, w < 1000000000) (hy : ∀ y ∈ ys, y < 1000000000)
    (hU : lv ws + 1000000000 ^ ys.length * u0 = q * lv ys + r) (hr : r < lv ys) (he : l = q) : tkc ws ys l 0 = u0 ∧ lv (tkl ws ys l 0) = r := by
  subst he
  have h := lv_tkl ws ys l 0 hl
  have hb := lv_lt (tkl ws ys l 0) (tkl_lt ws ys l 0 hw)
  rw [tkl_len ws ys l 0 hl] at hb
  have hV := lv_lt ys hy
  generalize 1000000000 ^ ys.length = P at *
  generalize tkc ws ys l 0 = c at *
  generalize lv (tkl ws ys l 0) = x at *
  generalize l * lv ys = m at *
  rcases Nat.lt_trichotomy c u0 with hc | rfl | hc
  · obtain ⟨d, rfl⟩ : ∃ d, u0 = c + 1 + d := ⟨u0 - c - 1, by omega⟩
    rw [Nat.mul_add, Nat.mul_add, Nat.mul_one] at hU
    have := Nat.zero_le (P * d)
    omega
  · exact ⟨rfl, by omega⟩
  · obtain ⟨d, rfl⟩ : ∃ d, c = u0 + 1 + d := ⟨c - u0 - 1, by omega⟩
    rw [Nat.mul_add, Nat.mul_add, Nat.mul_one] at h
    have := Nat.zero_le (P * d)
    omega
theorem step_over {ws ys : List Nat} {u0 l q r : Nat} (hl : ws.length = ys.length) (hw : ∀ w ∈ ws, w < 1000000000) (hy : ∀ y ∈ ys, y < 1000000000)
    (hU : lv ws + 1000000000 ^ ys.length * u0 = q * lv ys + r) (hr : r < lv ys) (he : l = q + 1) : u0 < tkc ws ys l 0 ∧ lv (pbl (tkl ws ys l 0) ys 0) = r := by
  subst he
  have h := lv_tkl ws ys (q + 1) 0 hl
  have hb := lv_lt (tkl ws ys (q + 1) 0) (tkl_lt ws ys (q + 1) 0 hw)
  have hlen := tkl_len ws ys (q + 1) 0 hl
  rw [hlen] at hb
  have hV := lv_lt ys hy
  rw [lv_pbl _ _ _ hlen]
  rw [Nat.add_mul, Nat.one_mul] at h
  generalize 1000000000 ^ ys.length = P at *
  generalize tkc ws ys (q + 1) 0 = c at *
  generalize lv (tkl ws ys (q + 1) 0) = x at *
  generalize q * lv ys = m at *
  generalize lv ys = V at *
  have hc : c = u0 + 1 := by
    rcases Nat.lt_trichotomy c (u0 + 1) with hc | hc | hc
    · obtain ⟨d, rfl⟩ : ∃ d, u0 = c + d := ⟨u0 - c, by omega⟩
      rw [Nat.mul_add] at hU
      have := Nat.zero_le (P * d)
      omega
    · exact hc
    · obtain ⟨d, rfl⟩ : ∃ d, c = u0 + 2 + d := ⟨c - u0 - 2, by omega⟩
      rw [Nat.mul_add, Nat.mul_add] at h
      have := Nat.zero_le (P * d)
      omega
  subst hc
  rw [Nat.mul_add, Nat.mul_one] at h
  refine ⟨by omega, ?_⟩
  rw [show x + V + 0 = r + P by omega, Nat.add_mod_right]
  exact Nat.mod_eq_of_lt (by omega)

/-! ### the guess -/
/-- the test fails: one less is still not too small -/
theorem guess_down {P U V q r H v2 v1 u2 l left : Nat} (hP : 0 < P) (hU : U = q * V + r) (hV : P * (v1 * 1000000000 + v2) ≤ V) (hHU : U < P * (H * 1000000000 + u2 + 1))
    (hh : l * v1 + left = H) (ht : left * 1000000000 + u2 < l * v2) : q < l := by
  rcases Nat.lt_or_ge q l with h | h
  · exact h
  · exfalso
    have h1 : l * (P * (v1 * 1000000000 + v2)) ≤ q * V := Nat.mul_le_mul h hV
    have h2 : l * (P * (v1 * 1000000000 + v2)) = P * (l * v1 * 1000000000 + l * v2) := by
      rw [Nat.mul_left_comm, Nat.mul_add, Nat.mul_assoc]
    have h3 : H * 1000000000 + u2 + 1 ≤ l * v1 * 1000000000 + l * v2 := by
      rw [← hh]; generalize l * v1 = a at *; generalize l * v2 = b at *; omega
    have h4 := Nat.mul_le_mul_left P h3
    omega
/-- the guess is not too great by more than one -/
theorem guess_up {P U V q r H v2 v1 u2 l : Nat} (hU : U = q * V + r) (hr : r < V) (hV : V < P * (v1 * 1000000000 + v2 + 1)) (hHU : P * (H * 1000000000 + u2) ≤ U)
    (hv1 : 1 ≤ v1) (hl : l ≤ 1000000000) (ht : l * (v1 * 1000000000 + v2) ≤ H * 1000000000 + u2) : l ≤ q + 1 := by
  rcases Nat.lt_or_ge (q + 1) l with h | h
  · exfalso
    obtain ⟨m, rfl⟩ : ∃ m, l = m + 1 := ⟨l - 1, by omega⟩
    have hq : q + 1 ≤ m := by omega
    have h1 : (q + 1) * V ≤ m * V := Nat.mul_le_mul_right V hq
    rw [Nat.add_mul, Nat.one_mul] at h1
    have h2 : m * V ≤ m * (P * (v1 * 1000000000 + v2 + 1)) := Nat.mul_le_mul_left m (Nat.le_of_lt hV)
    have h3 : P * ((m + 1) * (v1 * 1000000000 + v2)) ≤ U := Nat.le_trans (Nat.mul_le_mul_left P ht) hHU
    have h4 : m * (P * (v1 * 1000000000 + v2 + 1)) = P * (m * (v1 * 1000000000 + v2) + m) := by
      rw [Nat.mul_left_comm, Nat.mul_add m, Nat.mul_one]
    have h5 : m * (v1 * 1000000000 + v2) + m ≤ (m + 1) * (v1 * 1000000000 + v2) := by
      rw [Nat.add_mul, Nat.one_mul]
      omega
    have h6 := Nat.mul_le_mul_left P h5
    omega
  · exact h
theorem div_of {U V q r : Nat} (h : U = q * V + r) (hr : r < V) : U / V = q ∧ U % V = r := by
  have hV : 0 < V := by omega
  subst h
  rw [Nat.mul_comm q V, Nat.mul_add_div hV, Nat.mul_add_mod, Nat.div_eq_of_lt hr, Nat.mod_eq_of_lt hr]
  omega
/-- all that the guess wants, and what it gives -/
theorem knuth {P ly lw v1 v2 u0 u1 u2 U V : Nat} (hy : ly < P) (hw : lw < P) (hv2 : v2 < 1000000000) (hu1 : u1 < 1000000000) (hu2 : u2 < 1000000000) (hv1 : 500000000 ≤ v1)
    (hV : V = ly + P * (v2 + 1000000000 * v1)) (hU : U = lw + P * (u2 + 1000000000 * (u1 + 1000000000 * u0))) (hUV : U < 1000000000 * V) :
    u0 ≤ v1 ∧ U / V * v1 ≤ u0 * 1000000000 + u1 ∧ U / V < 1000000000 ∧ (∀ l left : Nat, l * v1 + left = u0 * 1000000000 + u1 → left * 1000000000 + u2 < l * v2 → U / V < l) ∧
      (∀ l left : Nat, l * v1 + left = u0 * 1000000000 + u1 → l ≤ 1000000000 → (1000000000 ≤ left ∨ (l < 1000000000 ∧ l * v2 ≤ left * 1000000000 + u2)) → l ≤ U / V + 1) := by
  have hP : 0 < P := by omega
  have hVpos : 0 < V := by
    rw [hV]
    have := Nat.mul_le_mul_left P (show 1 ≤ v2 + 1000000000 * v1 by omega)
    omega
  have hq : U = U / V * V + U % V := by rw [Nat.mul_comm]; exact (Nat.div_add_mod U V).symm
  have hr : U % V < V := Nat.mod_lt _ hVpos
  have eV1 : P * (v1 * 1000000000 + v2) ≤ V := by rw [hV, Nat.add_comm v2, Nat.mul_comm 1000000000 v1]; omega
  have eV2 : V < P * (v1 * 1000000000 + v2 + 1) := by rw [Nat.mul_add P _ 1, Nat.mul_one, hV, Nat.add_comm v2, Nat.mul_comm 1000000000 v1]; omega
  have eH : u2 + 1000000000 * (u1 + 1000000000 * u0) = (u0 * 1000000000 + u1) * 1000000000 + u2 := by omega
  rw [eH] at hU
  have eU1 : P * ((u0 * 1000000000 + u1) * 1000000000 + u2) ≤ U := by rw [hU]; exact Nat.le_add_left _ _
  have eU2 : U < P * ((u0 * 1000000000 + u1) * 1000000000 + u2 + 1) := by rw [Nat.mul_add P _ 1, Nat.mul_one, hU, Nat.add_comm lw]; exact Nat.add_lt_add_left hw _
  have hqB : U / V < 1000000000 := (Nat.div_lt_iff_lt_mul hVpos).2 hUV
  have hqv : U / V * v1 ≤ u0 * 1000000000 + u1 := by
    rcases Nat.lt_or_ge (u0 * 1000000000 + u1) (U / V * v1) with h | h
    · exfalso
      have h1 : U / V * (P * (v1 * 1000000000 + v2)) ≤ U := Nat.le_trans (Nat.mul_le_mul_left _ eV1) (by omega)
      have h2 : U / V * (P * (v1 * 1000000000 + v2)) = P * (U / V * v1 * 1000000000 + U / V * v2) := by rw [Nat.mul_left_comm, Nat.mul_add, Nat.mul_assoc]
      have h3 : (u0 * 1000000000 + u1) * 1000000000 + u2 + 1 ≤ U / V * v1 * 1000000000 + U / V * v2 := by
        generalize U / V * v1 = a at *; generalize U / V * v2 = b at *; omega
      have h4 := Nat.mul_le_mul_left P h3
      omega
    · exact h
  refine ⟨?_, hqv, hqB, fun l left hl ht => guess_down hP hq eV1 eU2 hl ht, fun l left hl hlB ht => ?_⟩
  · rcases Nat.lt_or_ge v1 u0 with h | h
    · exfalso
      have h1 : v1 * 1000000000 + v2 + 1 ≤ (v1 + 1) * 1000000000 := by omega
      have h2 : 1000000000 * ((v1 + 1) * 1000000000) ≤ (u0 * 1000000000 + u1) * 1000000000 + u2 := by omega
      have h3 := Nat.mul_le_mul_left P h2
      have h4 := Nat.mul_le_mul_left P h1
      have h5 : P * (1000000000 * ((v1 + 1) * 1000000000)) = 1000000000 * (P * ((v1 + 1) * 1000000000)) := Nat.mul_left_comm _ _ _
      omega
    · exact h
  · refine guess_up hq hr eV2 eU1 (by omega) hlB ?_
    rw [Nat.mul_add, ← Nat.mul_assoc]
    rcases ht with ht | ⟨h1, h2⟩
    · have h3 : l * v2 ≤ 1000000000 * 999999999 := Nat.mul_le_mul hlB (by omega)
      generalize l * v1 = a at *
      generalize l * v2 = b at *
      omega
    · generalize l * v1 = a at *
      generalize l * v2 = b at *
      omega
theorem split2 {ys : List Nat} {m : Nat} (h : ys.length = m + 2) : ∃ y0 v2 v1, ys = y0 ++ [v2, v1] ∧ y0.length = m ∧ ys[m]? = some v2 ∧ ys[m + 1]? = some v1 := by
  have h0 : ys[m]? = some ys[m] := List.getElem?_eq_getElem (by omega)
  have h1 : ys[m + 1]? = some ys[m + 1] := List.getElem?_eq_getElem (by omega)
  refine ⟨ys.take m, ys[m], ys[m + 1], ?_, by rw [List.length_take]; omega, h0, h1⟩
  have h2 : ys.drop (m + 1 + 1) = [] := List.drop_of_length_le (by omega)
  have e := List.take_append_drop m ys
  rw [drop_at h0, drop_at h1, h2] at e
  exact e.symm
theorem split3 {ys : List Nat} {m : Nat} (h : ys.length = m + 3) : ∃ y0 u2 u1 u0, ys = y0 ++ [u2, u1, u0] ∧ y0.length = m ∧ ys[m]? = some u2 ∧ ys[m + 1]? = some u1 ∧ ys[m + 2]? = some u0 := by
  have h0 : ys[m]? = some ys[m] := List.getElem?_eq_getElem (by omega)
  have h1 : ys[m + 1]? = some ys[m + 1] := List.getElem?_eq_getElem (by omega)
  have h2 : ys[m + 2]? = some ys[m + 2] := List.getElem?_eq_getElem (by omega)
  refine ⟨ys.take m, ys[m], ys[m + 1], ys[m + 2], ?_, by rw [List.length_take]; omega, h0, h1, h2⟩
  have h3 : ys.drop (m + 2 + 1) = [] := List.drop_of_length_le (by omega)
  have e := List.take_append_drop m ys
  rw [drop_at h0, drop_at h1, drop_at h2, h3] at e
  exact e.symm
/-- one step of the long division: the next limb, the next rest -/
theorem long_step {x S Q V r : Nat} (h : S = Q * V + r) (U : Nat) (hU : U = x + 1000000000 * r) : x + 1000000000 * S = (U / V + 1000000000 * Q) * V + U % V := by
  have h1 := Nat.div_add_mod U V
  rw [Nat.add_mul, Nat.mul_assoc, Nat.mul_comm (U / V) V]
  omega
theorem scale_top {t : Nat} (ht : t < 1000000000) (h0 : 0 < t) : 0 < 1000000000 / (t + 1) ∧ 1000000000 / (t + 1) < 1000000000 ∧ 500000000 ≤ t * (1000000000 / (t + 1)) ∧ (t + 1) * (1000000000 / (t + 1)) ≤ 1000000000 := by
  have h1 := Nat.div_add_mod 1000000000 (t + 1)
  have h2 := Nat.mod_lt 1000000000 (show 0 < t + 1 by omega)
  generalize 1000000000 / (t + 1) = s at *
  generalize 1000000000 % (t + 1) = r at *
  have hs : 0 < s := by
    rcases Nat.eq_zero_or_pos s with h | h
    · subst h; omega
    · exact h
  rw [Nat.add_mul, Nat.one_mul] at *
  have hts : s ≤ t * s := Nat.le_mul_of_pos_left s h0
  have htt : t ≤ t * s := Nat.le_mul_of_pos_right t hs
  refine ⟨hs, by omega, ?_, by omega⟩
  rcases Nat.lt_or_ge s 2 with h | h
  · obtain rfl : s = 1 := by omega
    omega
  · rcases Nat.lt_or_ge t 2 with h' | h'
    · obtain rfl : t = 1 := by omega
      omega
    · have h3 : t + s ≤ t * s + 1 := by
        obtain ⟨a, rfl⟩ : ∃ a, t = a + 1 := ⟨t - 1, by omega⟩
        obtain ⟨b, rfl⟩ : ∃ b, s = b + 1 := ⟨s - 1, by omega⟩
        rw [Nat.add_mul, Nat.mul_add]
        have := Nat.zero_le (a * b)
        omega
      omega
theorem scale_facts {xs ys : List Nat} {N m t s : Nat} (lx : xs.length = N) (ly : ys.length = m + 2) (hmN : m + 2 ≤ N) (bx : ∀ x ∈ xs, x < 1000000000) (by_ : ∀ y ∈ ys, y < 1000000000)
    (ht : ys[m + 1]? = some t) (ht0 : 0 < t) (hs : 1000000000 / (t + 1) = s) :
    lv (scl xs s (N + 1) 0) = lv xs * s ∧ lv (scl ys s (m + 2) 0) = lv ys * s ∧ lv ((scl xs s (N + 1) 0).drop (N - (m + 2) + 1)) < lv (scl ys s (m + 2) 0) ∧
      ∃ y0 v2 v1, scl ys s (m + 2) 0 = y0 ++ [v2, v1] ∧ y0.length = m ∧ (scl ys s (m + 2) 0)[m]? = some v2 ∧ (scl ys s (m + 2) 0)[m + 1]? = some v1 ∧ 500000000 ≤ v1 := by
  have htB := by_ t (mem_at ht)
  obtain ⟨hs0, hsB, hst, hsm⟩ := scale_top htB ht0
  rw [hs] at hs0 hsB hst hsm
  obtain ⟨y0, v2, v1, e1, e2, e3, e4⟩ := split2 ly
  obtain rfl : v1 = t := by rw [ht] at e4; injection e4 with e4; exact e4.symm
  have hlx := lv_lt xs bx
  rw [lx] at hlx
  have hy0 : lv y0 < 1000000000 ^ m := by
    have := lv_lt y0 (fun z hz => by_ z (by rw [e1]; exact List.mem_append_left _ hz))
    rwa [e2] at this
  have hlv : lv ys = lv y0 + 1000000000 ^ m * (v2 + 1000000000 * v1) := by rw [e1, lv_append, e2]; simp [lv]
  have hv2 := by_ v2 (mem_at e3)
  have hS : lv (scl xs s (N + 1) 0) = lv xs * s := by
    rw [lv_scl, Nat.add_zero]
    apply Nat.mod_eq_of_lt
    rw [Nat.pow_succ]
    exact Nat.mul_lt_mul'' hlx hsB
  have hP1 : lv ys < 1000000000 ^ (m + 1) * (v1 + 1) := by
    rw [hlv, Nat.pow_succ, Nat.mul_assoc]
    have h1 : v2 + 1000000000 * v1 + 1 ≤ 1000000000 * (v1 + 1) := by omega
    have h2 := Nat.mul_le_mul_left (1000000000 ^ m) h1
    rw [Nat.mul_add _ _ 1, Nat.mul_one] at h2
    omega
  have hP0 : 1000000000 ^ (m + 1) * v1 ≤ lv ys := by
    rw [hlv, Nat.pow_succ, Nat.mul_assoc]
    have h2 := Nat.mul_le_mul_left (1000000000 ^ m) (show 1000000000 * v1 ≤ v2 + 1000000000 * v1 by omega)
    omega
  have hY : lv (scl ys s (m + 2) 0) = lv ys * s := by
    rw [lv_scl, Nat.add_zero]
    apply Nat.mod_eq_of_lt
    have h1 : lv ys * s < 1000000000 ^ (m + 1) * (v1 + 1) * s := Nat.mul_lt_mul_of_pos_right hP1 hs0
    rw [Nat.mul_assoc] at h1
    have h2 := Nat.mul_le_mul_left (1000000000 ^ (m + 1)) hsm
    rw [show m + 2 = (m + 1) + 1 from rfl, Nat.pow_succ]
    omega
  refine ⟨hS, hY, ?_, ?_⟩
  · have e := List.take_append_drop (N - (m + 2) + 1) (scl xs s (N + 1) 0)
    have h1 : lv (scl xs s (N + 1) 0) = lv ((scl xs s (N + 1) 0).take (N - (m + 2) + 1)) + 1000000000 ^ (N - (m + 2) + 1) * lv ((scl xs s (N + 1) 0).drop (N - (m + 2) + 1)) := by
      conv => lhs; rw [← e]
      rw [lv_append, List.length_take, scl_len, Nat.min_eq_left (by omega)]
    rw [hS] at h1
    rw [hY]
    generalize (scl xs s (N + 1) 0).drop (N - (m + 2) + 1) = r at *
    generalize lv ((scl xs s (N + 1) 0).take (N - (m + 2) + 1)) = a at *
    have h2 : 1000000000 ^ (N - (m + 2) + 1) * lv r < 1000000000 ^ (N - (m + 2) + 1) * (1000000000 ^ (m + 1) * s) := by
      have h3 : lv xs * s < 1000000000 ^ N * s := Nat.mul_lt_mul_of_pos_right hlx hs0
      rw [← Nat.mul_assoc, ← Nat.pow_add, show N - (m + 2) + 1 + (m + 1) = N by omega]
      omega
    have h4 := Nat.lt_of_mul_lt_mul_left h2
    have h5 : 1000000000 ^ (m + 1) * 1 ≤ lv ys := Nat.le_trans (Nat.mul_le_mul_left _ ht0) hP0
    rw [Nat.mul_one] at h5
    exact Nat.lt_of_lt_of_le h4 (Nat.mul_le_mul_right s h5)
  · obtain ⟨z0, z2, z1, f1, f2, f3, f4⟩ := split2 (scl_len (m + 2) ys s 0)
    refine ⟨z0, z2, z1, f1, f2, f3, f4, ?_⟩
    have hz0 : lv z0 < 1000000000 ^ m := by
      have := lv_lt z0 (fun z hz => scl_lt _ _ _ _ z (by rw [f1]; exact List.mem_append_left _ hz))
      rwa [f2] at this
    have hz2 := scl_lt _ _ _ _ z2 (mem_at f3)
    have hlz : lv (scl ys s (m + 2) 0) = lv z0 + 1000000000 ^ m * (z2 + 1000000000 * z1) := by rw [f1, lv_append, f2]; simp [lv]
    rcases Nat.lt_or_ge z1 500000000 with h | h
    · exfalso
      have h1 : 1000000000 ^ (m + 1) * 500000000 ≤ lv ys * s := by
        have a1 := Nat.mul_le_mul_right s hP0
        have a2 := Nat.mul_le_mul_left (1000000000 ^ (m + 1)) hst
        rw [← Nat.mul_assoc] at a2
        omega
      rw [← hY, hlz, Nat.pow_succ, Nat.mul_assoc] at h1
      have h2 : z2 + 1000000000 * z1 + 1 ≤ 1000000000 * 500000000 := by omega
      have h3 := Nat.mul_le_mul_left (1000000000 ^ m) h2
      rw [Nat.mul_add _ _ 1, Nat.mul_one] at h3
      omega
    · exact h
end Go.Proofs.YtleccblkafcidaaGreatDoor
/- num.guess -/
namespace Go.Proofs.YtleccblkafcidaaGreatDoor
open Go.RowKit
def GuessPost (H v1 v2 u2 q : Nat) (w : World) (e : Ending) (w' : World) : Prop :=
  ∃ l left : Nat, e = .returned (.int .u64 (l : Int)) ∧ Drew w w' ∧ l * v1 + left = H ∧ q ≤ l ∧ l ≤ 1000000000 ∧ (1000000000 ≤ left ∨ (l < 1000000000 ∧ l * v2 ≤ left * 1000000000 + u2))
def GuessInv (H v1 q : Nat) (w : World) (lv lf : Value) (wr : World) : Prop :=
  ∃ l left : Nat, lv = .int .u64 l ∧ lf = .int .u64 left ∧ l * v1 + left = H ∧ q ≤ l ∧ l ≤ 1000000001 ∧ (l = 1000000001 → left < 1000000000) ∧ left < 2000000000 ∧ Drew w wr
set_option maxRecDepth 100000 in
set_option maxHeartbeats 1600000 in
theorem guess_l (g o gv m cw cv u0 u1 u2 v1 v2 q : Nat) (w : World) (hm : m ≤ 1000)
    (h0 : w.cell? ⟨g, o + (m + 2), none⟩ = some (.int .u64 (u0 : Int))) (h1 : w.cell? ⟨g, o + (m + 1), none⟩ = some (.int .u64 (u1 : Int))) (h2 : w.cell? ⟨g, o + m, none⟩ = some (.int .u64 (u2 : Int)))
    (k1 : w.cell? ⟨gv, m + 1, none⟩ = some (.int .u64 (v1 : Int))) (k2 : w.cell? ⟨gv, m, none⟩ = some (.int .u64 (v2 : Int)))
    (b0 : u0 ≤ v1) (b1 : u1 < 1000000000) (b2 : u2 < 1000000000) (bv1 : v1 < 1000000000) (bv2 : v2 < 1000000000) (bn : 500000000 ≤ v1)
    (hq0 : q * v1 ≤ u0 * 1000000000 + u1) (hqB : q < 1000000000) (hqd : ∀ l left : Nat, l * v1 + left = u0 * 1000000000 + u1 → left * 1000000000 + u2 < l * v2 → q < l) :
    Calls Tryz.prog 240 #[.slice (some ⟨g, o, none⟩) (m + 3) cw, .slice (some ⟨gv, 0, none⟩) (m + 2) cv] w (GuessPost (u0 * 1000000000 + u1) v1 v2 u2 q w) := by
  have hv0 : ¬ (v1 : Int) = 0 := by omega
  have HQ := hid hqd
  have HQ0 := hid hq0
  clear hqd hq0
  go_enter Tryz.func240, Tryz.ntmps240
  go_wp2_with fail
  go_quiet (fail)
  generalize hw1 : World.drewN w _ = w1
  have hwr1 : Drew w w1 := hw1 ▸ (Drew.rfl' w).drewN _
  have k1' : w1.cell? ⟨gv, m + 1, none⟩ = some (.int .u64 (v1 : Int)) := by rw [← hw1]; exact k1
  have k2' : w1.cell? ⟨gv, m, none⟩ = some (.int .u64 (v2 : Int)) := by rw [← hw1]; exact k2
  have h2' : w1.cell? ⟨g, o + m, none⟩ = some (.int .u64 (u2 : Int)) := by rw [← hw1]; exact h2
  clear hw1 h0 h1 h2 k1 k2
  go_wp2_with fail
  go_quiet (fail)
  generalize hw2 : World.drewN w1 _ = w2
  have hwr2 : Drew w w2 := hw2 ▸ hwr1.drewN _
  have K1 : w2.cell? ⟨gv, m + 1, none⟩ = some (.int .u64 (v1 : Int)) := by rw [← hw2]; exact k1'
  have K2 : w2.cell? ⟨gv, m, none⟩ = some (.int .u64 (v2 : Int)) := by rw [← hw2]; exact k2'
  have H2 : w2.cell? ⟨g, o + m, none⟩ = some (.int .u64 (u2 : Int)) := by rw [← hw2]; exact h2'
  clear hw2 h2' k1' k2' hwr1
  have hv1p : 0 < v1 := by omega
  have hdm := Nat.div_add_mod (u0 * 1000000000 + u1) v1
  have hmod := Nat.mod_lt (u0 * 1000000000 + u1) hv1p
  have hdiv : (u0 * 1000000000 + u1) / v1 ≤ 1000000001 := by
    refine Nat.lt_succ_iff.1 ((Nat.div_lt_iff_lt_mul hv1p).2 ?_)
    omega
  have hdq : q ≤ (u0 * 1000000000 + u1) / v1 := by rw [Nat.le_div_iff_mul_le hv1p]; exact HQ0.out
  have HDM := hid hdm
  clear hdm
  go_wp2_with fail
  go_loopw [7, 8] (fun lv lf wr => GuessInv (u0 * 1000000000 + u1) v1 q w2 lv lf wr) (fun lv _ _ => (intOf lv).toNat)
  case atStart =>
    refine ⟨(u0 * 1000000000 + u1) / v1, (u0 * 1000000000 + u1) % v1, by simp, by simp, ?_, hdq, hdiv, by omega, by omega, Drew.rfl' w2⟩
    rw [Nat.mul_comm]; exact HDM.out
  case round =>
    obtain ⟨l, left, rfl, rfl, he, hql, hl, hll, hleft, hwr⟩ := hrel
    have HE := hid he
    have k1 : wr.cell? ⟨gv, m + 1, none⟩ = some (.int .u64 (v1 : Int)) := by obtain ⟨_, rfl⟩ := hwr; exact K1
    have k2 : wr.cell? ⟨gv, m, none⟩ = some (.int .u64 (v2 : Int)) := by obtain ⟨_, rfl⟩ := hwr; exact K2
    have h2 : wr.cell? ⟨g, o + m, none⟩ = some (.int .u64 (u2 : Int)) := by obtain ⟨_, rfl⟩ := hwr; exact H2
    have HLL := hid hll
    clear he K1 K2 H2 HDM hll
    have hx1 : (l : Int) * (v2 : Int) ≤ 1000000001 * 999999999 := by
      rw [← Int.natCast_mul]
      have := Nat.mul_le_mul hl (show v2 ≤ 999999999 by omega)
      omega
    have hx0 : 0 ≤ (l : Int) * (v2 : Int) := by rw [← Int.natCast_mul]; omega
    by_cases c1 : left < 1000000000
    · by_cases c2 : 1000000000 ≤ l
      · have d1 : decide ((left : Int) < 1000000000) = true := by simp; omega
        have d2 : decide ((1000000000 : Int) ≤ (l : Int)) = true := by simp; omega
        have hl1 : 1 ≤ l := by omega
        clear hx1 hx0 k2 h2 hmod hdiv hdq hv1p
        go_wp2_with fail
        go_quiet (fail)
        generalize hw3 : World.drewN wr _ = w3
        have hwr3 : Drew w2 w3 := hw3 ▸ hwr.drewN _
        have k1' : w3.cell? ⟨gv, m + 1, none⟩ = some (.int .u64 (v1 : Int)) := by rw [← hw3]; exact k1
        clear hw3 k1 d1 d2 hwr
        have C1 := hid c1
        have C2 := hid c2
        clear c1 c2
        go_wp2
        go_roundw
        case rel =>
          have he := HE.out
          have hlt : q < l := by have := C2.out; omega
          obtain ⟨l', rfl⟩ : ∃ l', l = l' + 1 := ⟨l - 1, by omega⟩
          rw [Nat.add_mul, Nat.one_mul] at he
          exact ⟨l', left + v1, by simp, by simp, by omega, by omega, by omega, by omega, by have := C1.out; omega, by assumption⟩
        case measure => simp [intOf]; omega
      · by_cases c3 : left * 1000000000 + u2 < l * v2
        · have d1 : decide ((left : Int) < 1000000000) = true := by simp; omega
          have d2 : decide ((1000000000 : Int) ≤ (l : Int)) = false := by simp; omega
          have d3 : decide ((left : Int) * 1000000000 + u2 < (l : Int) * v2) = true := by
            rw [decide_eq_true_iff, ← Int.natCast_mul]; omega
          have hlt := HQ.out l left HE.out c3
          have HLT := hid hlt
          have C1 := hid c1
          have hl1 : 1 ≤ l := by omega
          clear hmod hdiv hdq hv1p c3 hlt c1 c2
          go_wp2_with fail
          go_quiet (fail)
          generalize hw3 : World.drewN wr _ = w3
          have hwr3 : Drew w2 w3 := hw3 ▸ hwr.drewN _
          have k1' : w3.cell? ⟨gv, m + 1, none⟩ = some (.int .u64 (v1 : Int)) := by rw [← hw3]; exact k1
          clear hw3 k1 d1 d2 d3 hwr k2 h2 hx1 hx0
          go_wp2
          go_roundw
          case rel =>
            have he := HE.out
            have hlt : q < l := HLT.out
            obtain ⟨l', rfl⟩ : ∃ l', l = l' + 1 := ⟨l - 1, by omega⟩
            rw [Nat.add_mul, Nat.one_mul] at he
            exact ⟨l', left + v1, by simp, by simp, by omega, by omega, by omega, by omega, by have := C1.out; omega, by assumption⟩
          case measure => simp [intOf]; omega
        · have d1 : decide ((left : Int) < 1000000000) = true := by simp; omega
          have d2 : decide ((1000000000 : Int) ≤ (l : Int)) = false := by simp; omega
          have d3 : decide ((left : Int) * 1000000000 + u2 < (l : Int) * v2) = false := by
            rw [decide_eq_false_iff_not, ← Int.natCast_mul]; omega
          have C3 := hid c3
          have C2 := hid c2
          clear hmod hdiv hdq hv1p c3 c1 c2
          go_wp2_with fail
          go_quiet (fail)
          clear d1 d2 d3
          go_wp2
          go_ret
          exact ⟨l, left, rfl, (hwr2.step hwr).drewN _, HE.out, hql, by have := C2.out; omega, .inr ⟨by have := C2.out; omega, by have := C3.out; omega⟩⟩
    · have d1 : decide ((left : Int) < 1000000000) = false := by simp; omega
      have C1 := hid c1
      clear hmod hdiv hdq hv1p c1
      go_wp2_with fail
      go_quiet (fail)
      clear d1
      go_wp2
      go_ret
      have h1 := C1.out
      have h2 := HLL.out
      exact ⟨l, left, rfl, (hwr2.step hwr).drewN _, HE.out, hql, by omega, .inl (by omega)⟩
end Go.Proofs.YtleccblkafcidaaGreatDoor
/- (natural).times -/
namespace Go.Proofs.YtleccblkafcidaaGreatDoor
open Go.RowKit
theorem mid_at {a b rest : List Nat} {x k j : Nat} (ha : a.length = k) (hb : b.length = j) : (U64s (a ++ b ++ x :: rest))[k + j]? = some (.int .u64 (x : Int)) := by
  have h := U64s_mid (done := a ++ b) (rest := rest) (sp := []) (x := x) (k := k + j) (by simp [ha, hb])
  simpa using h
theorem mid_put {w : World} {g : Nat} {t : TypeId} {a b rest : List Nat} {x k j : Nat} (h : Row w g t (U64s (a ++ b ++ x :: rest))) (ha : a.length = k) (hb : b.length = j) (v : Nat) :
    Row (w.setCell ⟨g, k + j, none⟩ (.int .u64 (v : Int))) g t (U64s (a ++ (b ++ [v]) ++ rest)) := by
  have h1 := Row.step1 (done := a ++ b) (rest := rest) (sp := []) (x := x) (k := k + j) (by simpa using h) (by simp [ha, hb]) v
  simpa using h1

set_option maxHeartbeats 1600000 in
theorem times_l (A B : Option Addr) (ca cb n m : Nat) (xs ys : List Nat) (w : World) (ha : Rd w A (U64s xs)) (hb : Rd w B (U64s ys)) (ln : xs.length = n) (lm : ys.length = m) (hn : n ≤ 1000) (hm : m ≤ 1000)
    (bx : ∀ x ∈ xs, x < 1000000000) (by_ : ∀ y ∈ ys, y < 1000000000) :
    Calls Tryz.prog 204 #[.slice A n ca, .slice B m cb] w (SumPost (K.lv xs * K.lv ys) w) := by
  have LN := hid ln
  have LM := hid lm
  have BX := hid bx
  have BY := hid by_
  have hmk := fun w => mkNat (n + m) ((n : Int) + m) (by omega) (by omega) w
  clear bx by_ ln lm
  go_enter Tryz.func204, Tryz.ntmps204
  go_wp2
  go_loopw [19] (fun i wr => ∃ (k : Nat) (done ps : List Nat), k ≤ n ∧ i = .int .i64 k ∧ Row wr w.heap.size 160 (U64s (done ++ ps ++ List.replicate (n - k) 0)) ∧ done.length = k ∧ ps.length = m ∧ (∀ p ∈ ps, p < 1000000000) ∧
      done ++ mulL (xs.drop k) ys ps = mulL xs ys (List.replicate m 0) ∧ Ext w wr) (fun i _ => n - (intOf i).toNat)
  case atStart => exact ⟨0, [], List.replicate m 0, by omega, rfl, by
    have h := Row.made w 160 (.int .u64 0) (n + m)
    rw [U64s_zeros, show n + m = m + n by omega, ← List.replicate_append_replicate] at h
    rw [show m + n = n + m by omega] at h
    exact h, rfl, by simp, by simp, rfl, (Ext.rfl' w).alloc' _⟩
  case round =>
    obtain ⟨k, done, ps, hk, rfl, hrow, hd, hp, hpl, hinv, hext⟩ := hrel
    have HD := hid hd
    have HP := hid hp
    have HPL := hid hpl
    have HI := hid hinv
    clear hd hp hpl hinv hmk
    by_cases hlt : k < n
    · obtain ⟨b1, o1, x, eA, ex, hb1, hx⟩ := (ha.ext hext).at_ (k := k) (by rw [LN.out]; omega)
      subst eA
      have hxB := BX.out x (mem_at ex)
      have HX := hid ex
      have hz : n - k = (n - (k + 1)) + 1 := by omega
      have HZ := hid hz
      clear ex hz ha
      obtain ⟨wo, rfl⟩ : ∃ wo : World, wo = wr := ⟨_, rfl⟩
      go_wp2
      go_loopw [8, 9, 10, 26] (fun cy _ _ j wr => ∃ (j' c : Nat) (d : List Nat), j' ≤ m ∧ c < 1000000000 ∧ j = .int .i64 j' ∧ cy = .int .u64 c ∧ Row wr w.heap.size 160 (U64s (done ++ d ++ (ps.drop j' ++ 0 :: List.replicate (n - (k + 1)) 0))) ∧ d.length = j' ∧
          d ++ rowm (ps.drop j') x (ys.drop j') c = rowm ps x ys 0 ∧ Ext w wr) (fun _ _ _ j _ => m - (intOf j).toNat)
      case atStart => exact ⟨0, 0, [], by omega, by omega, rfl, rfl, by rw [HZ.out, zeros_succ] at hrow; simpa using hrow, rfl, rfl, hext⟩
      case round =>
        obtain ⟨j, c, d, hj, hc, rfl, rfl, hrow2, hd2, hinv2, hext2⟩ := hrel
        have HD2 := hid hd2
        have HI2 := hid hinv2
        clear hd2 hinv2 hrow hext
        by_cases hjm : j < m
        · obtain ⟨b2, o2, y, eB, ey, hb2, hy⟩ := (hb.ext hext2).at_ (k := j) (by rw [LM.out]; omega)
          subst eB
          have hyB := BY.out y (mem_at ey)
          have HY := hid ey
          obtain ⟨p, ep⟩ : ∃ p, ps[j]? = some p := ⟨_, List.getElem?_eq_getElem (by rw [HP.out]; omega)⟩
          have hpB := HPL.out p (mem_at ep)
          have HPE := hid ep
          rw [drop_at ep, List.cons_append] at hrow2
          have hcell : wr.cell? ⟨w.heap.size, k + j, none⟩ = some (.int .u64 p) := by rw [hrow2.cell]; exact mid_at HD.out HD2.out
          have hfree := hrow2.free (k + j)
          have hxy := prod_lt hxB hyB
          have hxy' : (x : Int) * (y : Int) ≤ 999999998000000001 := by rw [← Int.natCast_mul]; omega
          have hxy0 : 0 ≤ (x : Int) * (y : Int) := by rw [← Int.natCast_mul]; omega
          clear ey ep hb hxy
          go_wp2
          go_roundw
          case rel =>
            refine ⟨j + 1, (c + (p + x * y)) / 1000000000, d ++ [(c + (p + x * y)) % 1000000000], by omega, ?_, rfl, ?_, ?_, by simp [HD2.out], ?_, hext2.set' (Nat.le_refl _) _⟩
            · have := prod_lt hxB hyB
              omega
            · simp
            · have h1 := mid_put hrow2 HD.out HD2.out ((c + (p + x * y)) % 1000000000)
              simpa using h1
            · rw [← HI2.out, drop_at HPE.out, drop_at HY.out, rowm]
              simp
          case measure => simp [intOf]; omega
        · obtain rfl : j = m := by omega
          have hps : ps.drop j = [] := List.drop_of_length_le (by rw [HP.out]; omega)
          have hys : ys.drop j = [] := List.drop_of_length_le (by rw [LM.out]; omega)
          rw [hps, List.nil_append] at hrow2
          have hcell : wr.cell? ⟨w.heap.size, k + j, none⟩ = some (.int .u64 0) := by rw [hrow2.cell]; exact mid_at HD.out HD2.out
          have hfree := hrow2.free (k + j)
          have hq : Hid (d ++ [c] = rowm ps x ys 0) := by
            have h := HI2.out
            rw [hps, hys] at h
            exact h
          have hnext := mid_put hrow2 HD.out HD2.out c
          clear hps hys hb HI2
          go_wp2
          go_roundw
          case rel =>
            have hql : (rowm ps x ys 0).length = j + 1 := by rw [rowm_len _ _ _ _ (by rw [HP.out, LM.out]), LM.out]
            have hqb := rowm_lt ps x ys 0 HPL.out hxB BY.out (by omega)
            have hm := HI.out
            rw [drop_at HX.out, mulL] at hm
            rw [hq.out] at hnext
            generalize rowm ps x ys 0 = q at *
            match q, hql with
            | h :: tl, hql =>
              refine ⟨k + 1, done ++ [h], tl, by omega, rfl, ?_, by simp [HD.out], by simpa using hql, fun p hp => hqb p (List.mem_cons_of_mem _ hp), ?_, hext2.set' (Nat.le_refl _) _⟩
              · simpa using hnext
              · simpa using hm
          case measure => simp [intOf]; omega
    · obtain rfl : k = n := by omega
      have hres : Row wr w.heap.size 160 (U64s (mulL xs ys (List.replicate m 0))) := by
        have hx0 : xs.drop k = [] := List.drop_of_length_le (by rw [LN.out]; omega)
        rw [← HI.out, hx0]
        simpa [mulL] using hrow
      have hval : K.lv (mulL xs ys (List.replicate m 0)) = K.lv xs * K.lv ys := by rw [lv_mulL _ _ _ (by simp [LM.out]), K.lv_zeros]; omega
      have hlims : ∀ x ∈ mulL xs ys (List.replicate m 0), x < 1000000000 := mulL_lt _ _ _ (by simp [LM.out]) BX.out BY.out (by simp)
      have hlen : (mulL xs ys (List.replicate m 0)).length = k + m := by rw [mulL_len _ _ _ (by simp [LM.out]), LN.out, LM.out]
      clear HI
      generalize mulL xs ys (List.replicate m 0) = s at *
      have HL := hid hlen
      have HV := hid hval
      clear hlen hval ha hb
      go_wp2_with fail
      refine (trimmed _ (k + m) (k + m) s _ hres.rd0 HL.out (by omega) (by omega)).mono ?_
      intro e w' hp
      have hq : SumPost (K.lv xs * K.lv ys) w e w' := SumPost.of_trim hres hext hlims HV.out e w' (by rw [HL.out]; exact hp)
      obtain ⟨v, rfl, hq⟩ := hq
      go_wp2
      go_ret
      exact ⟨v, rfl, hq⟩
theorem times_any (va vb : Value) (a b : Nat) (w : World) (ha : NatV w va a) (hb : NatV w vb b) (la : a ≤ BIG) (lb : b ≤ BIG) :
    Calls Tryz.prog 204 #[va, vb] w (SumPost (a * b) w) := by
  obtain ⟨A, n, ca, xs, rfl, h2, _, h4, h5, rfl⟩ := ha
  obtain ⟨B, m, cb, ys, rfl, k2, _, k4, k5, rfl⟩ := hb
  have hn := len_of_big h5 la
  have hm := len_of_big k5 lb
  exact times_l A B ca cb n m xs ys w h4 k4 h2 k2 (by omega) (by omega) h5.1 k5.1
end Go.Proofs.YtleccblkafcidaaGreatDoor
/- num.takeAway, num.putBack -/
namespace Go.Proofs.YtleccblkafcidaaGreatDoor
open Go.RowKit
theorem only_refl (w : World) (g : Nat) : w.grownBy w (some g) := World.grownBy.refl w _
theorem only_set {a b : World} {g : Nat} (h : a.grownBy b (some g)) (i : Nat) (u : Value) : a.grownBy (b.setCell ⟨g, i, none⟩ u) (some g) :=
  ⟨h.os, h.tape, h.output, by simpa [World.setCell] using h.size, fun k hk hne => (Below.heap_setCell b _ u k (fun e => hne (by rw [e]))).trans (h.block k hk hne)⟩
theorem only_step {a b c : World} {g : Nat} (h : a.grownBy b (some g)) (k : b.grownBy c (some g)) : a.grownBy c (some g) :=
  ⟨k.os.trans h.os, k.tape.trans h.tape, k.output.trans h.output, Nat.le_trans h.size k.size, fun i hi hne => (k.block i (Nat.lt_of_lt_of_le hi h.size) hne).trans (h.block i hi hne)⟩
theorem only_drew {a b : World} {g : Nat} (h : Drew a b) : a.grownBy b (some g) := by
  obtain ⟨n, rfl⟩ := h
  exact ⟨rfl, rfl, rfl, Nat.le_refl _, fun _ _ _ => rfl⟩
theorem only_ext {a b : World} {g : Nat} (h : Ext a b) : a.grownBy b (some g) := ⟨h.os, h.tape, h.output, h.size, fun k hk _ => h.block k hk⟩
theorem Ext.only {a b c : World} {g : Nat} (h : Ext a b) (k : b.grownBy c (some g)) (hg : a.heap.size ≤ g) : Ext a c :=
  ⟨k.os.trans h.os, k.tape.trans h.tape, k.output.trans h.output, Nat.le_trans h.size k.size, fun i hi => (k.block i (Nat.lt_of_lt_of_le hi h.size) (fun e => by injection e with e; omega)).trans (h.block i hi)⟩
theorem Row.only {w w' : World} {g g' : Nat} {t : TypeId} {vs : List Value} (h : Row w g' t vs) (e : w.grownBy w' (some g)) (hne : g' ≠ g) : Row w' g' t vs :=
  (e.block g' h.lt (fun x => hne (by injection x))).trans h
theorem mid_put2 {w : World} {g : Nat} {t : TypeId} {a b rest : List Nat} {x k j : Nat} (h : Row w g t (U64s (a ++ b ++ x :: rest))) (ha : a.length = k) (hb : b.length = j) (u : Value) (v : Nat) :
    Row ((w.setCell ⟨g, k + j, none⟩ u).setCell ⟨g, k + j, none⟩ (.int .u64 (v : Int))) g t (U64s (a ++ (b ++ [v]) ++ rest)) := by
  have h1 := Row.step2 (done := a ++ b) (rest := rest) (sp := []) (x := x) (k := k + j) (by simpa using h) (by simp [ha, hb]) u v
  simpa using h1
def TakePost (g : Nat) (lo ws hi ys : List Nat) (u0 l : Nat) (w : World) (e : Ending) (w' : World) : Prop :=
  e = .returned (.bool (decide (u0 < tkc ws ys l 0))) ∧ Row w' g 160 (U64s (lo ++ tkl ws ys l 0 ++ 0 :: hi)) ∧ w.grownBy w' (some g)

set_option maxHeartbeats 1600000 in
theorem take_l (g o gv n cw cv u0 l : Nat) (lo ws hi ys : List Nat) (w : World) (hrow0 : Row w g 160 (U64s (lo ++ ws ++ u0 :: hi))) (hv : Row w gv 160 (U64s ys)) (hne : gv ≠ g)
    (hlo : lo.length = o) (hws : ws.length = n) (hys : ys.length = n) (hn : n ≤ 1000) (ho : o ≤ 1001) (hl : l ≤ 1000000000) (bw : ∀ x ∈ ws, x < 1000000000) (by_ : ∀ y ∈ ys, y < 1000000000) :
    Calls Tryz.prog 241 #[.slice (some ⟨g, o, none⟩) (n + 1) cw, .slice (some ⟨gv, 0, none⟩) n cv, .int .u64 (l : Int)] w (TakePost g lo ws hi ys u0 l w) := by
  have HLO := hid hlo
  have HWS := hid hws
  have HYS := hid hys
  have BW := hid bw
  have BY := hid by_
  clear hlo hws hys bw by_
  go_enter Tryz.func241, Tryz.ntmps241
  go_wp2
  go_loopw [8, 17] (fun cy i wr => ∃ (k c : Nat) (d : List Nat), k ≤ n ∧ c ≤ 1000000001 ∧ i = .int .i64 k ∧ cy = .int .u64 c ∧ Row wr g 160 (U64s (lo ++ d ++ (ws.drop k ++ u0 :: hi))) ∧ d.length = k ∧
      d ++ tkl (ws.drop k) (ys.drop k) l c = tkl ws ys l 0 ∧ tkc (ws.drop k) (ys.drop k) l c = tkc ws ys l 0 ∧ w.grownBy wr (some g)) (fun _ i _ => n - (intOf i).toNat)
  case atStart => exact ⟨0, 0, [], by omega, by omega, rfl, rfl, by simpa using hrow0, rfl, rfl, rfl, only_refl w g⟩
  case round =>
    obtain ⟨k, c, d, hk, hc, rfl, rfl, hrow, hd, hinv, hinv2, hon⟩ := hrel
    have HD := hid hd
    have HI := hid hinv
    have HJ := hid hinv2
    clear hd hinv hinv2 hrow0
    by_cases hlt : k < n
    · obtain ⟨ww, ew⟩ : ∃ x, ws[k]? = some x := ⟨_, List.getElem?_eq_getElem (by rw [HWS.out]; omega)⟩
      obtain ⟨y, ey⟩ : ∃ x, ys[k]? = some x := ⟨_, List.getElem?_eq_getElem (by rw [HYS.out]; omega)⟩
      have hwB := BW.out ww (mem_at ew)
      have hyB := BY.out y (mem_at ey)
      have HW := hid ew
      have HY := hid ey
      rw [drop_at ew, List.cons_append] at hrow
      have hcell : wr.cell? ⟨g, o + k, none⟩ = some (.int .u64 ww) := by rw [hrow.cell]; exact mid_at HLO.out HD.out
      have hfree := hrow.free (o + k)
      have hyc : wr.cell? ⟨gv, k, none⟩ = some (.int .u64 y) := by
        have h := hv.only hon hne
        rw [h.cell]; exact U64s_at HY.out
      have hyl : y * l ≤ 999999999000000000 := Nat.le_trans (Nat.mul_le_mul (show y ≤ 999999999 by omega) hl) (by omega)
      have hyl' : (y : Int) * (l : Int) ≤ 999999999000000000 := by rw [← Int.natCast_mul]; omega
      have hyl0 : 0 ≤ (y : Int) * (l : Int) := by rw [← Int.natCast_mul]; omega
      have HYL := hid hyl
      clear ew ey hyl
      by_cases hcmp : (ww : Int) < ((c : Int) + (y : Int) * (l : Int)) % 1000000000
      · have hcn : ww < (c + y * l) % 1000000000 := by
          have e1 : (((c + y * l) % 1000000000 : Nat) : Int) = ((c : Int) + (y : Int) * (l : Int)) % 1000000000 := by simp
          omega
        go_wp2
        go_roundw
        case rel =>
          refine ⟨k + 1, ((c + y * l) / 1000000000 + 1), d ++ [(ww + 1000000000 - (c + y * l) % 1000000000)], by omega, ?_, rfl, by simp, ?_, by simp [HD.out], ?_, ?_, only_set (only_set hon _ _) _ _⟩
          · have := HYL.out
            omega
          · have h1 := mid_put2 hrow HLO.out HD.out (.int .u64 ((ww : Int) + 1000000000)) (ww + 1000000000 - (c + y * l) % 1000000000)
            rw [show (((ww + 1000000000 - (c + y * l) % 1000000000) : Nat) : Int) = (ww : Int) + 1000000000 - (((c : Int) + (y : Int) * (l : Int)) % 1000000000) by
              have e1 : (((c + y * l) % 1000000000 : Nat) : Int) = ((c : Int) + (y : Int) * (l : Int)) % 1000000000 := by simp
              rw [← e1]; omega] at h1
            simpa using h1
          · rw [← HI.out, drop_at HW.out, drop_at HY.out, tkl_yes (by omega)]
            simp
          · rw [← HJ.out, drop_at HW.out, drop_at HY.out, tkc_yes (by omega)]
        case measure => simp [intOf]; omega
      · have hcn : ¬ ww < (c + y * l) % 1000000000 := by
          have e1 : (((c + y * l) % 1000000000 : Nat) : Int) = ((c : Int) + (y : Int) * (l : Int)) % 1000000000 := by simp
          omega
        go_wp2
        go_roundw
        case rel =>
          refine ⟨k + 1, ((c + y * l) / 1000000000), d ++ [(ww - (c + y * l) % 1000000000)], by omega, ?_, rfl, by simp, ?_, by simp [HD.out], ?_, ?_, only_set hon _ _⟩
          · have := HYL.out
            omega
          · have h1 := mid_put hrow HLO.out HD.out (ww - (c + y * l) % 1000000000)
            rw [show (((ww - (c + y * l) % 1000000000) : Nat) : Int) = (ww : Int) - (((c : Int) + (y : Int) * (l : Int)) % 1000000000) by
              have e1 : (((c + y * l) % 1000000000 : Nat) : Int) = ((c : Int) + (y : Int) * (l : Int)) % 1000000000 := by simp
              rw [← e1]; omega] at h1
            simpa using h1
          · rw [← HI.out, drop_at HW.out, drop_at HY.out, tkl_no (by omega)]
            simp
          · rw [← HJ.out, drop_at HW.out, drop_at HY.out, tkc_no (by omega)]
        case measure => simp [intOf]; omega
    · obtain rfl : k = n := by omega
      have hw0 : ws.drop k = [] := List.drop_of_length_le (by rw [HWS.out]; omega)
      have hy0 : ys.drop k = [] := List.drop_of_length_le (by rw [HYS.out]; omega)
      have hdone : d = tkl ws ys l 0 := by rw [← HI.out, hw0, hy0]; simp [tkl]
      have hcar : c = tkc ws ys l 0 := by rw [← HJ.out, hw0, hy0]; simp [tkc]
      rw [hw0, List.nil_append] at hrow
      have hcell : wr.cell? ⟨g, o + k, none⟩ = some (.int .u64 u0) := by rw [hrow.cell]; exact mid_at HLO.out HD.out
      have hfree := hrow.free (o + k)
      have hnext := mid_put hrow HLO.out HD.out 0
      have HDO := hid hdone
      have HCA := hid hcar
      clear hw0 hy0 hdone hcar HI HJ hv
      by_cases hcmp : u0 < c
      · go_wp2
        go_ret
        exact ⟨by rw [← HCA.out, decide_eq_true hcmp]; rfl, by rw [← HDO.out]; simpa using hnext, only_set hon _ _⟩
      · go_wp2
        go_ret
        exact ⟨by rw [← HCA.out, decide_eq_false hcmp]; rfl, by rw [← HDO.out]; simpa using hnext, only_set hon _ _⟩

def PutPost (g : Nat) (lo ws hi ys : List Nat) (w : World) (e : Ending) (w' : World) : Prop :=
  e = .returned (.tuple #[]) ∧ Row w' g 160 (U64s (lo ++ pbl ws ys 0 ++ hi)) ∧ w.grownBy w' (some g)
set_option maxHeartbeats 1600000 in
theorem put_l (g o gv n nw cw cv : Nat) (lo ws hi ys : List Nat) (w : World) (hrow0 : Row w g 160 (U64s (lo ++ ws ++ hi))) (hv : Row w gv 160 (U64s ys)) (hne : gv ≠ g)
    (hlo : lo.length = o) (hws : ws.length = n) (hys : ys.length = n) (hnw : n ≤ nw) (hn : nw ≤ 1001) (ho : o ≤ 1001) (bw : ∀ x ∈ ws, x < 1000000000) (by_ : ∀ y ∈ ys, y < 1000000000) :
    Calls Tryz.prog 242 #[.slice (some ⟨g, o, none⟩) nw cw, .slice (some ⟨gv, 0, none⟩) n cv] w (PutPost g lo ws hi ys w) := by
  have HLO := hid hlo
  have HWS := hid hws
  have HYS := hid hys
  have BW := hid bw
  have BY := hid by_
  clear hlo hws hys bw by_
  go_enter Tryz.func242, Tryz.ntmps242
  go_wp2
  go_loopw [4, 9] (fun cy i wr => ∃ (k c : Nat) (d : List Nat), k ≤ n ∧ c ≤ 1 ∧ i = .int .i64 k ∧ cy = .int .u64 c ∧ Row wr g 160 (U64s (lo ++ d ++ (ws.drop k ++ hi))) ∧ d.length = k ∧
      d ++ pbl (ws.drop k) (ys.drop k) c = pbl ws ys 0 ∧ w.grownBy wr (some g)) (fun _ i _ => n - (intOf i).toNat)
  case atStart => exact ⟨0, 0, [], by omega, by omega, rfl, rfl, by simpa using hrow0, rfl, rfl, only_refl w g⟩
  case round =>
    obtain ⟨k, c, d, hk, hc, rfl, rfl, hrow, hd, hinv, hon⟩ := hrel
    have HD := hid hd
    have HI := hid hinv
    clear hd hinv hrow0
    by_cases hlt : k < n
    · obtain ⟨ww, ew⟩ : ∃ x, ws[k]? = some x := ⟨_, List.getElem?_eq_getElem (by rw [HWS.out]; omega)⟩
      obtain ⟨y, ey⟩ : ∃ x, ys[k]? = some x := ⟨_, List.getElem?_eq_getElem (by rw [HYS.out]; omega)⟩
      have hwB := BW.out ww (mem_at ew)
      have hyB := BY.out y (mem_at ey)
      have HW := hid ew
      have HY := hid ey
      rw [drop_at ew, List.cons_append] at hrow
      have hcell : wr.cell? ⟨g, o + k, none⟩ = some (.int .u64 ww) := by rw [hrow.cell]; exact mid_at HLO.out HD.out
      have hfree := hrow.free (o + k)
      have hyc : wr.cell? ⟨gv, k, none⟩ = some (.int .u64 y) := by
        have h := hv.only hon hne
        rw [h.cell]; exact U64s_at HY.out
      clear ew ey
      go_wp2
      go_roundw
      case rel =>
        refine ⟨k + 1, (c + (ww + y)) / 1000000000, d ++ [(c + (ww + y)) % 1000000000], by omega, by omega, rfl, rfl, ?_, by simp [HD.out], ?_, only_set hon _ _⟩
        · have h1 := mid_put hrow HLO.out HD.out ((c + (ww + y)) % 1000000000)
          simpa using h1
        · rw [← HI.out, drop_at HW.out, drop_at HY.out, pbl]
          simp
      case measure => simp [intOf]; omega
    · obtain rfl : k = n := by omega
      have hw0 : ws.drop k = [] := List.drop_of_length_le (by rw [HWS.out]; omega)
      have hy0 : ys.drop k = [] := List.drop_of_length_le (by rw [HYS.out]; omega)
      have hdone : d = pbl ws ys 0 := by rw [← HI.out, hw0, hy0]; simp [pbl]
      rw [hw0, List.nil_append, hdone] at hrow
      clear hw0 hy0 hdone HI hv
      go_wp2
      go_end0
      exact ⟨rfl, hrow, hon⟩
end Go.Proofs.YtleccblkafcidaaGreatDoor
