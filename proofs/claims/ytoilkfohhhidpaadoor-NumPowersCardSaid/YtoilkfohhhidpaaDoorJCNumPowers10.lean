/- Joined texts: the reference's part and more; the reference's size; the reference's less; plain facts on lists of parts: a part that is set; products, quotients and digits by rounds; the reference's Minus. -/
import Derived.Test.YtoilkfohhhidpaaDoorJCNumPowers09
import Derived.Test.YtoilkfohhhidpaaDoorJCNumPowers02
/- the reference's part and more -/
namespace Go.Proofs.YtoilkfohhhidpaaDoor
open Go.RowKit
set_option maxRecDepth 100000 in
theorem part_any (A : Option Addr) (n c : Nat) (xs : List Nat) (j : Nat) (w : World) (ha : Rd w A (I64s xs)) (ln : xs.length = n) :
    Calls Tryd.prog 57 #[.slice A n c, .int .i64 (j : Int)] w (fun e w' => e = .returned (.int .i64 ((xs.getD j 0 : Nat) : Int)) ∧ w = w') := by
  by_cases hj : j < n
  · obtain ⟨b, o, x, eA, ex, hb, hx⟩ := ha.at_ (k := j) (by omega)
    subst eA
    have hd : Hid (xs.getD j 0 = x) := hid (by rw [List.getD_eq_getElem?_getD, ex]; rfl)
    clear ex ha ln hb
    go_enter Tryd.func57, Tryd.ntmps57
    go_wp2
    go_ret
    exact ⟨by rw [hd.out]; rfl, rfl⟩
  · have hd : Hid (xs.getD j 0 = 0) := hid (by rw [List.getD_eq_getElem?_getD, List.getElem?_eq_none (by omega)]; rfl)
    clear ha ln
    go_enter Tryd.func57, Tryd.ntmps57
    go_wp2
    go_ret
    exact ⟨by rw [hd.out]; rfl, rfl⟩
theorem part_at {x : Nat} (A : Option Addr) (n c : Nat) (xs : List Nat) (j : Nat) (w : World) (ha : Rd w A (I64s xs)) (ln : xs.length = n) (hx : Hid (xs.getD j 0 = x)) :
    Calls Tryd.prog 57 #[.slice A n c, .int .i64 (j : Int)] w (fun e w' => e = .returned (.int .i64 (x : Int)) ∧ w = w') := by
  rw [← hx.out]; exact part_any A n c xs j w ha ln
theorem lv_getD (xs : List Nat) (j : Nat) : K.lv (xs.drop j) = xs.getD j 0 + 1000000000 * K.lv (xs.drop (j + 1)) := by
  by_cases hj : j < xs.length
  · have ex := List.getElem?_eq_getElem hj
    rw [drop_at ex, List.getD_eq_getElem?_getD, ex]; rfl
  · rw [List.drop_of_length_le (by omega), List.drop_of_length_le (by omega), List.getD_eq_getElem?_getD, List.getElem?_eq_none (by omega)]; rfl
theorem getD_lt {xs : List Nat} (h : ∀ x ∈ xs, x < 1000000000) (j : Nat) : xs.getD j 0 < 1000000000 := by
  rw [List.getD_eq_getElem?_getD]
  by_cases hj : j < xs.length
  · rw [List.getElem?_eq_getElem hj]; exact h _ (List.getElem_mem hj)
  · rw [List.getElem?_eq_none (by omega)]; simp
/-- a list of parts in memory, not yet trimmed -/
def Parts (n : Nat) (w : World) (e : Ending) (w' : World) : Prop :=
  ∃ A k c zs, e = .returned (.slice A k c) ∧ zs.length = k ∧ k ≤ c ∧ k ≤ 100002 ∧ Rd w' A (I64s zs) ∧ (∀ z ∈ zs, z < 1000000000) ∧ K.lv zs = n ∧ Ext w w'
set_option maxRecDepth 100000 in
set_option maxHeartbeats 3200000 in
theorem more_any (A B : Option Addr) (k1 c1 k2 c2 : Nat) (xs ys : List Nat) (w : World) (ha : Rd w A (I64s xs)) (hb : Rd w B (I64s ys)) (la : xs.length = k1) (lb : ys.length = k2)
    (hx : ∀ x ∈ xs, x < 1000000000) (hy : ∀ y ∈ ys, y < 1000000000) (b1 : k1 ≤ 100000) (b2 : k2 ≤ 100000) :
    Calls Tryd.prog 53 #[.slice A k1 c1, .slice B k2 c2] w (Parts (K.lv xs + K.lv ys) w) := by
  obtain ⟨i0, hi, hz0, hz1, hz2⟩ := info_parts infoI
  have HA := hid ha
  have HB := hid hb
  have LA := hid la
  have LB := hid lb
  have HX := hid hx
  have HY := hid hy
  obtain ⟨mx, hmx⟩ : ∃ mx, mx = max k1 k2 := ⟨_, rfl⟩
  have m1 : k1 ≤ mx := by omega
  have m2 : k2 ≤ mx := by omega
  have m3 : mx ≤ 100000 := by omega
  clear ha hb la lb hx hy hmx
  go_enter Tryd.func53, Tryd.ntmps53
  go_wp2_with fail
  go_loopw [5, 6, 7] (fun v cz iz wr => ∃ (j cy : Nat) (zs : List Nat) (A3 : Option Addr) (c3 : Nat), v = .slice A3 j c3 ∧ cz = .int .i64 (cy : Int) ∧ iz = .int .i64 (j : Int) ∧ j ≤ mx + 1 ∧ cy ≤ 1 ∧ wr.ownsRow w.heap.size 3 1 (.slice A3 j c3) j (I64s zs) ∧ Ext w wr ∧ w.heap.size ≤ wr.heap.size ∧
      Hid (zs.length = j ∧ K.lv zs + 1000000000 ^ j * (cy + K.lv (xs.drop j) + K.lv (ys.drop j)) = K.lv xs + K.lv ys ∧ (∀ z ∈ zs, z < 1000000000) ∧ (j = mx + 1 → cy = 0))) (fun _ _ iz _ => mx + 2 - (intOf iz).toNat)
  case atStart => exact ⟨0, 0, [], none, 0, rfl, rfl, rfl, by omega, by omega, World.ownsRow_nil _ _ _ _, Ext.rfl' _, Nat.le_refl _, hid ⟨rfl, by simp [K.lv], by simp, by omega⟩⟩
  case round =>
    obtain ⟨j, cy, zs, A3, c3, rfl, rfl, rfl, hj, hcy, hown, hex, hsz, hinv⟩ := hrel
    have HOWN := hid hown
    clear hown
    by_cases hgo : j < k1 ∨ j < k2 ∨ 0 < cy
    · obtain ⟨i1, i2, i3, i4⟩ := hinv.out
      have gx := getD_lt HX.out j
      have gy := getD_lt HY.out j
      have ex := lv_getD xs j
      have ey := lv_getD ys j
      obtain ⟨x, dx⟩ : ∃ x, xs.getD j 0 = x := ⟨_, rfl⟩
      obtain ⟨y, dy⟩ : ∃ y, ys.getD j 0 = y := ⟨_, rfl⟩
      rw [dx] at gx ex
      rw [dy] at gy ey
      have DX := hid dx
      have DY := hid dy
      clear dx dy
      have hjm : j ≤ mx := by
        rcases Nat.lt_or_ge mx j with h | h
        · have := i4 (by omega); omega
        · exact h
      have hj1 : j + 1 ≤ mx + 1 := by omega
      have hcy1 : (x + y + cy) / 1000000000 ≤ 1 := by omega
      have hlast : j + 1 = mx + 1 → (x + y + cy) / 1000000000 = 0 := by
        intro e
        have h1 : x = 0 := by rw [← DX.out, List.getD_eq_getElem?_getD, List.getElem?_eq_none (by rw [LA.out]; omega)]; rfl
        have h2 : y = 0 := by rw [← DY.out, List.getD_eq_getElem?_getD, List.getElem?_eq_none (by rw [LB.out]; omega)]; rfl
        rw [h1, h2]; omega
      have HINV : Hid ((zs ++ [(x + y + cy) % 1000000000]).length = j + 1 ∧ K.lv (zs ++ [(x + y + cy) % 1000000000]) + 1000000000 ^ (j + 1) * ((x + y + cy) / 1000000000 + K.lv (xs.drop (j + 1)) + K.lv (ys.drop (j + 1))) = K.lv xs + K.lv ys ∧ (∀ z ∈ zs ++ [(x + y + cy) % 1000000000], z < 1000000000) ∧ (j + 1 = mx + 1 → (x + y + cy) / 1000000000 = 0)) := by
        refine hid ⟨by simp [i1], ?_, ?_, hlast⟩
        · rw [lv_snoc, i1, ← i2, Nat.pow_succ, Nat.mul_assoc, Nat.add_assoc, ← Nat.mul_add, ex, ey]
          congr 2
          omega
        · intro z hz
          rcases List.mem_append.1 hz with h | h
          · exact i3 z h
          · obtain rfl := List.mem_singleton.1 h
            exact Nat.mod_lt _ (by omega)
      have HE1 : Hid ((x : Int) + (y : Int) + (cy : Int) = (((x + y + cy) : Nat) : Int)) := hid (by omega)
      have HE2 : Hid (Value.int .i64 (((x : Int) + (y : Int) + (cy : Int)) / 1000000000) = Value.int .i64 (((x + y + cy) / 1000000000 : Nat) : Int)) := hid (congrArg _ (by omega))
      have HE3 : Hid (I64s (zs ++ [(x + y + cy) % 1000000000]) = I64s zs ++ [.int .i64 ((((x + y + cy) : Nat) : Int) % 1000000000)]) := hid (by simp [I64s])
      clear i1 i2 i3 i4 ex ey hinv hlast
      by_cases h1 : j < k1
      · clear hgo
        go_wp2_with fail
        refine (part_at A k1 c1 xs j wr (HA.out.ext hex) LA.out DX).mono ?_
        rintro e wz ⟨rfl, rfl⟩
        go_wp2_with fail
        refine (part_at B k2 c2 ys j wr (HB.out.ext hex) LB.out DY).mono ?_
        rintro e wz ⟨rfl, rfl⟩
        go_wp2_with (at_builtin; refine wpList_append_own _ rfl _ _ 29 rfl w.heap.size 3 i0 (.int .i64 0) 1 8 Tryd.underlying29 hi hz0 hz1 hz2 rfl (by decide) _ _ _ rfl (HOWN.out.alloc _) ⟨wr.heap.size, 0, none⟩ 1 1 [_] rfl rfl (cell_one_new _ _ _) (fun u hu => by simp at hu; subst hu; rfl) ?q1 ?q2 ?q3 ?_)
        case q1 => unfold maxLen; omega
        case q2 => omega
        case q3 => first | omega | (simp; omega)
        intro v' w1 hown' hgrow hnil
        rw [HE1.out, ← HE3.out] at hown'
        obtain ⟨g, cap, sp, rfl, hg, hc1, hc2, hrow1, hvl, hsl⟩ := own_form hown' (by omega)
        have hex' : Ext w w1 := (hex.alloc' _).grown hgrow (by simp; omega) (by
          intro k hk
          exact (HOWN.out.lt k hk).1)
        have hsz' : w.heap.size ≤ w1.heap.size := hex'.size
        have HO := hid hown'
        clear hown' hgrow hnil hrow1 hvl hsl hg hc1 hc2
        go_wp2
        go_roundw
        case rel => exact ⟨j + 1, (x + y + cy) / 1000000000, zs ++ [(x + y + cy) % 1000000000], _, _, rfl, HE2.out, by simp, hj1, hcy1, HO.out, hex', hsz', HINV⟩
        case measure => simp [intOf]; omega
      · by_cases h2 : j < k2
        · clear hgo
          go_wp2_with fail
          refine (part_at A k1 c1 xs j wr (HA.out.ext hex) LA.out DX).mono ?_
          rintro e wz ⟨rfl, rfl⟩
          go_wp2_with fail
          refine (part_at B k2 c2 ys j wr (HB.out.ext hex) LB.out DY).mono ?_
          rintro e wz ⟨rfl, rfl⟩
          go_wp2_with (at_builtin; refine wpList_append_own _ rfl _ _ 29 rfl w.heap.size 3 i0 (.int .i64 0) 1 8 Tryd.underlying29 hi hz0 hz1 hz2 rfl (by decide) _ _ _ rfl (HOWN.out.alloc _) ⟨wr.heap.size, 0, none⟩ 1 1 [_] rfl rfl (cell_one_new _ _ _) (fun u hu => by simp at hu; subst hu; rfl) ?q1 ?q2 ?q3 ?_)
          case q1 => unfold maxLen; omega
          case q2 => omega
          case q3 => first | omega | (simp; omega)
          intro v' w1 hown' hgrow hnil
          rw [HE1.out, ← HE3.out] at hown'
          obtain ⟨g, cap, sp, rfl, hg, hc1, hc2, hrow1, hvl, hsl⟩ := own_form hown' (by omega)
          have hex' : Ext w w1 := (hex.alloc' _).grown hgrow (by simp; omega) (by
            intro k hk
            exact (HOWN.out.lt k hk).1)
          have hsz' : w.heap.size ≤ w1.heap.size := hex'.size
          have HO := hid hown'
          clear hown' hgrow hnil hrow1 hvl hsl hg hc1 hc2
          go_wp2
          go_roundw
          case rel => exact ⟨j + 1, (x + y + cy) / 1000000000, zs ++ [(x + y + cy) % 1000000000], _, _, rfl, HE2.out, by simp, hj1, hcy1, HO.out, hex', hsz', HINV⟩
          case measure => simp [intOf]; omega
        · have h3 : 0 < cy := by omega
          clear hgo
          go_wp2_with fail
          refine (part_at A k1 c1 xs j wr (HA.out.ext hex) LA.out DX).mono ?_
          rintro e wz ⟨rfl, rfl⟩
          go_wp2_with fail
          refine (part_at B k2 c2 ys j wr (HB.out.ext hex) LB.out DY).mono ?_
          rintro e wz ⟨rfl, rfl⟩
          go_wp2_with (at_builtin; refine wpList_append_own _ rfl _ _ 29 rfl w.heap.size 3 i0 (.int .i64 0) 1 8 Tryd.underlying29 hi hz0 hz1 hz2 rfl (by decide) _ _ _ rfl (HOWN.out.alloc _) ⟨wr.heap.size, 0, none⟩ 1 1 [_] rfl rfl (cell_one_new _ _ _) (fun u hu => by simp at hu; subst hu; rfl) ?q1 ?q2 ?q3 ?_)
          case q1 => unfold maxLen; omega
          case q2 => omega
          case q3 => first | omega | (simp; omega)
          intro v' w1 hown' hgrow hnil
          rw [HE1.out, ← HE3.out] at hown'
          obtain ⟨g, cap, sp, rfl, hg, hc1, hc2, hrow1, hvl, hsl⟩ := own_form hown' (by omega)
          have hex' : Ext w w1 := (hex.alloc' _).grown hgrow (by simp; omega) (by
            intro k hk
            exact (HOWN.out.lt k hk).1)
          have hsz' : w.heap.size ≤ w1.heap.size := hex'.size
          have HO := hid hown'
          clear hown' hgrow hnil hrow1 hvl hsl hg hc1 hc2
          go_wp2
          go_roundw
          case rel => exact ⟨j + 1, (x + y + cy) / 1000000000, zs ++ [(x + y + cy) % 1000000000], _, _, rfl, HE2.out, by simp, hj1, hcy1, HO.out, hex', hsz', HINV⟩
          case measure => simp [intOf]; omega
    · have h1 : ¬ j < k1 := by omega
      have h2 : ¬ j < k2 := by omega
      obtain rfl : cy = 0 := by omega
      have hfin : Parts (K.lv xs + K.lv ys) w (.returned (.slice A3 j c3)) wr := by
        obtain ⟨i1, i2, i3, i4⟩ := hinv.out
        refine ⟨A3, j, c3, zs, rfl, i1, ?_, by omega, Rd.of_own HOWN.out, i3, ?_, hex⟩
        · rcases HOWN.out.2 with ⟨h, h0⟩ | ⟨g, cap, cur, h, hg, hh, hc, _⟩
          · injection h with h1 h2 h3; omega
          · injection h with h1 h2 h3; omega
        · rw [← i2, List.drop_of_length_le (by rw [LA.out]; omega), List.drop_of_length_le (by rw [LB.out]; omega)]; simp [K.lv]
      have HF := hid hfin
      clear hgo hfin
      go_wp2
      go_ret
      exact HF.out
end Go.Proofs.YtoilkfohhhidpaaDoor
/- the reference's size -/
namespace Go.Proofs.YtoilkfohhhidpaaDoor
open Go.RowKit
set_option maxRecDepth 100000 in
set_option maxHeartbeats 1600000 in
theorem size_any (A B : Option Addr) (ca cb : Nat) (n m : Nat) (xs ys : List Nat) (w : World) (ha : Rd w A (I64s xs)) (hb : Rd w B (I64s ys)) (ln : xs.length = n) (lm : ys.length = m) (hn : n ≤ 1000000) (hm : m ≤ 1000000) :
    Calls Tryd.prog 54 #[.slice A n ca, .slice B m cb] w fun e w' => e = .returned (.int .i64 (if n = m then cmpL xs ys else sgn n m)) ∧ Drew w w' := by
  have LN := hid ln
  have LM := hid lm
  clear ln lm
  by_cases hl : n = m
  · subst hl
    rw [if_pos rfl]
    go_enter Tryd.func54, Tryd.ntmps54
    go_wp2
    go_loopw [5] (fun i wr => ∃ (q : Int), -1 ≤ q ∧ q < n ∧ i = .int .i64 q ∧ Hid (cmpL (xs.drop (q + 1).toNat) (ys.drop (q + 1).toNat) = 0) ∧ Drew w wr) (fun i _ => (intOf i + 1).toNat)
    case atStart => exact ⟨(n : Int) - 1, by omega, by omega, rfl, hid (by rw [show ((n : Int) - 1 + 1).toNat = n by omega, List.drop_of_length_le (by rw [LN.out]; omega)]; simp [cmpL]), Drew.rfl' w⟩
    case round =>
      obtain ⟨q, hq1, hq2, rfl, HC, hwr⟩ := hrel
      by_cases hq : 0 ≤ q
      · obtain ⟨j, rfl⟩ := Int.eq_ofNat_of_zero_le hq
        obtain ⟨b1, o1, x, eA, ex, hb1, hx⟩ := (ha.drew hwr).at_ (k := j) (by rw [LN.out]; omega)
        obtain ⟨b2, o2, y, eB, ey, hb2, hy⟩ := (hb.drew hwr).at_ (k := j) (by rw [LM.out]; omega)
        subst eA eB
        have HX := hid ex
        have HY := hid ey
        clear ex ey ha hb
        have hstep : Hid (cmpL (xs.drop j) (ys.drop j) = sgn x y) := by
          have e := HC.out
          rw [show ((j : Int) + 1).toNat = j + 1 by omega] at e
          show _ = _
          rw [drop_at HX.out, drop_at HY.out, cmpL, if_pos e]
        by_cases hxy : x < y
        · have hfin : Hid (cmpL xs ys = -1) := hid (by rw [cmpL_drop j xs ys (by rw [hstep.out]; exact sgn_ne (by omega)), hstep.out]; unfold sgn; rw [if_pos hxy])
          go_wp2_with fail
          go_quiet (fail)
          go_wp2
          go_ret
          exact ⟨by rw [hfin.out]; rfl, hwr.drewN _⟩
        · go_wp2_with fail
          go_quiet (fail)
          generalize hw1 : World.drewN wr _ = w1
          have hwr1 : Drew w w1 := hw1 ▸ hwr.drewN _
          have hx1 : w1.cell? ⟨b1, o1 + j, none⟩ = some (.int .i64 x) := by rw [← hw1]; exact hx
          have hy1 : w1.cell? ⟨b2, o2 + j, none⟩ = some (.int .i64 y) := by rw [← hw1]; exact hy
          clear hw1 hx hy hwr
          by_cases hyx : y < x
          · have hfin : Hid (cmpL xs ys = 1) := hid (by rw [cmpL_drop j xs ys (by rw [hstep.out]; exact sgn_ne (by omega)), hstep.out]; unfold sgn; rw [if_neg (by omega), if_pos hyx])
            go_wp2_with fail
            go_quiet (fail)
            go_wp2
            go_ret
            exact ⟨by rw [hfin.out]; rfl, hwr1.drewN _⟩
          · obtain rfl : x = y := by omega
            clear hxy
            go_wp2_with fail
            go_quiet (fail)
            go_wp2
            go_roundw
            case rel => exact ⟨(j : Int) - 1, by omega, by omega, rfl, hid (by rw [show ((j : Int) - 1 + 1).toNat = j by omega, hstep.out, sgn_self]), hwr1.drewN _⟩
            case measure => simp [intOf]
      · have hfin : Hid (cmpL xs ys = 0) := hid (by have := HC.out; rwa [show (q + 1).toNat = 0 by omega] at this)
        go_wp2
        go_ret
        exact ⟨by rw [hfin.out]; rfl, hwr⟩
  · rw [if_neg hl]
    by_cases hlt : n < m
    · have hfin : Hid (sgn n m = -1) := hid (by unfold sgn; rw [if_pos hlt])
      go_enter Tryd.func54, Tryd.ntmps54
      go_wp2
      go_ret
      exact ⟨by rw [hfin.out]; rfl, Drew.rfl' _⟩
    · have hfin : Hid (sgn n m = 1) := hid (by unfold sgn; rw [if_neg hlt, if_pos (by omega)])
      go_enter Tryd.func54, Tryd.ntmps54
      go_wp2
      go_ret
      exact ⟨by rw [hfin.out]; rfl, Drew.rfl' _⟩
end Go.Proofs.YtoilkfohhhidpaaDoor
/- the reference's less -/
namespace Go.Proofs.YtoilkfohhhidpaaDoor
open Go.RowKit
theorem less_step (X Y Z P x y z bw bw' X' Y' : Nat) (h : X + P * (bw + (y + 1000000000 * Y')) = Z + P * (x + 1000000000 * X') + Y) (hz : x + 1000000000 * bw' = z + y + bw) :
    X + P * 1000000000 * (bw' + Y') = Z + P * z + P * 1000000000 * X' + Y := by
  have k := congrArg (P * ·) hz
  simp only [Nat.mul_add] at h k ⊢
  have e1 : P * (1000000000 * Y') = P * 1000000000 * Y' := (Nat.mul_assoc ..).symm
  have e2 : P * (1000000000 * X') = P * 1000000000 * X' := (Nat.mul_assoc ..).symm
  have e3 : P * (1000000000 * bw') = P * 1000000000 * bw' := (Nat.mul_assoc ..).symm
  rw [e1, e2] at h
  rw [e3] at k
  omega
set_option maxRecDepth 100000 in
set_option maxHeartbeats 3200000 in
theorem less_any (A B : Option Addr) (k1 c1 k2 c2 : Nat) (xs ys : List Nat) (w : World) (ha : Rd w A (I64s xs)) (hb : Rd w B (I64s ys)) (la : xs.length = k1) (lb : ys.length = k2)
    (hx : ∀ x ∈ xs, x < 1000000000) (hy : ∀ y ∈ ys, y < 1000000000) (b1 : k1 ≤ 100000) (b2 : k2 ≤ k1) (hge : K.lv ys ≤ K.lv xs) :
    Calls Tryd.prog 55 #[.slice A k1 c1, .slice B k2 c2] w (Parts (K.lv xs - K.lv ys) w) := by
  obtain ⟨i0, hi, hz0, hz1, hz2⟩ := info_parts infoI
  have HA := hid ha
  have HB := hid hb
  have LA := hid la
  have LB := hid lb
  have HX := hid hx
  have HY := hid hy
  have HGE := hid hge
  clear ha hb la lb hx hy hge
  go_enter Tryd.func55, Tryd.ntmps55
  go_wp2_with fail
  go_loopw [5, 6, 7] (fun v bz iz wr => ∃ (j bw : Nat) (zs : List Nat) (A3 : Option Addr) (c3 : Nat), v = .slice A3 j c3 ∧ bz = .int .i64 (bw : Int) ∧ iz = .int .i64 (j : Int) ∧ j ≤ k1 ∧ bw ≤ 1 ∧ wr.ownsRow w.heap.size 3 1 (.slice A3 j c3) j (I64s zs) ∧ Ext w wr ∧ w.heap.size ≤ wr.heap.size ∧
      Hid (zs.length = j ∧ K.lv xs + 1000000000 ^ j * (bw + K.lv (ys.drop j)) = K.lv zs + 1000000000 ^ j * K.lv (xs.drop j) + K.lv ys ∧ (∀ z ∈ zs, z < 1000000000))) (fun _ _ iz _ => k1 - (intOf iz).toNat)
  case atStart => exact ⟨0, 0, [], none, 0, rfl, rfl, rfl, by omega, by omega, World.ownsRow_nil _ _ _ _, Ext.rfl' _, Nat.le_refl _, hid ⟨rfl, by simp [K.lv], by simp⟩⟩
  case round =>
    obtain ⟨j, bw, zs, A3, c3, rfl, rfl, rfl, hj, hbw, hown, hex, hsz, hinv⟩ := hrel
    have HOWN := hid hown
    clear hown
    by_cases hlt : j < k1
    · obtain ⟨i1, i2, i3⟩ := hinv.out
      obtain ⟨ba, oa, x, eA, exx, hba, hx⟩ := (HA.out.ext hex).at_ (k := j) (by rw [LA.out]; exact hlt)
      subst eA
      have gx : x < 1000000000 := by
        obtain ⟨hj', e⟩ := List.getElem?_eq_some_iff.1 exx
        rw [← e]; exact HX.out _ (List.getElem_mem hj')
      have gy := getD_lt HY.out j
      have ex : K.lv (xs.drop j) = x + 1000000000 * K.lv (xs.drop (j + 1)) := by rw [drop_at exx]; rfl
      have ey := lv_getD ys j
      obtain ⟨y, dy⟩ : ∃ y, ys.getD j 0 = y := ⟨_, rfl⟩
      rw [dy] at gy ey
      have DY := hid dy
      clear dy exx
      by_cases hneg : x < y + bw
      · have hng : (x : Int) - (y : Int) - (bw : Int) < 0 := by omega
        have HINV : Hid ((zs ++ [x + 1000000000 - y - bw]).length = j + 1 ∧ K.lv xs + 1000000000 ^ (j + 1) * (1 + K.lv (ys.drop (j + 1))) = K.lv (zs ++ [x + 1000000000 - y - bw]) + 1000000000 ^ (j + 1) * K.lv (xs.drop (j + 1)) + K.lv ys ∧ (∀ z ∈ zs ++ [x + 1000000000 - y - bw], z < 1000000000)) := by
          refine hid ⟨by simp [i1], ?_, ?_⟩
          · rw [lv_snoc, i1]
            rw [ex, ey] at i2
            exact less_step _ _ _ _ _ _ _ _ _ _ _ i2 (by omega)
          · intro z hz
            rcases List.mem_append.1 hz with h | h
            · exact i3 z h
            · obtain rfl := List.mem_singleton.1 h
              omega
        have HE3 : Hid (I64s (zs ++ [x + 1000000000 - y - bw]) = I64s zs ++ [.int .i64 ((x : Int) - (y : Int) - (bw : Int) + 1000000000)]) := hid (by simp [I64s]; omega)
        clear i1 i2 i3 ex ey hinv
        go_wp2_with fail
        go_quiet ((go_at_call 57; exact Calls.quiet_of_same ((part_at B k2 c2 ys j _ (HB.out.ext (hex.drewN _)) LB.out DY).mono fun _ _ ⟨a, b⟩ => ⟨a, b.symm⟩)))
        generalize hwd : World.drewN wr _ = wd
        have hexd : Ext w wd := hwd ▸ hex.drewN _
        have hownd : wd.ownsRow w.heap.size 3 1 (.slice A3 j c3) j (I64s zs) := by rw [← hwd]; exact HOWN.out
        have HOWND := hid hownd
        have hszd : w.heap.size ≤ wd.heap.size := hexd.size
        clear hwd hownd HOWN hx hex hsz
        go_wp2_with (at_builtin; refine wpList_append_own _ rfl _ _ 29 rfl w.heap.size 3 i0 (.int .i64 0) 1 8 Tryd.underlying29 hi hz0 hz1 hz2 rfl (by decide) _ _ _ rfl (HOWND.out.alloc _) ⟨wd.heap.size, 0, none⟩ 1 1 [_] rfl rfl (cell_one_new _ _ _) (fun u hu => by simp at hu; subst hu; rfl) ?q1 ?q2 ?q3 ?_)
        case q1 => unfold maxLen; omega
        case q2 => omega
        case q3 => first | omega | (simp; omega)
        intro v' w1 hown' hgrow hnil
        rw [← HE3.out] at hown'
        obtain ⟨g, cap, sp, rfl, hg, hc1, hc2, hrow1, hvl, hsl⟩ := own_form hown' (by omega)
        have hex' : Ext w w1 := (hexd.alloc' _).grown hgrow (by simp; omega) (by
          intro k hk
          exact (HOWND.out.lt k hk).1)
        have hsz' : w.heap.size ≤ w1.heap.size := hex'.size
        have HO := hid hown'
        clear hown' hgrow hnil hrow1 hvl hsl hg hc1 hc2
        go_wp2
        go_roundw
        case rel => exact ⟨j + 1, 1, zs ++ [x + 1000000000 - y - bw], _, _, rfl, by simp, by simp, by omega, by omega, HO.out, hex', hsz', HINV⟩
        case measure => simp [intOf]; omega
      · have hng : ¬ (x : Int) - (y : Int) - (bw : Int) < 0 := by omega
        have HINV : Hid ((zs ++ [x - y - bw]).length = j + 1 ∧ K.lv xs + 1000000000 ^ (j + 1) * (0 + K.lv (ys.drop (j + 1))) = K.lv (zs ++ [x - y - bw]) + 1000000000 ^ (j + 1) * K.lv (xs.drop (j + 1)) + K.lv ys ∧ (∀ z ∈ zs ++ [x - y - bw], z < 1000000000)) := by
          refine hid ⟨by simp [i1], ?_, ?_⟩
          · rw [lv_snoc, i1]
            rw [ex, ey] at i2
            exact less_step _ _ _ _ _ _ _ _ _ _ _ i2 (by omega)
          · intro z hz
            rcases List.mem_append.1 hz with h | h
            · exact i3 z h
            · obtain rfl := List.mem_singleton.1 h
              omega
        have HE3 : Hid (I64s (zs ++ [x - y - bw]) = I64s zs ++ [.int .i64 ((x : Int) - (y : Int) - (bw : Int))]) := hid (by simp [I64s]; omega)
        clear i1 i2 i3 ex ey hinv
        go_wp2_with fail
        go_quiet ((go_at_call 57; exact Calls.quiet_of_same ((part_at B k2 c2 ys j _ (HB.out.ext (hex.drewN _)) LB.out DY).mono fun _ _ ⟨a, b⟩ => ⟨a, b.symm⟩)))
        generalize hwd : World.drewN wr _ = wd
        have hexd : Ext w wd := hwd ▸ hex.drewN _
        have hownd : wd.ownsRow w.heap.size 3 1 (.slice A3 j c3) j (I64s zs) := by rw [← hwd]; exact HOWN.out
        have HOWND := hid hownd
        have hszd : w.heap.size ≤ wd.heap.size := hexd.size
        clear hwd hownd HOWN hx hex hsz
        go_wp2_with (at_builtin; refine wpList_append_own _ rfl _ _ 29 rfl w.heap.size 3 i0 (.int .i64 0) 1 8 Tryd.underlying29 hi hz0 hz1 hz2 rfl (by decide) _ _ _ rfl (HOWND.out.alloc _) ⟨wd.heap.size, 0, none⟩ 1 1 [_] rfl rfl (cell_one_new _ _ _) (fun u hu => by simp at hu; subst hu; rfl) ?q1 ?q2 ?q3 ?_)
        case q1 => unfold maxLen; omega
        case q2 => omega
        case q3 => first | omega | (simp; omega)
        intro v' w1 hown' hgrow hnil
        rw [← HE3.out] at hown'
        obtain ⟨g, cap, sp, rfl, hg, hc1, hc2, hrow1, hvl, hsl⟩ := own_form hown' (by omega)
        have hex' : Ext w w1 := (hexd.alloc' _).grown hgrow (by simp; omega) (by
          intro k hk
          exact (HOWND.out.lt k hk).1)
        have hsz' : w.heap.size ≤ w1.heap.size := hex'.size
        have HO := hid hown'
        clear hown' hgrow hnil hrow1 hvl hsl hg hc1 hc2
        go_wp2
        go_roundw
        case rel => exact ⟨j + 1, 0, zs ++ [x - y - bw], _, _, rfl, by simp, by simp, by omega, by omega, HO.out, hex', hsz', HINV⟩
        case measure => simp [intOf]; omega
    · obtain rfl : j = k1 := by omega
      have hfin : Parts (K.lv xs - K.lv ys) w (.returned (.slice A3 j c3)) wr := by
        obtain ⟨i1, i2, i3⟩ := hinv.out
        refine ⟨A3, j, c3, zs, rfl, i1, ?_, by omega, Rd.of_own HOWN.out, i3, ?_, hex⟩
        · rcases HOWN.out.2 with ⟨h, h0⟩ | ⟨g, cap, cur, h, hg, hh, hc, _⟩
          · injection h with h1 h2 h3; omega
          · injection h with h1 h2 h3; omega
        · rw [List.drop_of_length_le (by rw [LB.out]; omega), List.drop_of_length_le (by rw [LA.out]; omega)] at i2
          have hz := K.lv_lt zs i3
          rw [i1] at hz
          have hg := HGE.out
          have hb0 : bw = 0 := by
            rcases Nat.eq_zero_or_pos bw with h | h
            · exact h
            · obtain rfl : bw = 1 := by omega
              simp [K.lv] at i2
              omega
          subst hb0
          simp [K.lv] at i2
          omega
      have HF := hid hfin
      clear hfin
      go_wp2
      go_ret
      exact HF.out
end Go.Proofs.YtoilkfohhhidpaaDoor
/- plain facts on lists of parts: a part that is set; products, quotients and digits by rounds -/
namespace Go.Proofs.YtoilkfohhhidpaaDoor
theorem lv_set : ∀ (xs : List Nat) (j v : Nat), j < xs.length → K.lv (xs.set j v) + 1000000000 ^ j * xs.getD j 0 = K.lv xs + 1000000000 ^ j * v
  | [], j, v, h => by simp at h
  | x :: r, 0, v, _ => by simp [K.lv]; omega
  | x :: r, j + 1, v, h => by
    have ih := lv_set r j v (by simpa using h)
    have e1 : 1000000000 ^ j * 1000000000 * r.getD j 0 = 1000000000 * (1000000000 ^ j * r.getD j 0) := by rw [Nat.mul_comm (1000000000 ^ j), Nat.mul_assoc]
    have e2 : 1000000000 ^ j * 1000000000 * v = 1000000000 * (1000000000 ^ j * v) := by rw [Nat.mul_comm (1000000000 ^ j), Nat.mul_assoc]
    simp only [List.set_cons_succ, List.getD_cons_succ, K.lv, Nat.pow_succ, e1, e2]
    omega
/-- one round of a product -/
theorem mul_step {Os : List Nat} {p c x y Y' T o s : Nat} (hp : p < Os.length) (ho : Os.getD p 0 = o) (hs : s = o + x * y + c) (h : K.lv Os + 1000000000 ^ p * (c + x * (y + 1000000000 * Y')) = T) :
    K.lv (Os.set p (s % 1000000000)) + 1000000000 ^ (p + 1) * (s / 1000000000 + x * Y') = T := by
  have h1 := lv_set Os p (s % 1000000000) hp
  rw [ho] at h1
  have h2 : 1000000000 ^ p * (s % 1000000000) + 1000000000 ^ p * 1000000000 * (s / 1000000000) = 1000000000 ^ p * s := by
    rw [Nat.mul_assoc, ← Nat.mul_add, Nat.mod_add_div]
  have h3 : 1000000000 ^ p * s = 1000000000 ^ p * o + 1000000000 ^ p * (x * y) + 1000000000 ^ p * c := by rw [hs, Nat.mul_add, Nat.mul_add]
  have h4 : x * (1000000000 * Y') = 1000000000 * (x * Y') := by rw [← Nat.mul_assoc, Nat.mul_comm x, Nat.mul_assoc]
  rw [Nat.mul_add x, h4, Nat.mul_add, Nat.mul_add, ← Nat.mul_assoc (1000000000 ^ p) 1000000000] at h
  rw [Nat.pow_succ, Nat.mul_add]
  omega
theorem lv_take_at {xs : List Nat} {i x : Nat} (h : xs[i]? = some x) : K.lv (xs.take (i + 1)) = K.lv (xs.take i) + 1000000000 ^ i * x := by
  obtain ⟨hi, e⟩ := List.getElem?_eq_some_iff.1 h
  rw [List.take_succ_eq_append_getElem hi, e, lv_snoc, List.length_take, Nat.min_eq_left (by omega)]
theorem set_lt {xs : List Nat} (h : ∀ x ∈ xs, x < 1000000000) {j v : Nat} (hv : v < 1000000000) : ∀ x ∈ xs.set j v, x < 1000000000 := by
  intro x hx
  rcases List.mem_or_eq_of_mem_set hx with h1 | h1
  · exact h x h1
  · omega
theorem lv_lt' (xs : List Nat) (h : ∀ x ∈ xs, x < 1000000000) : K.lv xs < 1000000000 ^ xs.length := K.lv_lt xs h
/-- where a carry is left, the place lies within the row -/
theorem mul_place {L p c Y T i m a b : Nat} (h : L + 1000000000 ^ p * (c + Y) = T) (hc : 0 < c) (hT : T = a * b) (ha : a < 1000000000 ^ i) (hb : b < 1000000000 ^ m) : p < i + m := by
  have h1 : 1000000000 ^ p ≤ 1000000000 ^ p * (c + Y) := Nat.le_mul_of_pos_right _ (by omega)
  have h2 : a * b < 1000000000 ^ i * 1000000000 ^ m := Nat.mul_lt_mul'' ha hb
  rw [← Nat.pow_add] at h2
  rcases Nat.lt_or_ge p (i + m) with h | h
  · exact h
  · have := Nat.pow_le_pow_right (n := 1000000000) (by omega) h
    omega
end Go.Proofs.YtoilkfohhhidpaaDoor
/- the reference's Minus -/
namespace Go.Proofs.YtoilkfohhhidpaaDoor
open Go.RowKit
set_option maxRecDepth 100000 in
set_option maxHeartbeats 1600000 in
theorem rminus_any (v : Value) (n : Int) (w : World) (h : RefV w v n) : Calls Tryd.prog 56 #[v] w (RefPost (-n) w) := by
  obtain ⟨A, k, c, xs, b, rfl, hbn, hl, hkc, hr, hL, hv⟩ := h
  have hk : k = 0 ↔ n = 0 := by
    have := hL.zero_iff
    rw [hv, ← List.length_eq_zero_iff, hl] at this
    rw [← this]; omega
  have hfin : ∀ b' w', Ext w w' → b' = decide (-n < 0) → RefPost (-n) w (.returned (.agg #[.bool b', .slice A k c])) w' := fun b' w' e hb =>
    ⟨_, rfl, ⟨A, k, c, xs, b', rfl, hid hb, hl, hkc, hr.ext e, hL, by rw [hv, Int.natAbs_neg]⟩, e⟩
  have HF := hid hfin
  have HB := hbn.out
  clear hfin hl hkc hr hL hv hbn
  cases b with
  | true =>
    have hn : n < 0 := by simpa using HB.symm
    have hd : Hid (false = decide (-n < 0)) := hid (decide_eq_false (by omega)).symm
    clear HB hn hk
    go_enter Tryd.func56, Tryd.ntmps56
    go_wp2
    refine bodyPost_ret (v := .agg #[.bool false, .slice A k c]) (by simp [results, Tryd.results56, go_sem]) rfl (HF.out false _ ?_ hd.out)
    exact ((Ext.rfl' w).alloc' _).alloc' _
  | false =>
    have hn : ¬ n < 0 := by simpa using HB.symm
    by_cases h0 : 0 < k
    · have hd : Hid (true = decide (-n < 0)) := hid (decide_eq_true (by omega)).symm
      clear HB hn hk
      go_enter Tryd.func56, Tryd.ntmps56
      go_wp2
      refine bodyPost_ret (v := .agg #[.bool true, .slice A k c]) (by simp [results, Tryd.results56, go_sem]) rfl (HF.out true _ ?_ hd.out)
      exact ((Ext.rfl' w).alloc' _).alloc' _
    · have hd : Hid (false = decide (-n < 0)) := hid (decide_eq_false (by omega)).symm
      clear HB hn hk
      go_enter Tryd.func56, Tryd.ntmps56
      go_wp2
      refine bodyPost_ret (v := .agg #[.bool false, .slice A k c]) (by simp [results, Tryd.results56, go_sem]) rfl (HF.out false _ ?_ hd.out)
      exact ((Ext.rfl' w).alloc' _).alloc' _
end Go.Proofs.YtoilkfohhhidpaaDoor
