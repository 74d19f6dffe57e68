/- Joined texts: the reference's less; plain facts on lists of parts: a part that is set; products, quotients and digits by rounds; the reference's Minus; the reference's Add. -/
import Derived.Test.YtoilkfohhhidpaaDoorJCNumDivides09
import Derived.Test.YtoilkfohhhidpaaDoorJCNumDivides05
/- the reference's less -/
namespace Go.Proofs.YtoilkfohhhidpaaDoor
open Go.RowKit
theorem less_step (X Y Z P x y z bw bw' X' Y' : Nat) (h : X + P * (bw + (y + 1000000000 * Y')) = Z + P * (x + 1000000000 * X') + Y) (hz : x + 1000000000 * bw' = z + y + bw) :
    X + P * 1000000000 * (bw' + Y') = Z + P * z + P * 1000000000 * X' + Y := by
  have k := congrArg (P * ·) hz
  simp only [Nat.mul_add] at h k ⊢
  have e1 : P * (1000000000 * Y') = P * 1000000000 * Y' := (Nat.mul_assoc ..).symm
  have e2 : P * (1000000000 * X') = P * 1000000000 * X' := (Nat.mul_assoc ..).symm
  have e3 : P * (1000000000 * bw') = P * 1000000000 * bw' := (Nat.mul_assoc ..).symm
  rw [e1, e2] at h
  rw [e3] at k
  omega
set_option maxRecDepth 100000 in
set_option maxHeartbeats 3200000 in
theorem less_any (A B : Option Addr) (k1 c1 k2 c2 : Nat) (xs ys : List Nat) (w : World) (ha : Rd w A (I64s xs)) (hb : Rd w B (I64s ys)) (la : xs.length = k1) (lb : ys.length = k2)
    (hx : ∀ x ∈ xs, x < 1000000000) (hy : ∀ y ∈ ys, y < 1000000000) (b1 : k1 ≤ 100000) (b2 : k2 ≤ k1) (hge : K.lv ys ≤ K.lv xs) :
    Calls Tryd.prog 55 #[.slice A k1 c1, .slice B k2 c2] w (Parts (K.lv xs - K.lv ys) w) := by
  obtain ⟨i0, hi, hz0, hz1, hz2⟩ := info_parts infoI
  have HA := hid ha
  have HB := hid hb
  have LA := hid la
  have LB := hid lb
  have HX := hid hx
  have HY := hid hy
  have HGE := hid hge
  clear ha hb la lb hx hy hge
  go_enter Tryd.func55, Tryd.ntmps55
  go_wp2_with fail
  go_loopw [5, 6, 7] (fun v bz iz wr => ∃ (j bw : Nat) (zs : List Nat) (A3 : Option Addr) (c3 : Nat), v = .slice A3 j c3 ∧ bz = .int .i64 (bw : Int) ∧ iz = .int .i64 (j : Int) ∧ j ≤ k1 ∧ bw ≤ 1 ∧ wr.ownsRow w.heap.size 3 1 (.slice A3 j c3) j (I64s zs) ∧ Ext w wr ∧ w.heap.size ≤ wr.heap.size ∧
      Hid (zs.length = j ∧ K.lv xs + 1000000000 ^ j * (bw + K.lv (ys.drop j)) = K.lv zs + 1000000000 ^ j * K.lv (xs.drop j) + K.lv ys ∧ (∀ z ∈ zs, z < 1000000000))) (fun _ _ iz _ => k1 - (intOf iz).toNat)
  case atStart => exact ⟨0, 0, [], none, 0, rfl, rfl, rfl, by omega, by omega, World.ownsRow_nil _ _ _ _, Ext.rfl' _, Nat.le_refl _, hid ⟨rfl, by simp [K.lv], by simp⟩⟩
  case round =>
    obtain ⟨j, bw, zs, A3, c3, rfl, rfl, rfl, hj, hbw, hown, hex, hsz, hinv⟩ := hrel
    have HOWN := hid hown
    clear hown
    by_cases hlt : j < k1
    · obtain ⟨i1, i2, i3⟩ := hinv.out
      obtain ⟨ba, oa, x, eA, exx, hba, hx⟩ := (HA.out.ext hex).at_ (k := j) (by rw [LA.out]; exact hlt)
      subst eA
      have gx : x < 1000000000 := by
        obtain ⟨hj', e⟩ := List.getElem?_eq_some_iff.1 exx
        rw [← e]; exact HX.out _ (List.getElem_mem hj')
      have gy := getD_lt HY.out j
      have ex : K.lv (xs.drop j) = x + 1000000000 * K.lv (xs.drop (j + 1)) := by rw [drop_at exx]; rfl
      have ey := lv_getD ys j
      obtain ⟨y, dy⟩ : ∃ y, ys.getD j 0 = y := ⟨_, rfl⟩
      rw [dy] at gy ey
      have DY := hid dy
      clear dy exx
      by_cases hneg : x < y + bw
      · have hng : (x : Int) - (y : Int) - (bw : Int) < 0 := by omega
        have HINV : Hid ((zs ++ [x + 1000000000 - y - bw]).length = j + 1 ∧ K.lv xs + 1000000000 ^ (j + 1) * (1 + K.lv (ys.drop (j + 1))) = K.lv (zs ++ [x + 1000000000 - y - bw]) + 1000000000 ^ (j + 1) * K.lv (xs.drop (j + 1)) + K.lv ys ∧ (∀ z ∈ zs ++ [x + 1000000000 - y - bw], z < 1000000000)) := by
          refine hid ⟨by simp [i1], ?_, ?_⟩
          · rw [lv_snoc, i1]
            rw [ex, ey] at i2
            exact less_step _ _ _ _ _ _ _ _ _ _ _ i2 (by omega)
          · intro z hz
            rcases List.mem_append.1 hz with h | h
            · exact i3 z h
            · obtain rfl := List.mem_singleton.1 h
              omega
        have HE3 : Hid (I64s (zs ++ [x + 1000000000 - y - bw]) = I64s zs ++ [.int .i64 ((x : Int) - (y : Int) - (bw : Int) + 1000000000)]) := hid (by simp [I64s]; omega)
        clear i1 i2 i3 ex ey hinv
        go_wp2_with fail
        go_quiet ((go_at_call 57; exact Calls.quiet_of_same ((part_at B k2 c2 ys j _ (HB.out.ext (hex.drewN _)) LB.out DY).mono fun _ _ ⟨a, b⟩ => ⟨a, b.symm⟩)))
        generalize hwd : World.drewN wr _ = wd
        have hexd : Ext w wd := hwd ▸ hex.drewN _
        have hownd : wd.ownsRow w.heap.size 3 1 (.slice A3 j c3) j (I64s zs) := by rw [← hwd]; exact HOWN.out
        have HOWND := hid hownd
        have hszd : w.heap.size ≤ wd.heap.size := hexd.size
        clear hwd hownd HOWN hx hex hsz
        go_wp2_with (at_builtin; refine wpList_append_own _ rfl _ _ 29 rfl w.heap.size 3 i0 (.int .i64 0) 1 8 Tryd.underlying29 hi hz0 hz1 hz2 rfl (by decide) _ _ _ rfl (HOWND.out.alloc _) ⟨wd.heap.size, 0, none⟩ 1 1 [_] rfl rfl (cell_one_new _ _ _) (fun u hu => by simp at hu; subst hu; rfl) ?q1 ?q2 ?q3 ?_)
        case q1 => unfold maxLen; omega
        case q2 => omega
        case q3 => first | omega | (simp; omega)
        intro v' w1 hown' hgrow hnil
        rw [← HE3.out] at hown'
        obtain ⟨g, cap, sp, rfl, hg, hc1, hc2, hrow1, hvl, hsl⟩ := own_form hown' (by omega)
        have hex' : Ext w w1 := (hexd.alloc' _).grown hgrow (by simp; omega) (by
          intro k hk
          exact (HOWND.out.lt k hk).1)
        have hsz' : w.heap.size ≤ w1.heap.size := hex'.size
        have HO := hid hown'
        clear hown' hgrow hnil hrow1 hvl hsl hg hc1 hc2
        go_wp2
        go_roundw
        case rel => exact ⟨j + 1, 1, zs ++ [x + 1000000000 - y - bw], _, _, rfl, by simp, by simp, by omega, by omega, HO.out, hex', hsz', HINV⟩
        case measure => simp [intOf]; omega
      · have hng : ¬ (x : Int) - (y : Int) - (bw : Int) < 0 := by omega
        have HINV : Hid ((zs ++ [x - y - bw]).length = j + 1 ∧ K.lv xs + 1000000000 ^ (j + 1) * (0 + K.lv (ys.drop (j + 1))) = K.lv (zs ++ [x - y - bw]) + 1000000000 ^ (j + 1) * K.lv (xs.drop (j + 1)) + K.lv ys ∧ (∀ z ∈ zs ++ [x - y - bw], z < 1000000000)) := by
          refine hid ⟨by simp [i1], ?_, ?_⟩
          · rw [lv_snoc, i1]
            rw [ex, ey] at i2
            exact less_step _ _ _ _ _ _ _ _ _ _ _ i2 (by omega)
          · intro z hz
            rcases List.mem_append.1 hz with h | h
            · exact i3 z h
            · obtain rfl := List.mem_singleton.1 h
              omega
        have HE3 : Hid (I64s (zs ++ [x - y - bw]) = I64s zs ++ [.int .i64 ((x : Int) - (y : Int) - (bw : Int))]) := hid (by simp [I64s]; omega)
        clear i1 i2 i3 ex ey hinv
        go_wp2_with fail
        go_quiet ((go_at_call 57; exact Calls.quiet_of_same ((part_at B k2 c2 ys j _ (HB.out.ext (hex.drewN _)) LB.out DY).mono fun _ _ ⟨a, b⟩ => ⟨a, b.symm⟩)))
        generalize hwd : World.drewN wr _ = wd
        have hexd : Ext w wd := hwd ▸ hex.drewN _
        have hownd : wd.ownsRow w.heap.size 3 1 (.slice A3 j c3) j (I64s zs) := by rw [← hwd]; exact HOWN.out
        have HOWND := hid hownd
        have hszd : w.heap.size ≤ wd.heap.size := hexd.size
        clear hwd hownd HOWN hx hex hsz
        go_wp2_with (at_builtin; refine wpList_append_own _ rfl _ _ 29 rfl w.heap.size 3 i0 (.int .i64 0) 1 8 Tryd.underlying29 hi hz0 hz1 hz2 rfl (by decide) _ _ _ rfl (HOWND.out.alloc _) ⟨wd.heap.size, 0, none⟩ 1 1 [_] rfl rfl (cell_one_new _ _ _) (fun u hu => by simp at hu; subst hu; rfl) ?q1 ?q2 ?q3 ?_)
        case q1 => unfold maxLen; omega
        case q2 => omega
        case q3 => first | omega | (simp; omega)
        intro v' w1 hown' hgrow hnil
        rw [← HE3.out] at hown'
        obtain ⟨g, cap, sp, rfl, hg, hc1, hc2, hrow1, hvl, hsl⟩ := own_form hown' (by omega)
        have hex' : Ext w w1 := (hexd.alloc' _).grown hgrow (by simp; omega) (by
          intro k hk
          exact (HOWND.out.lt k hk).1)
        have hsz' : w.heap.size ≤ w1.heap.size := hex'.size
        have HO := hid hown'
        clear hown' hgrow hnil hrow1 hvl hsl hg hc1 hc2
        go_wp2
        go_roundw
        case rel => exact ⟨j + 1, 0, zs ++ [x - y - bw], _, _, rfl, by simp, by simp, by omega, by omega, HO.out, hex', hsz', HINV⟩
        case measure => simp [intOf]; omega
    · obtain rfl : j = k1 := by omega
      have hfin : Parts (K.lv xs - K.lv ys) w (.returned (.slice A3 j c3)) wr := by
        obtain ⟨i1, i2, i3⟩ := hinv.out
        refine ⟨A3, j, c3, zs, rfl, i1, ?_, by omega, Rd.of_own HOWN.out, i3, ?_, hex⟩
        · rcases HOWN.out.2 with ⟨h, h0⟩ | ⟨g, cap, cur, h, hg, hh, hc, _⟩
          · injection h with h1 h2 h3; omega
          · injection h with h1 h2 h3; omega
        · rw [List.drop_of_length_le (by rw [LB.out]; omega), List.drop_of_length_le (by rw [LA.out]; omega)] at i2
          have hz := K.lv_lt zs i3
          rw [i1] at hz
          have hg := HGE.out
          have hb0 : bw = 0 := by
            rcases Nat.eq_zero_or_pos bw with h | h
            · exact h
            · obtain rfl : bw = 1 := by omega
              simp [K.lv] at i2
              omega
          subst hb0
          simp [K.lv] at i2
          omega
      have HF := hid hfin
      clear hfin
      go_wp2
      go_ret
      exact HF.out
end Go.Proofs.YtoilkfohhhidpaaDoor
/- plain facts on lists of parts: a part that is set; products, quotients and digits by rounds -/
namespace Go.Proofs.YtoilkfohhhidpaaDoor
theorem lv_set : ∀ (xs : List Nat) (j v : Nat), j < xs.length → K.lv (xs.set j v) + 1000000000 ^ j * xs.getD j 0 = K.lv xs + 1000000000 ^ j * v
  | [], j, v, h => by simp at h
  | x :: r, 0, v, _ => by simp [K.lv]; omega
  | x :: r, j + 1, v, h => by
    have ih := lv_set r j v (by simpa using h)
    have e1 : 1000000000 ^ j * 1000000000 * r.getD j 0 = 1000000000 * (1000000000 ^ j * r.getD j 0) := by rw [Nat.mul_comm (1000000000 ^ j), Nat.mul_assoc]
    have e2 : 1000000000 ^ j * 1000000000 * v = 1000000000 * (1000000000 ^ j * v) := by rw [Nat.mul_comm (1000000000 ^ j), Nat.mul_assoc]
    simp only [List.set_cons_succ, List.getD_cons_succ, K.lv, Nat.pow_succ, e1, e2]
    omega
/-- one round of a product -/
theorem mul_step {Os : List Nat} {p c x y Y' T o s : Nat} (hp : p < Os.length) (ho : Os.getD p 0 = o) (hs : s = o + x * y + c) (h : K.lv Os + 1000000000 ^ p * (c + x * (y + 1000000000 * Y')) = T) :
    K.lv (Os.set p (s % 1000000000)) + 1000000000 ^ (p + 1) * (s / 1000000000 + x * Y') = T := by
  have h1 := lv_set Os p (s % 1000000000) hp
  rw [ho] at h1
  have h2 : 1000000000 ^ p * (s % 1000000000) + 1000000000 ^ p * 1000000000 * (s / 1000000000) = 1000000000 ^ p * s := by
    rw [Nat.mul_assoc, ← Nat.mul_add, Nat.mod_add_div]
  have h3 : 1000000000 ^ p * s = 1000000000 ^ p * o + 1000000000 ^ p * (x * y) + 1000000000 ^ p * c := by rw [hs, Nat.mul_add, Nat.mul_add]
  have h4 : x * (1000000000 * Y') = 1000000000 * (x * Y') := by rw [← Nat.mul_assoc, Nat.mul_comm x, Nat.mul_assoc]
  rw [Nat.mul_add x, h4, Nat.mul_add, Nat.mul_add, ← Nat.mul_assoc (1000000000 ^ p) 1000000000] at h
  rw [Nat.pow_succ, Nat.mul_add]
  omega
theorem lv_take_at {xs : List Nat} {i x : Nat} (h : xs[i]? = some x) : K.lv (xs.take (i + 1)) = K.lv (xs.take i) + 1000000000 ^ i * x := by
  obtain ⟨hi, e⟩ := List.getElem?_eq_some_iff.1 h
  rw [List.take_succ_eq_append_getElem hi, e, lv_snoc, List.length_take, Nat.min_eq_left (by omega)]
theorem set_lt {xs : List Nat} (h : ∀ x ∈ xs, x < 1000000000) {j v : Nat} (hv : v < 1000000000) : ∀ x ∈ xs.set j v, x < 1000000000 := by
  intro x hx
  rcases List.mem_or_eq_of_mem_set hx with h1 | h1
  · exact h x h1
  · omega
theorem lv_lt' (xs : List Nat) (h : ∀ x ∈ xs, x < 1000000000) : K.lv xs < 1000000000 ^ xs.length := K.lv_lt xs h
/-- where a carry is left, the place lies within the row -/
theorem mul_place {L p c Y T i m a b : Nat} (h : L + 1000000000 ^ p * (c + Y) = T) (hc : 0 < c) (hT : T = a * b) (ha : a < 1000000000 ^ i) (hb : b < 1000000000 ^ m) : p < i + m := by
  have h1 : 1000000000 ^ p ≤ 1000000000 ^ p * (c + Y) := Nat.le_mul_of_pos_right _ (by omega)
  have h2 : a * b < 1000000000 ^ i * 1000000000 ^ m := Nat.mul_lt_mul'' ha hb
  rw [← Nat.pow_add] at h2
  rcases Nat.lt_or_ge p (i + m) with h | h
  · exact h
  · have := Nat.pow_le_pow_right (n := 1000000000) (by omega) h
    omega
end Go.Proofs.YtoilkfohhhidpaaDoor
/- the reference's Minus -/
namespace Go.Proofs.YtoilkfohhhidpaaDoor
open Go.RowKit
set_option maxRecDepth 100000 in
set_option maxHeartbeats 1600000 in
theorem rminus_any (v : Value) (n : Int) (w : World) (h : RefV w v n) : Calls Tryd.prog 56 #[v] w (RefPost (-n) w) := by
  obtain ⟨A, k, c, xs, b, rfl, hbn, hl, hkc, hr, hL, hv⟩ := h
  have hk : k = 0 ↔ n = 0 := by
    have := hL.zero_iff
    rw [hv, ← List.length_eq_zero_iff, hl] at this
    rw [← this]; omega
  have hfin : ∀ b' w', Ext w w' → b' = decide (-n < 0) → RefPost (-n) w (.returned (.agg #[.bool b', .slice A k c])) w' := fun b' w' e hb =>
    ⟨_, rfl, ⟨A, k, c, xs, b', rfl, hid hb, hl, hkc, hr.ext e, hL, by rw [hv, Int.natAbs_neg]⟩, e⟩
  have HF := hid hfin
  have HB := hbn.out
  clear hfin hl hkc hr hL hv hbn
  cases b with
  | true =>
    have hn : n < 0 := by simpa using HB.symm
    have hd : Hid (false = decide (-n < 0)) := hid (decide_eq_false (by omega)).symm
    clear HB hn hk
    go_enter Tryd.func56, Tryd.ntmps56
    go_wp2
    refine bodyPost_ret (v := .agg #[.bool false, .slice A k c]) (by simp [results, Tryd.results56, go_sem]) rfl (HF.out false _ ?_ hd.out)
    exact ((Ext.rfl' w).alloc' _).alloc' _
  | false =>
    have hn : ¬ n < 0 := by simpa using HB.symm
    by_cases h0 : 0 < k
    · have hd : Hid (true = decide (-n < 0)) := hid (decide_eq_true (by omega)).symm
      clear HB hn hk
      go_enter Tryd.func56, Tryd.ntmps56
      go_wp2
      refine bodyPost_ret (v := .agg #[.bool true, .slice A k c]) (by simp [results, Tryd.results56, go_sem]) rfl (HF.out true _ ?_ hd.out)
      exact ((Ext.rfl' w).alloc' _).alloc' _
    · have hd : Hid (false = decide (-n < 0)) := hid (decide_eq_false (by omega)).symm
      clear HB hn hk
      go_enter Tryd.func56, Tryd.ntmps56
      go_wp2
      refine bodyPost_ret (v := .agg #[.bool false, .slice A k c]) (by simp [results, Tryd.results56, go_sem]) rfl (HF.out false _ ?_ hd.out)
      exact ((Ext.rfl' w).alloc' _).alloc' _
end Go.Proofs.YtoilkfohhhidpaaDoor
/- the reference's Add -/
namespace Go.Proofs.YtoilkfohhhidpaaDoor
open Go.RowKit
theorem RefV.two {w : World} {A1 : Option Addr} {H k1 c1 : Nat} {t : TypeId} {x : Bool} {a b : Value} {A : Option Addr} {xs : List Nat} (h : Rd w A (I64s xs)) (r : Row w H t [.bool x, .slice A1 k1 c1]) :
    Rd ((w.setCell ⟨H, 0, none⟩ a).setCell ⟨H, 1, none⟩ b) A (I64s xs) :=
  h.two (by intro u hu; obtain ⟨y, _, rfl⟩ := List.mem_map.1 hu; exact ⟨_, _, rfl⟩) r
set_option maxRecDepth 100000 in
set_option maxHeartbeats 1600000 in
theorem radd_same (A B : Option Addr) (ka ca kb cb : Nat) (na : Bool) (xs ys : List Nat) (m : Int) (w : World) (ha : Rd w A (I64s xs)) (hb : Rd w B (I64s ys)) (la : xs.length = ka) (lb : ys.length = kb)
    (hx : ∀ x ∈ xs, x < 1000000000) (hy : ∀ y ∈ ys, y < 1000000000) (b1 : ka ≤ 100000) (b2 : kb ≤ 100000) (hm : m.natAbs = K.lv xs + K.lv ys) (hs : na = decide (m < 0)) :
    Calls Tryd.prog 17 #[.agg #[.bool na, .slice A ka ca], .agg #[.bool na, .slice B kb cb]] w (RefPost m w) := by
  have HM := hid hm
  have HS := hid hs
  have HX := hid hx
  have HY := hid hy
  clear hm hs hx hy
  have hq : (na == na) = true := by simp
  have hW2 : Ext w ((w.alloc (.cells #[.bool na, .slice A ka ca] 31)).alloc (.cells #[.bool na, .slice B kb cb] 31)) := ((Ext.rfl' w).alloc' _).alloc' _
  have hW3 : Ext w (((w.alloc (.cells #[.bool na, .slice A ka ca] 31)).alloc (.cells #[.bool na, .slice B kb cb] 31)).alloc (.cells #[.bool false, .slice none 0 0] 31)) := hW2.alloc' _
  have hk : ∀ w', Ext (((w.alloc (.cells #[.bool na, .slice A ka ca] 31)).alloc (.cells #[.bool na, .slice B kb cb] 31)).alloc (.cells #[.bool false, .slice none 0 0] 31)) w' →
      w'.cell? ⟨w.heap.size, 0, none⟩ = some (.bool na) ∧ w'.cell? ⟨w.heap.size, 1, none⟩ = some (.slice A ka ca) ∧ w'.cell? ⟨w.heap.size + 1, 0, none⟩ = some (.bool na) ∧ w'.cell? ⟨w.heap.size + 1, 1, none⟩ = some (.slice B kb cb) := by
    intro w' e
    have h1 := two_facts (W := w) (H := w.heap.size) (t := 31) (a := .bool na) (b := .slice A ka ca) (Ext.step (((Ext.rfl' _).alloc' _).alloc' _) e) rfl
    have h2 := two_facts (W := (w.alloc (.cells #[.bool na, .slice A ka ca] 31))) (H := w.heap.size + 1) (t := 31) (a := .bool na) (b := .slice B kb cb) (Ext.step ((Ext.rfl' _).alloc' _) e) (by simp)
    exact ⟨h1.1, h1.2.1, h2.1, h2.2.1⟩
  have ht : ∀ w', Ext (((w.alloc (.cells #[.bool na, .slice A ka ca] 31)).alloc (.cells #[.bool na, .slice B kb cb] 31)).alloc (.cells #[.bool false, .slice none 0 0] 31)) w' → _ :=
    fun w' e => two_facts (H := w.heap.size + 1 + 1) e (by simp)
  have HT := hid ht
  have hne1 : ¬ (w.heap.size + 1 + 1 = w.heap.size) := by omega
  have hne2 : ¬ (w.heap.size = w.heap.size + 1 + 1) := by omega
  have HK := hid hk
  have HW3 := hid hW3
  have HW2 := hid hW2
  clear hk hW3 hW2 ht
  go_enter Tryd.func17, Tryd.ntmps17
  go_wp2_with fail
  go_region_held3 (fun w' => w'.cell? ⟨w.heap.size, 0, none⟩ = some (.bool na) ∧ w'.cell? ⟨w.heap.size, 1, none⟩ = some (.slice A ka ca) ∧ w'.cell? ⟨w.heap.size + 1, 0, none⟩ = some (.bool na) ∧ w'.cell? ⟨w.heap.size + 1, 1, none⟩ = some (.slice B kb cb))
    (first | go_keep | exact HK.out _ hx4' | exact HK.out _ hx3')
    (first
      | (go_at_call 53; refine (more_any A B ka ca kb cb xs ys _ (ha.ext ?_) (hb.ext ?_) la lb HX.out HY.out b1 b2).mono ?_; (first | exact HW3.out | exact HW3.out.drew'); (first | exact HW3.out | exact HW3.out.drew'); rintro e w3 ⟨A3, k3, c3', zs, rfl, z1, z2, z3, z4, z5, z6, hx3⟩; have hx3' := Ext.undrew hx3)
      | (go_at_call 51; refine (rtrim_any na A3 c3' k3 zs _ (z4.ext ?_) z1 (by omega) z2).mono ?_; (first | exact Ext.rfl' _ | exact (Ext.rfl' _).drew'); rintro e w4 ⟨k4, b4, hk4, rfl, hb4, hcut, hx4⟩; have hx4' := Ext.step hx3' (by first | exact hx4 | exact Ext.undrew hx4); obtain ⟨c0, c1, f0, f1, hl, _⟩ := HT.out _ hx4'))
  have hfin : RefPost m w (.returned (.agg #[.bool b4, .slice A3 k4 c3'])) ((w4.setCell ⟨w.heap.size + 1 + 1, 0, none⟩ (.bool b4)).setCell ⟨w.heap.size + 1 + 1, 1, none⟩ (.slice A3 k4 c3')) := by
    have r := (HT.out _ hx4').2.2.2.2.2
    have e4 : Ext w w4 := HW3.out.step hx4'
    refine ⟨_, rfl, ⟨A3, k4, c3', zs.take k4, b4, rfl, ?_, by rw [List.length_take]; omega, by omega, ?_, hcut.lim z5, by rw [hcut.lv, z6, HM.out]⟩, (e4.set' (by show _ ≤ w.heap.size + 1 + 1; omega) _).set' (by show _ ≤ w.heap.size + 1 + 1; omega) _⟩
    · refine hid ?_
      rw [hb4.out, HS.out]
      by_cases hm : m < 0
      · have hk4 : 0 < k4 := by
          rcases Nat.eq_zero_or_pos k4 with h | h
          · exfalso
            have := hcut.lv
            rw [h, z6, ← HM.out] at this
            simp [K.lv] at this
            omega
          · exact h
        simp [hm, hk4]
      · simp [hm]
    · rw [show I64s (zs.take k4) = (I64s zs).take k4 from List.map_take ..]
      refine Rd.two ((z4.ext (by first | exact hx4 | exact Ext.undrew hx4)).take k4) ?_ r
      intro u hu
      obtain ⟨y, _, rfl⟩ := List.mem_map.1 (List.mem_of_mem_take hu)
      exact ⟨_, _, rfl⟩
  have HF := hid hfin
  clear hfin
  go_wp2
  refine bodyPost_ret (v := .agg #[.bool b4, .slice A3 k4 c3']) (by simp [results, Tryd.results17, go_sem, c0, c1]) rfl HF.out
set_option maxRecDepth 100000 in
set_option maxHeartbeats 1600000 in
theorem radd_ge (A B : Option Addr) (ka ca kb cb : Nat) (na nb : Bool) (xs ys : List Nat) (m : Int) (w : World) (ha : Rd w A (I64s xs)) (hb : Rd w B (I64s ys)) (la : xs.length = ka) (lb : ys.length = kb)
    (hx : ∀ x ∈ xs, x < 1000000000) (hy : ∀ y ∈ ys, y < 1000000000) (b1 : ka ≤ 100000) (b2 : kb ≤ 100000) (hne : na ≠ nb) (hge : K.lv ys ≤ K.lv xs) (hkk : kb ≤ ka) (sv : Int) (hsv : Hid ((if ka = kb then cmpL xs ys else sgn ka kb) = sv)) (hs0 : 0 ≤ sv) (hm : m.natAbs = K.lv xs - K.lv ys) (hs : m ≠ 0 → na = decide (m < 0)) :
    Calls Tryd.prog 17 #[.agg #[.bool na, .slice A ka ca], .agg #[.bool nb, .slice B kb cb]] w (RefPost m w) := by
  have HM := hid hm
  have HS := hid hs
  have HX := hid hx
  have HY := hid hy
  have HGE := hid hge
  clear hm hs hx hy hge
  have hq : (na == nb) = false := by simpa using hne
  have hW2 : Ext w ((w.alloc (.cells #[.bool na, .slice A ka ca] 31)).alloc (.cells #[.bool nb, .slice B kb cb] 31)) := ((Ext.rfl' w).alloc' _).alloc' _
  have hW3 : Ext w (((w.alloc (.cells #[.bool na, .slice A ka ca] 31)).alloc (.cells #[.bool nb, .slice B kb cb] 31)).alloc (.cells #[.bool false, .slice none 0 0] 31)) := hW2.alloc' _
  have hk : ∀ w', Ext (((w.alloc (.cells #[.bool na, .slice A ka ca] 31)).alloc (.cells #[.bool nb, .slice B kb cb] 31)).alloc (.cells #[.bool false, .slice none 0 0] 31)) w' →
      w'.cell? ⟨w.heap.size, 0, none⟩ = some (.bool na) ∧ w'.cell? ⟨w.heap.size, 1, none⟩ = some (.slice A ka ca) ∧ w'.cell? ⟨w.heap.size + 1, 0, none⟩ = some (.bool nb) ∧ w'.cell? ⟨w.heap.size + 1, 1, none⟩ = some (.slice B kb cb) := by
    intro w' e
    have h1 := two_facts (W := w) (H := w.heap.size) (t := 31) (a := .bool na) (b := .slice A ka ca) (Ext.step (((Ext.rfl' _).alloc' _).alloc' _) e) rfl
    have h2 := two_facts (W := (w.alloc (.cells #[.bool na, .slice A ka ca] 31))) (H := w.heap.size + 1) (t := 31) (a := .bool nb) (b := .slice B kb cb) (Ext.step ((Ext.rfl' _).alloc' _) e) (by simp)
    exact ⟨h1.1, h1.2.1, h2.1, h2.2.1⟩
  have ht : ∀ w', Ext (((w.alloc (.cells #[.bool na, .slice A ka ca] 31)).alloc (.cells #[.bool nb, .slice B kb cb] 31)).alloc (.cells #[.bool false, .slice none 0 0] 31)) w' → _ :=
    fun w' e => two_facts (H := w.heap.size + 1 + 1) e (by simp)
  have HT := hid ht
  have hne1 : ¬ (w.heap.size + 1 + 1 = w.heap.size) := by omega
  have hne2 : ¬ (w.heap.size = w.heap.size + 1 + 1) := by omega
  have HK := hid hk
  have HW3 := hid hW3
  have HW2 := hid hW2
  clear hk hW3 hW2 ht
  go_enter Tryd.func17, Tryd.ntmps17
  go_wp2_with fail
  refine (size_any A B ca cb ka kb xs ys _ (ha.ext HW3.out) (hb.ext HW3.out) la lb (by omega) (by omega)).mono ?_
  rintro e w2 ⟨rfl, hdr⟩
  rw [hsv.out]
  have HE2 := hid hdr.ext
  obtain ⟨k0, k1, k2, k3⟩ := HK.out _ hdr.ext
  clear hdr
  go_wp2_with fail
  go_region_held3 (fun w' => w'.cell? ⟨w.heap.size, 0, none⟩ = some (.bool na) ∧ w'.cell? ⟨w.heap.size, 1, none⟩ = some (.slice A ka ca) ∧ w'.cell? ⟨w.heap.size + 1, 0, none⟩ = some (.bool nb) ∧ w'.cell? ⟨w.heap.size + 1, 1, none⟩ = some (.slice B kb cb))
    (first | go_keep | exact HK.out _ (Ext.step HE2.out hx4') | exact HK.out _ (Ext.step HE2.out hx3'))
    (first
      | (go_at_call 55; refine (less_any A B ka ca kb cb xs ys _ (ha.ext ?_) (hb.ext ?_) la lb HX.out HY.out b1 hkk HGE.out).mono ?_; (first | exact HW3.out.step HE2.out | exact (HW3.out.step HE2.out).drew'); (first | exact HW3.out.step HE2.out | exact (HW3.out.step HE2.out).drew'); rintro e w3 ⟨A3, k3, c3', zs, rfl, z1, z2, z3, z4, z5, z6, hx3⟩; have hx3' := Ext.undrew hx3)
      | (go_at_call 51; refine (rtrim_any na A3 c3' k3 zs _ (z4.ext ?_) z1 (by omega) z2).mono ?_; (first | exact Ext.rfl' _ | exact (Ext.rfl' _).drew'); rintro e w4 ⟨k4, b4, hk4, rfl, hb4, hcut, hx4⟩; have hx4' := Ext.step hx3' (by first | exact hx4 | exact Ext.undrew hx4); obtain ⟨c0, c1, f0, f1, hl, _⟩ := HT.out _ (Ext.step HE2.out hx4')))
  have hfin : RefPost m w (.returned (.agg #[.bool b4, .slice A3 k4 c3'])) ((w4.setCell ⟨w.heap.size + 1 + 1, 0, none⟩ (.bool b4)).setCell ⟨w.heap.size + 1 + 1, 1, none⟩ (.slice A3 k4 c3')) := by
    have r := (HT.out _ (Ext.step HE2.out hx4')).2.2.2.2.2
    have e4 : Ext w w4 := (HW3.out.step HE2.out).step hx4'
    refine ⟨_, rfl, ⟨A3, k4, c3', zs.take k4, b4, rfl, ?_, by rw [List.length_take]; omega, by omega, ?_, hcut.lim z5, by rw [hcut.lv, z6, HM.out]⟩, (e4.set' (by show _ ≤ w.heap.size + 1 + 1; omega) _).set' (by show _ ≤ w.heap.size + 1 + 1; omega) _⟩
    · refine hid ?_
      rw [hb4.out]
      by_cases hm : m < 0
      · have hk4 : 0 < k4 := by
          rcases Nat.eq_zero_or_pos k4 with h | h
          · exfalso
            have := hcut.lv
            rw [h, z6, ← HM.out] at this
            simp [K.lv] at this
            omega
          · exact h
        rw [HS.out (by omega)]; simp [hm, hk4]
      · by_cases h0 : m = 0
        · have hk4 : k4 = 0 := by
            have h1 := (hcut.lim z5).zero_iff.1 (by rw [hcut.lv, z6, ← HM.out, h0]; rfl)
            rcases List.take_eq_nil_iff.1 h1 with h | h
            · exact h
            · rw [h] at hk4; simpa using hk4
          subst hk4 h0; simp
        · rw [HS.out h0]; simp [hm]
    · rw [show I64s (zs.take k4) = (I64s zs).take k4 from List.map_take ..]
      refine Rd.two ((z4.ext (by first | exact hx4 | exact Ext.undrew hx4)).take k4) ?_ r
      intro u hu
      obtain ⟨y, _, rfl⟩ := List.mem_map.1 (List.mem_of_mem_take hu)
      exact ⟨_, _, rfl⟩
  have HF := hid hfin
  clear hfin
  go_wp2
  refine bodyPost_ret (v := .agg #[.bool b4, .slice A3 k4 c3']) (by simp [results, Tryd.results17, go_sem, c0, c1]) rfl HF.out
set_option maxRecDepth 100000 in
set_option maxHeartbeats 1600000 in
theorem radd_lt (A B : Option Addr) (ka ca kb cb : Nat) (na nb : Bool) (xs ys : List Nat) (m : Int) (w : World) (ha : Rd w A (I64s xs)) (hb : Rd w B (I64s ys)) (la : xs.length = ka) (lb : ys.length = kb)
    (hx : ∀ x ∈ xs, x < 1000000000) (hy : ∀ y ∈ ys, y < 1000000000) (b1 : ka ≤ 100000) (b2 : kb ≤ 100000) (hne : na ≠ nb) (hge : K.lv xs ≤ K.lv ys) (hkk : ka ≤ kb) (sv : Int) (hsv : Hid ((if ka = kb then cmpL xs ys else sgn ka kb) = sv)) (hs0 : ¬ 0 ≤ sv) (hm : m.natAbs = K.lv ys - K.lv xs) (hs : m ≠ 0 → nb = decide (m < 0)) :
    Calls Tryd.prog 17 #[.agg #[.bool na, .slice A ka ca], .agg #[.bool nb, .slice B kb cb]] w (RefPost m w) := by
  have HM := hid hm
  have HS := hid hs
  have HX := hid hx
  have HY := hid hy
  have HGE := hid hge
  clear hm hs hx hy hge
  have hq : (na == nb) = false := by simpa using hne
  have hW2 : Ext w ((w.alloc (.cells #[.bool na, .slice A ka ca] 31)).alloc (.cells #[.bool nb, .slice B kb cb] 31)) := ((Ext.rfl' w).alloc' _).alloc' _
  have hW3 : Ext w (((w.alloc (.cells #[.bool na, .slice A ka ca] 31)).alloc (.cells #[.bool nb, .slice B kb cb] 31)).alloc (.cells #[.bool false, .slice none 0 0] 31)) := hW2.alloc' _
  have hk : ∀ w', Ext (((w.alloc (.cells #[.bool na, .slice A ka ca] 31)).alloc (.cells #[.bool nb, .slice B kb cb] 31)).alloc (.cells #[.bool false, .slice none 0 0] 31)) w' →
      w'.cell? ⟨w.heap.size, 0, none⟩ = some (.bool na) ∧ w'.cell? ⟨w.heap.size, 1, none⟩ = some (.slice A ka ca) ∧ w'.cell? ⟨w.heap.size + 1, 0, none⟩ = some (.bool nb) ∧ w'.cell? ⟨w.heap.size + 1, 1, none⟩ = some (.slice B kb cb) := by
    intro w' e
    have h1 := two_facts (W := w) (H := w.heap.size) (t := 31) (a := .bool na) (b := .slice A ka ca) (Ext.step (((Ext.rfl' _).alloc' _).alloc' _) e) rfl
    have h2 := two_facts (W := (w.alloc (.cells #[.bool na, .slice A ka ca] 31))) (H := w.heap.size + 1) (t := 31) (a := .bool nb) (b := .slice B kb cb) (Ext.step ((Ext.rfl' _).alloc' _) e) (by simp)
    exact ⟨h1.1, h1.2.1, h2.1, h2.2.1⟩
  have ht : ∀ w', Ext (((w.alloc (.cells #[.bool na, .slice A ka ca] 31)).alloc (.cells #[.bool nb, .slice B kb cb] 31)).alloc (.cells #[.bool false, .slice none 0 0] 31)) w' → _ :=
    fun w' e => two_facts (H := w.heap.size + 1 + 1) e (by simp)
  have HT := hid ht
  have hne1 : ¬ (w.heap.size + 1 + 1 = w.heap.size) := by omega
  have hne2 : ¬ (w.heap.size = w.heap.size + 1 + 1) := by omega
  have HK := hid hk
  have HW3 := hid hW3
  have HW2 := hid hW2
  clear hk hW3 hW2 ht
  go_enter Tryd.func17, Tryd.ntmps17
  go_wp2_with fail
  refine (size_any A B ca cb ka kb xs ys _ (ha.ext HW3.out) (hb.ext HW3.out) la lb (by omega) (by omega)).mono ?_
  rintro e w2 ⟨rfl, hdr⟩
  rw [hsv.out]
  have HE2 := hid hdr.ext
  obtain ⟨k0, k1, k2, k3⟩ := HK.out _ hdr.ext
  clear hdr
  go_wp2_with fail
  go_region_held3 (fun w' => w'.cell? ⟨w.heap.size, 0, none⟩ = some (.bool na) ∧ w'.cell? ⟨w.heap.size, 1, none⟩ = some (.slice A ka ca) ∧ w'.cell? ⟨w.heap.size + 1, 0, none⟩ = some (.bool nb) ∧ w'.cell? ⟨w.heap.size + 1, 1, none⟩ = some (.slice B kb cb))
    (first | go_keep | exact HK.out _ (Ext.step HE2.out hx4') | exact HK.out _ (Ext.step HE2.out hx3'))
    (first
      | (go_at_call 55; refine (less_any B A kb cb ka ca ys xs _ (hb.ext ?_) (ha.ext ?_) lb la HY.out HX.out b2 hkk HGE.out).mono ?_; (first | exact HW3.out.step HE2.out | exact (HW3.out.step HE2.out).drew'); (first | exact HW3.out.step HE2.out | exact (HW3.out.step HE2.out).drew'); rintro e w3 ⟨A3, k3, c3', zs, rfl, z1, z2, z3, z4, z5, z6, hx3⟩; have hx3' := Ext.undrew hx3)
      | (go_at_call 51; refine (rtrim_any nb A3 c3' k3 zs _ (z4.ext ?_) z1 (by omega) z2).mono ?_; (first | exact Ext.rfl' _ | exact (Ext.rfl' _).drew'); rintro e w4 ⟨k4, b4, hk4, rfl, hb4, hcut, hx4⟩; have hx4' := Ext.step hx3' (by first | exact hx4 | exact Ext.undrew hx4); obtain ⟨c0, c1, f0, f1, hl, _⟩ := HT.out _ (Ext.step HE2.out hx4')))
  have hfin : RefPost m w (.returned (.agg #[.bool b4, .slice A3 k4 c3'])) ((w4.setCell ⟨w.heap.size + 1 + 1, 0, none⟩ (.bool b4)).setCell ⟨w.heap.size + 1 + 1, 1, none⟩ (.slice A3 k4 c3')) := by
    have r := (HT.out _ (Ext.step HE2.out hx4')).2.2.2.2.2
    have e4 : Ext w w4 := (HW3.out.step HE2.out).step hx4'
    refine ⟨_, rfl, ⟨A3, k4, c3', zs.take k4, b4, rfl, ?_, by rw [List.length_take]; omega, by omega, ?_, hcut.lim z5, by rw [hcut.lv, z6, HM.out]⟩, (e4.set' (by show _ ≤ w.heap.size + 1 + 1; omega) _).set' (by show _ ≤ w.heap.size + 1 + 1; omega) _⟩
    · refine hid ?_
      rw [hb4.out]
      by_cases hm : m < 0
      · have hk4 : 0 < k4 := by
          rcases Nat.eq_zero_or_pos k4 with h | h
          · exfalso
            have := hcut.lv
            rw [h, z6, ← HM.out] at this
            simp [K.lv] at this
            omega
          · exact h
        rw [HS.out (by omega)]; simp [hm, hk4]
      · by_cases h0 : m = 0
        · have hk4 : k4 = 0 := by
            have h1 := (hcut.lim z5).zero_iff.1 (by rw [hcut.lv, z6, ← HM.out, h0]; rfl)
            rcases List.take_eq_nil_iff.1 h1 with h | h
            · exact h
            · rw [h] at hk4; simpa using hk4
          subst hk4 h0; simp
        · rw [HS.out h0]; simp [hm]
    · rw [show I64s (zs.take k4) = (I64s zs).take k4 from List.map_take ..]
      refine Rd.two ((z4.ext (by first | exact hx4 | exact Ext.undrew hx4)).take k4) ?_ r
      intro u hu
      obtain ⟨y, _, rfl⟩ := List.mem_map.1 (List.mem_of_mem_take hu)
      exact ⟨_, _, rfl⟩
  have HF := hid hfin
  clear hfin
  go_wp2
  refine bodyPost_ret (v := .agg #[.bool b4, .slice A3 k4 c3']) (by simp [results, Tryd.results17, go_sem, c0, c1]) rfl HF.out
end Go.Proofs.YtoilkfohhhidpaaDoor
