/- Joined texts: (natural).times; num.takeAway, num.putBack. -/
import Derived.Test.YtoilkfohhhidpaaDoorJCNumSums02
import Derived.Test.YtoilkfohhhidpaaDoorJCNumSums03
/- (natural).times -/
namespace Go.Proofs.YtoilkfohhhidpaaDoor
open Go.RowKit
theorem mid_at {a b rest : List Nat} {x k j : Nat} (ha : a.length = k) (hb : b.length = j) : (U64s (a ++ b ++ x :: rest))[k + j]? = some (.int .u64 (x : Int)) := by
  have h := U64s_mid (done := a ++ b) (rest := rest) (sp := []) (x := x) (k := k + j) (by simp [ha, hb])
  simpa using h
theorem mid_put {w : World} {g : Nat} {t : TypeId} {a b rest : List Nat} {x k j : Nat} (h : Row w g t (U64s (a ++ b ++ x :: rest))) (ha : a.length = k) (hb : b.length = j) (v : Nat) :
    Row (w.setCell ⟨g, k + j, none⟩ (.int .u64 (v : Int))) g t (U64s (a ++ (b ++ [v]) ++ rest)) := by
  have h1 := Row.step1 (done := a ++ b) (rest := rest) (sp := []) (x := x) (k := k + j) (by simpa using h) (by simp [ha, hb]) v
  simpa using h1

set_option maxHeartbeats 1600000 in
theorem times_l (A B : Option Addr) (ca cb n m : Nat) (xs ys : List Nat) (w : World) (ha : Rd w A (U64s xs)) (hb : Rd w B (U64s ys)) (ln : xs.length = n) (lm : ys.length = m) (hn : n ≤ 1000) (hm : m ≤ 1000)
    (bx : ∀ x ∈ xs, x < 1000000000) (by_ : ∀ y ∈ ys, y < 1000000000) :
    Calls Tryd.prog 84 #[.slice A n ca, .slice B m cb] w (SumPost (K.lv xs * K.lv ys) w) := by
  have LN := hid ln
  have LM := hid lm
  have BX := hid bx
  have BY := hid by_
  have hmk := fun w => mkNat (n + m) ((n : Int) + m) (by omega) (by omega) w
  clear bx by_ ln lm
  go_enter Tryd.func84, Tryd.ntmps84
  go_wp2
  go_loopw [19] (fun i wr => ∃ (k : Nat) (done ps : List Nat), k ≤ n ∧ i = .int .i64 k ∧ Row wr w.heap.size 91 (U64s (done ++ ps ++ List.replicate (n - k) 0)) ∧ done.length = k ∧ ps.length = m ∧ (∀ p ∈ ps, p < 1000000000) ∧
      done ++ mulL (xs.drop k) ys ps = mulL xs ys (List.replicate m 0) ∧ Ext w wr) (fun i _ => n - (intOf i).toNat)
  case atStart => exact ⟨0, [], List.replicate m 0, by omega, rfl, by
    have h := Row.made w 91 (.int .u64 0) (n + m)
    rw [U64s_zeros, show n + m = m + n by omega, ← List.replicate_append_replicate] at h
    rw [show m + n = n + m by omega] at h
    exact h, rfl, by simp, by simp, rfl, (Ext.rfl' w).alloc' _⟩
  case round =>
    obtain ⟨k, done, ps, hk, rfl, hrow, hd, hp, hpl, hinv, hext⟩ := hrel
    have HD := hid hd
    have HP := hid hp
    have HPL := hid hpl
    have HI := hid hinv
    clear hd hp hpl hinv hmk
    by_cases hlt : k < n
    · obtain ⟨b1, o1, x, eA, ex, hb1, hx⟩ := (ha.ext hext).at_ (k := k) (by rw [LN.out]; omega)
      subst eA
      have hxB := BX.out x (mem_at ex)
      have HX := hid ex
      have hz : n - k = (n - (k + 1)) + 1 := by omega
      have HZ := hid hz
      clear ex hz ha
      obtain ⟨wo, rfl⟩ : ∃ wo : World, wo = wr := ⟨_, rfl⟩
      go_wp2
      go_loopw [8, 9, 10, 26] (fun cy _ _ j wr => ∃ (j' c : Nat) (d : List Nat), j' ≤ m ∧ c < 1000000000 ∧ j = .int .i64 j' ∧ cy = .int .u64 c ∧ Row wr w.heap.size 91 (U64s (done ++ d ++ (ps.drop j' ++ 0 :: List.replicate (n - (k + 1)) 0))) ∧ d.length = j' ∧
          d ++ rowm (ps.drop j') x (ys.drop j') c = rowm ps x ys 0 ∧ Ext w wr) (fun _ _ _ j _ => m - (intOf j).toNat)
      case atStart => exact ⟨0, 0, [], by omega, by omega, rfl, rfl, by rw [HZ.out, zeros_succ] at hrow; simpa using hrow, rfl, rfl, hext⟩
      case round =>
        obtain ⟨j, c, d, hj, hc, rfl, rfl, hrow2, hd2, hinv2, hext2⟩ := hrel
        have HD2 := hid hd2
        have HI2 := hid hinv2
        clear hd2 hinv2 hrow hext
        by_cases hjm : j < m
        · obtain ⟨b2, o2, y, eB, ey, hb2, hy⟩ := (hb.ext hext2).at_ (k := j) (by rw [LM.out]; omega)
          subst eB
          have hyB := BY.out y (mem_at ey)
          have HY := hid ey
          obtain ⟨p, ep⟩ : ∃ p, ps[j]? = some p := ⟨_, List.getElem?_eq_getElem (by rw [HP.out]; omega)⟩
          have hpB := HPL.out p (mem_at ep)
          have HPE := hid ep
          rw [drop_at ep, List.cons_append] at hrow2
          have hcell : wr.cell? ⟨w.heap.size, k + j, none⟩ = some (.int .u64 p) := by rw [hrow2.cell]; exact mid_at HD.out HD2.out
          have hfree := hrow2.free (k + j)
          have hxy := prod_lt hxB hyB
          have hxy' : (x : Int) * (y : Int) ≤ 999999998000000001 := by rw [← Int.natCast_mul]; omega
          have hxy0 : 0 ≤ (x : Int) * (y : Int) := by rw [← Int.natCast_mul]; omega
          clear ey ep hb hxy
          go_wp2
          go_roundw
          case rel =>
            refine ⟨j + 1, (c + (p + x * y)) / 1000000000, d ++ [(c + (p + x * y)) % 1000000000], by omega, ?_, rfl, ?_, ?_, by simp [HD2.out], ?_, hext2.set' (Nat.le_refl _) _⟩
            · have := prod_lt hxB hyB
              omega
            · simp
            · have h1 := mid_put hrow2 HD.out HD2.out ((c + (p + x * y)) % 1000000000)
              simpa using h1
            · rw [← HI2.out, drop_at HPE.out, drop_at HY.out, rowm]
              simp
          case measure => simp [intOf]; omega
        · obtain rfl : j = m := by omega
          have hps : ps.drop j = [] := List.drop_of_length_le (by rw [HP.out]; omega)
          have hys : ys.drop j = [] := List.drop_of_length_le (by rw [LM.out]; omega)
          rw [hps, List.nil_append] at hrow2
          have hcell : wr.cell? ⟨w.heap.size, k + j, none⟩ = some (.int .u64 0) := by rw [hrow2.cell]; exact mid_at HD.out HD2.out
          have hfree := hrow2.free (k + j)
          have hq : Hid (d ++ [c] = rowm ps x ys 0) := by
            have h := HI2.out
            rw [hps, hys] at h
            exact h
          have hnext := mid_put hrow2 HD.out HD2.out c
          clear hps hys hb HI2
          go_wp2
          go_roundw
          case rel =>
            have hql : (rowm ps x ys 0).length = j + 1 := by rw [rowm_len _ _ _ _ (by rw [HP.out, LM.out]), LM.out]
            have hqb := rowm_lt ps x ys 0 HPL.out hxB BY.out (by omega)
            have hm := HI.out
            rw [drop_at HX.out, mulL] at hm
            rw [hq.out] at hnext
            generalize rowm ps x ys 0 = q at *
            match q, hql with
            | h :: tl, hql =>
              refine ⟨k + 1, done ++ [h], tl, by omega, rfl, ?_, by simp [HD.out], by simpa using hql, fun p hp => hqb p (List.mem_cons_of_mem _ hp), ?_, hext2.set' (Nat.le_refl _) _⟩
              · simpa using hnext
              · simpa using hm
          case measure => simp [intOf]; omega
    · obtain rfl : k = n := by omega
      have hres : Row wr w.heap.size 91 (U64s (mulL xs ys (List.replicate m 0))) := by
        have hx0 : xs.drop k = [] := List.drop_of_length_le (by rw [LN.out]; omega)
        rw [← HI.out, hx0]
        simpa [mulL] using hrow
      have hval : K.lv (mulL xs ys (List.replicate m 0)) = K.lv xs * K.lv ys := by rw [lv_mulL _ _ _ (by simp [LM.out]), K.lv_zeros]; omega
      have hlims : ∀ x ∈ mulL xs ys (List.replicate m 0), x < 1000000000 := mulL_lt _ _ _ (by simp [LM.out]) BX.out BY.out (by simp)
      have hlen : (mulL xs ys (List.replicate m 0)).length = k + m := by rw [mulL_len _ _ _ (by simp [LM.out]), LN.out, LM.out]
      clear HI
      generalize mulL xs ys (List.replicate m 0) = s at *
      have HL := hid hlen
      have HV := hid hval
      clear hlen hval ha hb
      go_wp2_with fail
      refine (trimmed _ (k + m) (k + m) s _ hres.rd0 HL.out (by omega) (by omega)).mono ?_
      intro e w' hp
      have hq : SumPost (K.lv xs * K.lv ys) w e w' := SumPost.of_trim hres hext hlims HV.out e w' (by rw [HL.out]; exact hp)
      obtain ⟨v, rfl, hq⟩ := hq
      go_wp2
      go_ret
      exact ⟨v, rfl, hq⟩
theorem times_any (va vb : Value) (a b : Nat) (w : World) (ha : NatV w va a) (hb : NatV w vb b) (la : a ≤ BIG) (lb : b ≤ BIG) :
    Calls Tryd.prog 84 #[va, vb] w (SumPost (a * b) w) := by
  obtain ⟨A, n, ca, xs, rfl, h2, _, h4, h5, rfl⟩ := ha
  obtain ⟨B, m, cb, ys, rfl, k2, _, k4, k5, rfl⟩ := hb
  have hn := len_of_big h5 la
  have hm := len_of_big k5 lb
  exact times_l A B ca cb n m xs ys w h4 k4 h2 k2 (by omega) (by omega) h5.1 k5.1
end Go.Proofs.YtoilkfohhhidpaaDoor
/- num.takeAway, num.putBack -/
namespace Go.Proofs.YtoilkfohhhidpaaDoor
open Go.RowKit
theorem only_refl (w : World) (g : Nat) : w.grownBy w (some g) := World.grownBy.refl w _
theorem only_set {a b : World} {g : Nat} (h : a.grownBy b (some g)) (i : Nat) (u : Value) : a.grownBy (b.setCell ⟨g, i, none⟩ u) (some g) :=
  ⟨h.os, h.tape, h.output, by simpa [World.setCell] using h.size, fun k hk hne => (Below.heap_setCell b _ u k (fun e => hne (by rw [e]))).trans (h.block k hk hne)⟩
theorem only_step {a b c : World} {g : Nat} (h : a.grownBy b (some g)) (k : b.grownBy c (some g)) : a.grownBy c (some g) :=
  ⟨k.os.trans h.os, k.tape.trans h.tape, k.output.trans h.output, Nat.le_trans h.size k.size, fun i hi hne => (k.block i (Nat.lt_of_lt_of_le hi h.size) hne).trans (h.block i hi hne)⟩
theorem only_drew {a b : World} {g : Nat} (h : Drew a b) : a.grownBy b (some g) := by
  obtain ⟨n, rfl⟩ := h
  exact ⟨rfl, rfl, rfl, Nat.le_refl _, fun _ _ _ => rfl⟩
theorem only_ext {a b : World} {g : Nat} (h : Ext a b) : a.grownBy b (some g) := ⟨h.os, h.tape, h.output, h.size, fun k hk _ => h.block k hk⟩
theorem Ext.only {a b c : World} {g : Nat} (h : Ext a b) (k : b.grownBy c (some g)) (hg : a.heap.size ≤ g) : Ext a c :=
  ⟨k.os.trans h.os, k.tape.trans h.tape, k.output.trans h.output, Nat.le_trans h.size k.size, fun i hi => (k.block i (Nat.lt_of_lt_of_le hi h.size) (fun e => by injection e with e; omega)).trans (h.block i hi)⟩
theorem Row.only {w w' : World} {g g' : Nat} {t : TypeId} {vs : List Value} (h : Row w g' t vs) (e : w.grownBy w' (some g)) (hne : g' ≠ g) : Row w' g' t vs :=
  (e.block g' h.lt (fun x => hne (by injection x))).trans h
theorem mid_put2 {w : World} {g : Nat} {t : TypeId} {a b rest : List Nat} {x k j : Nat} (h : Row w g t (U64s (a ++ b ++ x :: rest))) (ha : a.length = k) (hb : b.length = j) (u : Value) (v : Nat) :
    Row ((w.setCell ⟨g, k + j, none⟩ u).setCell ⟨g, k + j, none⟩ (.int .u64 (v : Int))) g t (U64s (a ++ (b ++ [v]) ++ rest)) := by
  have h1 := Row.step2 (done := a ++ b) (rest := rest) (sp := []) (x := x) (k := k + j) (by simpa using h) (by simp [ha, hb]) u v
  simpa using h1
def TakePost (g : Nat) (lo ws hi ys : List Nat) (u0 l : Nat) (w : World) (e : Ending) (w' : World) : Prop :=
  e = .returned (.bool (decide (u0 < tkc ws ys l 0))) ∧ Row w' g 91 (U64s (lo ++ tkl ws ys l 0 ++ 0 :: hi)) ∧ w.grownBy w' (some g)

set_option maxHeartbeats 1600000 in
theorem take_l (g o gv n cw cv u0 l : Nat) (lo ws hi ys : List Nat) (w : World) (hrow0 : Row w g 91 (U64s (lo ++ ws ++ u0 :: hi))) (hv : Row w gv 91 (U64s ys)) (hne : gv ≠ g)
    (hlo : lo.length = o) (hws : ws.length = n) (hys : ys.length = n) (hn : n ≤ 1000) (ho : o ≤ 1001) (hl : l ≤ 1000000000) (bw : ∀ x ∈ ws, x < 1000000000) (by_ : ∀ y ∈ ys, y < 1000000000) :
    Calls Tryd.prog 110 #[.slice (some ⟨g, o, none⟩) (n + 1) cw, .slice (some ⟨gv, 0, none⟩) n cv, .int .u64 (l : Int)] w (TakePost g lo ws hi ys u0 l w) := by
  have HLO := hid hlo
  have HWS := hid hws
  have HYS := hid hys
  have BW := hid bw
  have BY := hid by_
  clear hlo hws hys bw by_
  go_enter Tryd.func110, Tryd.ntmps110
  go_wp2
  go_loopw [8, 17] (fun cy i wr => ∃ (k c : Nat) (d : List Nat), k ≤ n ∧ c ≤ 1000000001 ∧ i = .int .i64 k ∧ cy = .int .u64 c ∧ Row wr g 91 (U64s (lo ++ d ++ (ws.drop k ++ u0 :: hi))) ∧ d.length = k ∧
      d ++ tkl (ws.drop k) (ys.drop k) l c = tkl ws ys l 0 ∧ tkc (ws.drop k) (ys.drop k) l c = tkc ws ys l 0 ∧ w.grownBy wr (some g)) (fun _ i _ => n - (intOf i).toNat)
  case atStart => exact ⟨0, 0, [], by omega, by omega, rfl, rfl, by simpa using hrow0, rfl, rfl, rfl, only_refl w g⟩
  case round =>
    obtain ⟨k, c, d, hk, hc, rfl, rfl, hrow, hd, hinv, hinv2, hon⟩ := hrel
    have HD := hid hd
    have HI := hid hinv
    have HJ := hid hinv2
    clear hd hinv hinv2 hrow0
    by_cases hlt : k < n
    · obtain ⟨ww, ew⟩ : ∃ x, ws[k]? = some x := ⟨_, List.getElem?_eq_getElem (by rw [HWS.out]; omega)⟩
      obtain ⟨y, ey⟩ : ∃ x, ys[k]? = some x := ⟨_, List.getElem?_eq_getElem (by rw [HYS.out]; omega)⟩
      have hwB := BW.out ww (mem_at ew)
      have hyB := BY.out y (mem_at ey)
      have HW := hid ew
      have HY := hid ey
      rw [drop_at ew, List.cons_append] at hrow
      have hcell : wr.cell? ⟨g, o + k, none⟩ = some (.int .u64 ww) := by rw [hrow.cell]; exact mid_at HLO.out HD.out
      have hfree := hrow.free (o + k)
      have hyc : wr.cell? ⟨gv, k, none⟩ = some (.int .u64 y) := by
        have h := hv.only hon hne
        rw [h.cell]; exact U64s_at HY.out
      have hyl : y * l ≤ 999999999000000000 := Nat.le_trans (Nat.mul_le_mul (show y ≤ 999999999 by omega) hl) (by omega)
      have hyl' : (y : Int) * (l : Int) ≤ 999999999000000000 := by rw [← Int.natCast_mul]; omega
      have hyl0 : 0 ≤ (y : Int) * (l : Int) := by rw [← Int.natCast_mul]; omega
      have HYL := hid hyl
      clear ew ey hyl
      by_cases hcmp : (ww : Int) < ((c : Int) + (y : Int) * (l : Int)) % 1000000000
      · have hcn : ww < (c + y * l) % 1000000000 := by
          have e1 : (((c + y * l) % 1000000000 : Nat) : Int) = ((c : Int) + (y : Int) * (l : Int)) % 1000000000 := by simp
          omega
        go_wp2
        go_roundw
        case rel =>
          refine ⟨k + 1, ((c + y * l) / 1000000000 + 1), d ++ [(ww + 1000000000 - (c + y * l) % 1000000000)], by omega, ?_, rfl, by simp, ?_, by simp [HD.out], ?_, ?_, only_set (only_set hon _ _) _ _⟩
          · have := HYL.out
            omega
          · have h1 := mid_put2 hrow HLO.out HD.out (.int .u64 ((ww : Int) + 1000000000)) (ww + 1000000000 - (c + y * l) % 1000000000)
            rw [show (((ww + 1000000000 - (c + y * l) % 1000000000) : Nat) : Int) = (ww : Int) + 1000000000 - (((c : Int) + (y : Int) * (l : Int)) % 1000000000) by
              have e1 : (((c + y * l) % 1000000000 : Nat) : Int) = ((c : Int) + (y : Int) * (l : Int)) % 1000000000 := by simp
              rw [← e1]; omega] at h1
            simpa using h1
          · rw [← HI.out, drop_at HW.out, drop_at HY.out, tkl_yes (by omega)]
            simp
          · rw [← HJ.out, drop_at HW.out, drop_at HY.out, tkc_yes (by omega)]
        case measure => simp [intOf]; omega
      · have hcn : ¬ ww < (c + y * l) % 1000000000 := by
          have e1 : (((c + y * l) % 1000000000 : Nat) : Int) = ((c : Int) + (y : Int) * (l : Int)) % 1000000000 := by simp
          omega
        go_wp2
        go_roundw
        case rel =>
          refine ⟨k + 1, ((c + y * l) / 1000000000), d ++ [(ww - (c + y * l) % 1000000000)], by omega, ?_, rfl, by simp, ?_, by simp [HD.out], ?_, ?_, only_set hon _ _⟩
          · have := HYL.out
            omega
          · have h1 := mid_put hrow HLO.out HD.out (ww - (c + y * l) % 1000000000)
            rw [show (((ww - (c + y * l) % 1000000000) : Nat) : Int) = (ww : Int) - (((c : Int) + (y : Int) * (l : Int)) % 1000000000) by
              have e1 : (((c + y * l) % 1000000000 : Nat) : Int) = ((c : Int) + (y : Int) * (l : Int)) % 1000000000 := by simp
              rw [← e1]; omega] at h1
            simpa using h1
          · rw [← HI.out, drop_at HW.out, drop_at HY.out, tkl_no (by omega)]
            simp
          · rw [← HJ.out, drop_at HW.out, drop_at HY.out, tkc_no (by omega)]
        case measure => simp [intOf]; omega
    · obtain rfl : k = n := by omega
      have hw0 : ws.drop k = [] := List.drop_of_length_le (by rw [HWS.out]; omega)
      have hy0 : ys.drop k = [] := List.drop_of_length_le (by rw [HYS.out]; omega)
      have hdone : d = tkl ws ys l 0 := by rw [← HI.out, hw0, hy0]; simp [tkl]
      have hcar : c = tkc ws ys l 0 := by rw [← HJ.out, hw0, hy0]; simp [tkc]
      rw [hw0, List.nil_append] at hrow
      have hcell : wr.cell? ⟨g, o + k, none⟩ = some (.int .u64 u0) := by rw [hrow.cell]; exact mid_at HLO.out HD.out
      have hfree := hrow.free (o + k)
      have hnext := mid_put hrow HLO.out HD.out 0
      have HDO := hid hdone
      have HCA := hid hcar
      clear hw0 hy0 hdone hcar HI HJ hv
      by_cases hcmp : u0 < c
      · go_wp2
        go_ret
        exact ⟨by rw [← HCA.out, decide_eq_true hcmp]; rfl, by rw [← HDO.out]; simpa using hnext, only_set hon _ _⟩
      · go_wp2
        go_ret
        exact ⟨by rw [← HCA.out, decide_eq_false hcmp]; rfl, by rw [← HDO.out]; simpa using hnext, only_set hon _ _⟩

def PutPost (g : Nat) (lo ws hi ys : List Nat) (w : World) (e : Ending) (w' : World) : Prop :=
  e = .returned (.tuple #[]) ∧ Row w' g 91 (U64s (lo ++ pbl ws ys 0 ++ hi)) ∧ w.grownBy w' (some g)
set_option maxHeartbeats 1600000 in
theorem put_l (g o gv n nw cw cv : Nat) (lo ws hi ys : List Nat) (w : World) (hrow0 : Row w g 91 (U64s (lo ++ ws ++ hi))) (hv : Row w gv 91 (U64s ys)) (hne : gv ≠ g)
    (hlo : lo.length = o) (hws : ws.length = n) (hys : ys.length = n) (hnw : n ≤ nw) (hn : nw ≤ 1001) (ho : o ≤ 1001) (bw : ∀ x ∈ ws, x < 1000000000) (by_ : ∀ y ∈ ys, y < 1000000000) :
    Calls Tryd.prog 111 #[.slice (some ⟨g, o, none⟩) nw cw, .slice (some ⟨gv, 0, none⟩) n cv] w (PutPost g lo ws hi ys w) := by
  have HLO := hid hlo
  have HWS := hid hws
  have HYS := hid hys
  have BW := hid bw
  have BY := hid by_
  clear hlo hws hys bw by_
  go_enter Tryd.func111, Tryd.ntmps111
  go_wp2
  go_loopw [4, 9] (fun cy i wr => ∃ (k c : Nat) (d : List Nat), k ≤ n ∧ c ≤ 1 ∧ i = .int .i64 k ∧ cy = .int .u64 c ∧ Row wr g 91 (U64s (lo ++ d ++ (ws.drop k ++ hi))) ∧ d.length = k ∧
      d ++ pbl (ws.drop k) (ys.drop k) c = pbl ws ys 0 ∧ w.grownBy wr (some g)) (fun _ i _ => n - (intOf i).toNat)
  case atStart => exact ⟨0, 0, [], by omega, by omega, rfl, rfl, by simpa using hrow0, rfl, rfl, only_refl w g⟩
  case round =>
    obtain ⟨k, c, d, hk, hc, rfl, rfl, hrow, hd, hinv, hon⟩ := hrel
    have HD := hid hd
    have HI := hid hinv
    clear hd hinv hrow0
    by_cases hlt : k < n
    · obtain ⟨ww, ew⟩ : ∃ x, ws[k]? = some x := ⟨_, List.getElem?_eq_getElem (by rw [HWS.out]; omega)⟩
      obtain ⟨y, ey⟩ : ∃ x, ys[k]? = some x := ⟨_, List.getElem?_eq_getElem (by rw [HYS.out]; omega)⟩
      have hwB := BW.out ww (mem_at ew)
      have hyB := BY.out y (mem_at ey)
      have HW := hid ew
      have HY := hid ey
      rw [drop_at ew, List.cons_append] at hrow
      have hcell : wr.cell? ⟨g, o + k, none⟩ = some (.int .u64 ww) := by rw [hrow.cell]; exact mid_at HLO.out HD.out
      have hfree := hrow.free (o + k)
      have hyc : wr.cell? ⟨gv, k, none⟩ = some (.int .u64 y) := by
        have h := hv.only hon hne
        rw [h.cell]; exact U64s_at HY.out
      clear ew ey
      go_wp2
      go_roundw
      case rel =>
        refine ⟨k + 1, (c + (ww + y)) / 1000000000, d ++ [(c + (ww + y)) % 1000000000], by omega, by omega, rfl, rfl, ?_, by simp [HD.out], ?_, only_set hon _ _⟩
        · have h1 := mid_put hrow HLO.out HD.out ((c + (ww + y)) % 1000000000)
          simpa using h1
        · rw [← HI.out, drop_at HW.out, drop_at HY.out, pbl]
          simp
      case measure => simp [intOf]; omega
    · obtain rfl : k = n := by omega
      have hw0 : ws.drop k = [] := List.drop_of_length_le (by rw [HWS.out]; omega)
      have hy0 : ys.drop k = [] := List.drop_of_length_le (by rw [HYS.out]; omega)
      have hdone : d = pbl ws ys 0 := by rw [← HI.out, hw0, hy0]; simp [pbl]
      rw [hw0, List.nil_append, hdone] at hrow
      clear hw0 hy0 hdone HI hv
      go_wp2
      go_end0
      exact ⟨rfl, hrow, hon⟩
end Go.Proofs.YtoilkfohhhidpaaDoor
