/- Joined texts: num.guess; (natural).times; num.takeAway, num.putBack; (natural).divideLong; (natural).divide. -/
import Derived.Test.YtoilkfohhhidpaaDoorJCStepParts02
import Derived.Test.YtoilkfohhhidpaaDoorJCStepParts01
/- num.guess -/
namespace Go.Proofs.YtoilkfohhhidpaaDoor
open Go.RowKit
def GuessPost (H v1 v2 u2 q : Nat) (w : World) (e : Ending) (w' : World) : Prop :=
  ∃ l left : Nat, e = .returned (.int .u64 (l : Int)) ∧ Drew w w' ∧ l * v1 + left = H ∧ q ≤ l ∧ l ≤ 1000000000 ∧ (1000000000 ≤ left ∨ (l < 1000000000 ∧ l * v2 ≤ left * 1000000000 + u2))
def GuessInv (H v1 q : Nat) (w : World) (lv lf : Value) (wr : World) : Prop :=
  ∃ l left : Nat, lv = .int .u64 l ∧ lf = .int .u64 left ∧ l * v1 + left = H ∧ q ≤ l ∧ l ≤ 1000000001 ∧ (l = 1000000001 → left < 1000000000) ∧ left < 2000000000 ∧ Drew w wr
set_option maxRecDepth 100000 in
set_option maxHeartbeats 1600000 in
theorem guess_l (g o gv m cw cv u0 u1 u2 v1 v2 q : Nat) (w : World) (hm : m ≤ 1000)
    (h0 : w.cell? ⟨g, o + (m + 2), none⟩ = some (.int .u64 (u0 : Int))) (h1 : w.cell? ⟨g, o + (m + 1), none⟩ = some (.int .u64 (u1 : Int))) (h2 : w.cell? ⟨g, o + m, none⟩ = some (.int .u64 (u2 : Int)))
    (k1 : w.cell? ⟨gv, m + 1, none⟩ = some (.int .u64 (v1 : Int))) (k2 : w.cell? ⟨gv, m, none⟩ = some (.int .u64 (v2 : Int)))
    (b0 : u0 ≤ v1) (b1 : u1 < 1000000000) (b2 : u2 < 1000000000) (bv1 : v1 < 1000000000) (bv2 : v2 < 1000000000) (bn : 500000000 ≤ v1)
    (hq0 : q * v1 ≤ u0 * 1000000000 + u1) (hqB : q < 1000000000) (hqd : ∀ l left : Nat, l * v1 + left = u0 * 1000000000 + u1 → left * 1000000000 + u2 < l * v2 → q < l) :
    Calls Tryd.prog 109 #[.slice (some ⟨g, o, none⟩) (m + 3) cw, .slice (some ⟨gv, 0, none⟩) (m + 2) cv] w (GuessPost (u0 * 1000000000 + u1) v1 v2 u2 q w) := by
  have hv0 : ¬ (v1 : Int) = 0 := by omega
  have HQ := hid hqd
  have HQ0 := hid hq0
  clear hqd hq0
  go_enter Tryd.func109, Tryd.ntmps109
  go_wp2_with fail
  go_quiet (fail)
  generalize hw1 : World.drewN w _ = w1
  have hwr1 : Drew w w1 := hw1 ▸ (Drew.rfl' w).drewN _
  have k1' : w1.cell? ⟨gv, m + 1, none⟩ = some (.int .u64 (v1 : Int)) := by rw [← hw1]; exact k1
  have k2' : w1.cell? ⟨gv, m, none⟩ = some (.int .u64 (v2 : Int)) := by rw [← hw1]; exact k2
  have h2' : w1.cell? ⟨g, o + m, none⟩ = some (.int .u64 (u2 : Int)) := by rw [← hw1]; exact h2
  clear hw1 h0 h1 h2 k1 k2
  go_wp2_with fail
  go_quiet (fail)
  generalize hw2 : World.drewN w1 _ = w2
  have hwr2 : Drew w w2 := hw2 ▸ hwr1.drewN _
  have K1 : w2.cell? ⟨gv, m + 1, none⟩ = some (.int .u64 (v1 : Int)) := by rw [← hw2]; exact k1'
  have K2 : w2.cell? ⟨gv, m, none⟩ = some (.int .u64 (v2 : Int)) := by rw [← hw2]; exact k2'
  have H2 : w2.cell? ⟨g, o + m, none⟩ = some (.int .u64 (u2 : Int)) := by rw [← hw2]; exact h2'
  clear hw2 h2' k1' k2' hwr1
  have hv1p : 0 < v1 := by omega
  have hdm := Nat.div_add_mod (u0 * 1000000000 + u1) v1
  have hmod := Nat.mod_lt (u0 * 1000000000 + u1) hv1p
  have hdiv : (u0 * 1000000000 + u1) / v1 ≤ 1000000001 := by
    refine Nat.lt_succ_iff.1 ((Nat.div_lt_iff_lt_mul hv1p).2 ?_)
    omega
  have hdq : q ≤ (u0 * 1000000000 + u1) / v1 := by rw [Nat.le_div_iff_mul_le hv1p]; exact HQ0.out
  have HDM := hid hdm
  clear hdm
  go_wp2_with fail
  go_loopw [7, 8] (fun lv lf wr => GuessInv (u0 * 1000000000 + u1) v1 q w2 lv lf wr) (fun lv _ _ => (intOf lv).toNat)
  case atStart =>
    refine ⟨(u0 * 1000000000 + u1) / v1, (u0 * 1000000000 + u1) % v1, by simp, by simp, ?_, hdq, hdiv, by omega, by omega, Drew.rfl' w2⟩
    rw [Nat.mul_comm]; exact HDM.out
  case round =>
    obtain ⟨l, left, rfl, rfl, he, hql, hl, hll, hleft, hwr⟩ := hrel
    have HE := hid he
    have k1 : wr.cell? ⟨gv, m + 1, none⟩ = some (.int .u64 (v1 : Int)) := by obtain ⟨_, rfl⟩ := hwr; exact K1
    have k2 : wr.cell? ⟨gv, m, none⟩ = some (.int .u64 (v2 : Int)) := by obtain ⟨_, rfl⟩ := hwr; exact K2
    have h2 : wr.cell? ⟨g, o + m, none⟩ = some (.int .u64 (u2 : Int)) := by obtain ⟨_, rfl⟩ := hwr; exact H2
    have HLL := hid hll
    clear he K1 K2 H2 HDM hll
    have hx1 : (l : Int) * (v2 : Int) ≤ 1000000001 * 999999999 := by
      rw [← Int.natCast_mul]
      have := Nat.mul_le_mul hl (show v2 ≤ 999999999 by omega)
      omega
    have hx0 : 0 ≤ (l : Int) * (v2 : Int) := by rw [← Int.natCast_mul]; omega
    by_cases c1 : left < 1000000000
    · by_cases c2 : 1000000000 ≤ l
      · have d1 : decide ((left : Int) < 1000000000) = true := by simp; omega
        have d2 : decide ((1000000000 : Int) ≤ (l : Int)) = true := by simp; omega
        have hl1 : 1 ≤ l := by omega
        clear hx1 hx0 k2 h2 hmod hdiv hdq hv1p
        go_wp2_with fail
        go_quiet (fail)
        generalize hw3 : World.drewN wr _ = w3
        have hwr3 : Drew w2 w3 := hw3 ▸ hwr.drewN _
        have k1' : w3.cell? ⟨gv, m + 1, none⟩ = some (.int .u64 (v1 : Int)) := by rw [← hw3]; exact k1
        clear hw3 k1 d1 d2 hwr
        have C1 := hid c1
        have C2 := hid c2
        clear c1 c2
        go_wp2
        go_roundw
        case rel =>
          have he := HE.out
          have hlt : q < l := by have := C2.out; omega
          obtain ⟨l', rfl⟩ : ∃ l', l = l' + 1 := ⟨l - 1, by omega⟩
          rw [Nat.add_mul, Nat.one_mul] at he
          exact ⟨l', left + v1, by simp, by simp, by omega, by omega, by omega, by omega, by have := C1.out; omega, by assumption⟩
        case measure => simp [intOf]; omega
      · by_cases c3 : left * 1000000000 + u2 < l * v2
        · have d1 : decide ((left : Int) < 1000000000) = true := by simp; omega
          have d2 : decide ((1000000000 : Int) ≤ (l : Int)) = false := by simp; omega
          have d3 : decide ((left : Int) * 1000000000 + u2 < (l : Int) * v2) = true := by
            rw [decide_eq_true_iff, ← Int.natCast_mul]; omega
          have hlt := HQ.out l left HE.out c3
          have HLT := hid hlt
          have C1 := hid c1
          have hl1 : 1 ≤ l := by omega
          clear hmod hdiv hdq hv1p c3 hlt c1 c2
          go_wp2_with fail
          go_quiet (fail)
          generalize hw3 : World.drewN wr _ = w3
          have hwr3 : Drew w2 w3 := hw3 ▸ hwr.drewN _
          have k1' : w3.cell? ⟨gv, m + 1, none⟩ = some (.int .u64 (v1 : Int)) := by rw [← hw3]; exact k1
          clear hw3 k1 d1 d2 d3 hwr k2 h2 hx1 hx0
          go_wp2
          go_roundw
          case rel =>
            have he := HE.out
            have hlt : q < l := HLT.out
            obtain ⟨l', rfl⟩ : ∃ l', l = l' + 1 := ⟨l - 1, by omega⟩
            rw [Nat.add_mul, Nat.one_mul] at he
            exact ⟨l', left + v1, by simp, by simp, by omega, by omega, by omega, by omega, by have := C1.out; omega, by assumption⟩
          case measure => simp [intOf]; omega
        · have d1 : decide ((left : Int) < 1000000000) = true := by simp; omega
          have d2 : decide ((1000000000 : Int) ≤ (l : Int)) = false := by simp; omega
          have d3 : decide ((left : Int) * 1000000000 + u2 < (l : Int) * v2) = false := by
            rw [decide_eq_false_iff_not, ← Int.natCast_mul]; omega
          have C3 := hid c3
          have C2 := hid c2
          clear hmod hdiv hdq hv1p c3 c1 c2
          go_wp2_with fail
          go_quiet (fail)
          clear d1 d2 d3
          go_wp2
          go_ret
          exact ⟨l, left, rfl, (hwr2.step hwr).drewN _, HE.out, hql, by have := C2.out; omega, .inr ⟨by have := C2.out; omega, by have := C3.out; omega⟩⟩
    · have d1 : decide ((left : Int) < 1000000000) = false := by simp; omega
      have C1 := hid c1
      clear hmod hdiv hdq hv1p c1
      go_wp2_with fail
      go_quiet (fail)
      clear d1
      go_wp2
      go_ret
      have h1 := C1.out
      have h2 := HLL.out
      exact ⟨l, left, rfl, (hwr2.step hwr).drewN _, HE.out, hql, by omega, .inl (by omega)⟩
end Go.Proofs.YtoilkfohhhidpaaDoor
/- (natural).times -/
namespace Go.Proofs.YtoilkfohhhidpaaDoor
open Go.RowKit
theorem mid_at {a b rest : List Nat} {x k j : Nat} (ha : a.length = k) (hb : b.length = j) : (U64s (a ++ b ++ x :: rest))[k + j]? = some (.int .u64 (x : Int)) := by
  have h := U64s_mid (done := a ++ b) (rest := rest) (sp := []) (x := x) (k := k + j) (by simp [ha, hb])
  simpa using h
theorem mid_put {w : World} {g : Nat} {t : TypeId} {a b rest : List Nat} {x k j : Nat} (h : Row w g t (U64s (a ++ b ++ x :: rest))) (ha : a.length = k) (hb : b.length = j) (v : Nat) :
    Row (w.setCell ⟨g, k + j, none⟩ (.int .u64 (v : Int))) g t (U64s (a ++ (b ++ [v]) ++ rest)) := by
  have h1 := Row.step1 (done := a ++ b) (rest := rest) (sp := []) (x := x) (k := k + j) (by simpa using h) (by simp [ha, hb]) v
  simpa using h1

set_option maxHeartbeats 1600000 in
theorem times_l (A B : Option Addr) (ca cb n m : Nat) (xs ys : List Nat) (w : World) (ha : Rd w A (U64s xs)) (hb : Rd w B (U64s ys)) (ln : xs.length = n) (lm : ys.length = m) (hn : n ≤ 1000) (hm : m ≤ 1000)
    (bx : ∀ x ∈ xs, x < 1000000000) (by_ : ∀ y ∈ ys, y < 1000000000) :
    Calls Tryd.prog 84 #[.slice A n ca, .slice B m cb] w (SumPost (K.lv xs * K.lv ys) w) := by
  have LN := hid ln
  have LM := hid lm
  have BX := hid bx
  have BY := hid by_
  have hmk := fun w => mkNat (n + m) ((n : Int) + m) (by omega) (by omega) w
  clear bx by_ ln lm
  go_enter Tryd.func84, Tryd.ntmps84
  go_wp2
  go_loopw [19] (fun i wr => ∃ (k : Nat) (done ps : List Nat), k ≤ n ∧ i = .int .i64 k ∧ Row wr w.heap.size 91 (U64s (done ++ ps ++ List.replicate (n - k) 0)) ∧ done.length = k ∧ ps.length = m ∧ (∀ p ∈ ps, p < 1000000000) ∧
      done ++ mulL (xs.drop k) ys ps = mulL xs ys (List.replicate m 0) ∧ Ext w wr) (fun i _ => n - (intOf i).toNat)
  case atStart => exact ⟨0, [], List.replicate m 0, by omega, rfl, by
    have h := Row.made w 91 (.int .u64 0) (n + m)
    rw [U64s_zeros, show n + m = m + n by omega, ← List.replicate_append_replicate] at h
    rw [show m + n = n + m by omega] at h
    exact h, rfl, by simp, by simp, rfl, (Ext.rfl' w).alloc' _⟩
  case round =>
    obtain ⟨k, done, ps, hk, rfl, hrow, hd, hp, hpl, hinv, hext⟩ := hrel
    have HD := hid hd
    have HP := hid hp
    have HPL := hid hpl
    have HI := hid hinv
    clear hd hp hpl hinv hmk
    by_cases hlt : k < n
    · obtain ⟨b1, o1, x, eA, ex, hb1, hx⟩ := (ha.ext hext).at_ (k := k) (by rw [LN.out]; omega)
      subst eA
      have hxB := BX.out x (mem_at ex)
      have HX := hid ex
      have hz : n - k = (n - (k + 1)) + 1 := by omega
      have HZ := hid hz
      clear ex hz ha
      obtain ⟨wo, rfl⟩ : ∃ wo : World, wo = wr := ⟨_, rfl⟩
      go_wp2
      go_loopw [8, 9, 10, 26] (fun cy _ _ j wr => ∃ (j' c : Nat) (d : List Nat), j' ≤ m ∧ c < 1000000000 ∧ j = .int .i64 j' ∧ cy = .int .u64 c ∧ Row wr w.heap.size 91 (U64s (done ++ d ++ (ps.drop j' ++ 0 :: List.replicate (n - (k + 1)) 0))) ∧ d.length = j' ∧
          d ++ rowm (ps.drop j') x (ys.drop j') c = rowm ps x ys 0 ∧ Ext w wr) (fun _ _ _ j _ => m - (intOf j).toNat)
      case atStart => exact ⟨0, 0, [], by omega, by omega, rfl, rfl, by rw [HZ.out, zeros_succ] at hrow; simpa using hrow, rfl, rfl, hext⟩
      case round =>
        obtain ⟨j, c, d, hj, hc, rfl, rfl, hrow2, hd2, hinv2, hext2⟩ := hrel
        have HD2 := hid hd2
        have HI2 := hid hinv2
        clear hd2 hinv2 hrow hext
        by_cases hjm : j < m
        · obtain ⟨b2, o2, y, eB, ey, hb2, hy⟩ := (hb.ext hext2).at_ (k := j) (by rw [LM.out]; omega)
          subst eB
          have hyB := BY.out y (mem_at ey)
          have HY := hid ey
          obtain ⟨p, ep⟩ : ∃ p, ps[j]? = some p := ⟨_, List.getElem?_eq_getElem (by rw [HP.out]; omega)⟩
          have hpB := HPL.out p (mem_at ep)
          have HPE := hid ep
          rw [drop_at ep, List.cons_append] at hrow2
          have hcell : wr.cell? ⟨w.heap.size, k + j, none⟩ = some (.int .u64 p) := by rw [hrow2.cell]; exact mid_at HD.out HD2.out
          have hfree := hrow2.free (k + j)
          have hxy := prod_lt hxB hyB
          have hxy' : (x : Int) * (y : Int) ≤ 999999998000000001 := by rw [← Int.natCast_mul]; omega
          have hxy0 : 0 ≤ (x : Int) * (y : Int) := by rw [← Int.natCast_mul]; omega
          clear ey ep hb hxy
          go_wp2
          go_roundw
          case rel =>
            refine ⟨j + 1, (c + (p + x * y)) / 1000000000, d ++ [(c + (p + x * y)) % 1000000000], by omega, ?_, rfl, ?_, ?_, by simp [HD2.out], ?_, hext2.set' (Nat.le_refl _) _⟩
            · have := prod_lt hxB hyB
              omega
            · simp
            · have h1 := mid_put hrow2 HD.out HD2.out ((c + (p + x * y)) % 1000000000)
              simpa using h1
            · rw [← HI2.out, drop_at HPE.out, drop_at HY.out, rowm]
              simp
          case measure => simp [intOf]; omega
        · obtain rfl : j = m := by omega
          have hps : ps.drop j = [] := List.drop_of_length_le (by rw [HP.out]; omega)
          have hys : ys.drop j = [] := List.drop_of_length_le (by rw [LM.out]; omega)
          rw [hps, List.nil_append] at hrow2
          have hcell : wr.cell? ⟨w.heap.size, k + j, none⟩ = some (.int .u64 0) := by rw [hrow2.cell]; exact mid_at HD.out HD2.out
          have hfree := hrow2.free (k + j)
          have hq : Hid (d ++ [c] = rowm ps x ys 0) := by
            have h := HI2.out
            rw [hps, hys] at h
            exact h
          have hnext := mid_put hrow2 HD.out HD2.out c
          clear hps hys hb HI2
          go_wp2
          go_roundw
          case rel =>
            have hql : (rowm ps x ys 0).length = j + 1 := by rw [rowm_len _ _ _ _ (by rw [HP.out, LM.out]), LM.out]
            have hqb := rowm_lt ps x ys 0 HPL.out hxB BY.out (by omega)
            have hm := HI.out
            rw [drop_at HX.out, mulL] at hm
            rw [hq.out] at hnext
            generalize rowm ps x ys 0 = q at *
            match q, hql with
            | h :: tl, hql =>
              refine ⟨k + 1, done ++ [h], tl, by omega, rfl, ?_, by simp [HD.out], by simpa using hql, fun p hp => hqb p (List.mem_cons_of_mem _ hp), ?_, hext2.set' (Nat.le_refl _) _⟩
              · simpa using hnext
              · simpa using hm
          case measure => simp [intOf]; omega
    · obtain rfl : k = n := by omega
      have hres : Row wr w.heap.size 91 (U64s (mulL xs ys (List.replicate m 0))) := by
        have hx0 : xs.drop k = [] := List.drop_of_length_le (by rw [LN.out]; omega)
        rw [← HI.out, hx0]
        simpa [mulL] using hrow
      have hval : K.lv (mulL xs ys (List.replicate m 0)) = K.lv xs * K.lv ys := by rw [lv_mulL _ _ _ (by simp [LM.out]), K.lv_zeros]; omega
      have hlims : ∀ x ∈ mulL xs ys (List.replicate m 0), x < 1000000000 := mulL_lt _ _ _ (by simp [LM.out]) BX.out BY.out (by simp)
      have hlen : (mulL xs ys (List.replicate m 0)).length = k + m := by rw [mulL_len _ _ _ (by simp [LM.out]), LN.out, LM.out]
      clear HI
      generalize mulL xs ys (List.replicate m 0) = s at *
      have HL := hid hlen
      have HV := hid hval
      clear hlen hval ha hb
      go_wp2_with fail
      refine (trimmed _ (k + m) (k + m) s _ hres.rd0 HL.out (by omega) (by omega)).mono ?_
      intro e w' hp
      have hq : SumPost (K.lv xs * K.lv ys) w e w' := SumPost.of_trim hres hext hlims HV.out e w' (by rw [HL.out]; exact hp)
      obtain ⟨v, rfl, hq⟩ := hq
      go_wp2
      go_ret
      exact ⟨v, rfl, hq⟩
theorem times_any (va vb : Value) (a b : Nat) (w : World) (ha : NatV w va a) (hb : NatV w vb b) (la : a ≤ BIG) (lb : b ≤ BIG) :
    Calls Tryd.prog 84 #[va, vb] w (SumPost (a * b) w) := by
  obtain ⟨A, n, ca, xs, rfl, h2, _, h4, h5, rfl⟩ := ha
  obtain ⟨B, m, cb, ys, rfl, k2, _, k4, k5, rfl⟩ := hb
  have hn := len_of_big h5 la
  have hm := len_of_big k5 lb
  exact times_l A B ca cb n m xs ys w h4 k4 h2 k2 (by omega) (by omega) h5.1 k5.1
end Go.Proofs.YtoilkfohhhidpaaDoor
/- num.takeAway, num.putBack -/
namespace Go.Proofs.YtoilkfohhhidpaaDoor
open Go.RowKit
theorem only_refl (w : World) (g : Nat) : w.grownBy w (some g) := World.grownBy.refl w _
theorem only_set {a b : World} {g : Nat} (h : a.grownBy b (some g)) (i : Nat) (u : Value) : a.grownBy (b.setCell ⟨g, i, none⟩ u) (some g) :=
  ⟨h.os, h.tape, h.output, by simpa [World.setCell] using h.size, fun k hk hne => (Below.heap_setCell b _ u k (fun e => hne (by rw [e]))).trans (h.block k hk hne)⟩
theorem only_step {a b c : World} {g : Nat} (h : a.grownBy b (some g)) (k : b.grownBy c (some g)) : a.grownBy c (some g) :=
  ⟨k.os.trans h.os, k.tape.trans h.tape, k.output.trans h.output, Nat.le_trans h.size k.size, fun i hi hne => (k.block i (Nat.lt_of_lt_of_le hi h.size) hne).trans (h.block i hi hne)⟩
theorem only_drew {a b : World} {g : Nat} (h : Drew a b) : a.grownBy b (some g) := by
  obtain ⟨n, rfl⟩ := h
  exact ⟨rfl, rfl, rfl, Nat.le_refl _, fun _ _ _ => rfl⟩
theorem only_ext {a b : World} {g : Nat} (h : Ext a b) : a.grownBy b (some g) := ⟨h.os, h.tape, h.output, h.size, fun k hk _ => h.block k hk⟩
theorem Ext.only {a b c : World} {g : Nat} (h : Ext a b) (k : b.grownBy c (some g)) (hg : a.heap.size ≤ g) : Ext a c :=
  ⟨k.os.trans h.os, k.tape.trans h.tape, k.output.trans h.output, Nat.le_trans h.size k.size, fun i hi => (k.block i (Nat.lt_of_lt_of_le hi h.size) (fun e => by injection e with e; omega)).trans (h.block i hi)⟩
theorem Row.only {w w' : World} {g g' : Nat} {t : TypeId} {vs : List Value} (h : Row w g' t vs) (e : w.grownBy w' (some g)) (hne : g' ≠ g) : Row w' g' t vs :=
  (e.block g' h.lt (fun x => hne (by injection x))).trans h
theorem mid_put2 {w : World} {g : Nat} {t : TypeId} {a b rest : List Nat} {x k j : Nat} (h : Row w g t (U64s (a ++ b ++ x :: rest))) (ha : a.length = k) (hb : b.length = j) (u : Value) (v : Nat) :
    Row ((w.setCell ⟨g, k + j, none⟩ u).setCell ⟨g, k + j, none⟩ (.int .u64 (v : Int))) g t (U64s (a ++ (b ++ [v]) ++ rest)) := by
  have h1 := Row.step2 (done := a ++ b) (rest := rest) (sp := []) (x := x) (k := k + j) (by simpa using h) (by simp [ha, hb]) u v
  simpa using h1
def TakePost (g : Nat) (lo ws hi ys : List Nat) (u0 l : Nat) (w : World) (e : Ending) (w' : World) : Prop :=
  e = .returned (.bool (decide (u0 < tkc ws ys l 0))) ∧ Row w' g 91 (U64s (lo ++ tkl ws ys l 0 ++ 0 :: hi)) ∧ w.grownBy w' (some g)

set_option maxHeartbeats 1600000 in
theorem take_l (g o gv n cw cv u0 l : Nat) (lo ws hi ys : List Nat) (w : World) (hrow0 : Row w g 91 (U64s (lo ++ ws ++ u0 :: hi))) (hv : Row w gv 91 (U64s ys)) (hne : gv ≠ g)
    (hlo : lo.length = o) (hws : ws.length = n) (hys : ys.length = n) (hn : n ≤ 1000) (ho : o ≤ 1001) (hl : l ≤ 1000000000) (bw : ∀ x ∈ ws, x < 1000000000) (by_ : ∀ y ∈ ys, y < 1000000000) :
    Calls Tryd.prog 110 #[.slice (some ⟨g, o, none⟩) (n + 1) cw, .slice (some ⟨gv, 0, none⟩) n cv, .int .u64 (l : Int)] w (TakePost g lo ws hi ys u0 l w) := by
  have HLO := hid hlo
  have HWS := hid hws
  have HYS := hid hys
  have BW := hid bw
  have BY := hid by_
  clear hlo hws hys bw by_
  go_enter Tryd.func110, Tryd.ntmps110
  go_wp2
  go_loopw [8, 17] (fun cy i wr => ∃ (k c : Nat) (d : List Nat), k ≤ n ∧ c ≤ 1000000001 ∧ i = .int .i64 k ∧ cy = .int .u64 c ∧ Row wr g 91 (U64s (lo ++ d ++ (ws.drop k ++ u0 :: hi))) ∧ d.length = k ∧
      d ++ tkl (ws.drop k) (ys.drop k) l c = tkl ws ys l 0 ∧ tkc (ws.drop k) (ys.drop k) l c = tkc ws ys l 0 ∧ w.grownBy wr (some g)) (fun _ i _ => n - (intOf i).toNat)
  case atStart => exact ⟨0, 0, [], by omega, by omega, rfl, rfl, by simpa using hrow0, rfl, rfl, rfl, only_refl w g⟩
  case round =>
    obtain ⟨k, c, d, hk, hc, rfl, rfl, hrow, hd, hinv, hinv2, hon⟩ := hrel
    have HD := hid hd
    have HI := hid hinv
    have HJ := hid hinv2
    clear hd hinv hinv2 hrow0
    by_cases hlt : k < n
    · obtain ⟨ww, ew⟩ : ∃ x, ws[k]? = some x := ⟨_, List.getElem?_eq_getElem (by rw [HWS.out]; omega)⟩
      obtain ⟨y, ey⟩ : ∃ x, ys[k]? = some x := ⟨_, List.getElem?_eq_getElem (by rw [HYS.out]; omega)⟩
      have hwB := BW.out ww (mem_at ew)
      have hyB := BY.out y (mem_at ey)
      have HW := hid ew
      have HY := hid ey
      rw [drop_at ew, List.cons_append] at hrow
      have hcell : wr.cell? ⟨g, o + k, none⟩ = some (.int .u64 ww) := by rw [hrow.cell]; exact mid_at HLO.out HD.out
      have hfree := hrow.free (o + k)
      have hyc : wr.cell? ⟨gv, k, none⟩ = some (.int .u64 y) := by
        have h := hv.only hon hne
        rw [h.cell]; exact U64s_at HY.out
      have hyl : y * l ≤ 999999999000000000 := Nat.le_trans (Nat.mul_le_mul (show y ≤ 999999999 by omega) hl) (by omega)
      have hyl' : (y : Int) * (l : Int) ≤ 999999999000000000 := by rw [← Int.natCast_mul]; omega
      have hyl0 : 0 ≤ (y : Int) * (l : Int) := by rw [← Int.natCast_mul]; omega
      have HYL := hid hyl
      clear ew ey hyl
      by_cases hcmp : (ww : Int) < ((c : Int) + (y : Int) * (l : Int)) % 1000000000
      · have hcn : ww < (c + y * l) % 1000000000 := by
          have e1 : (((c + y * l) % 1000000000 : Nat) : Int) = ((c : Int) + (y : Int) * (l : Int)) % 1000000000 := by simp
          omega
        go_wp2
        go_roundw
        case rel =>
          refine ⟨k + 1, ((c + y * l) / 1000000000 + 1), d ++ [(ww + 1000000000 - (c + y * l) % 1000000000)], by omega, ?_, rfl, by simp, ?_, by simp [HD.out], ?_, ?_, only_set (only_set hon _ _) _ _⟩
          · have := HYL.out
            omega
          · have h1 := mid_put2 hrow HLO.out HD.out (.int .u64 ((ww : Int) + 1000000000)) (ww + 1000000000 - (c + y * l) % 1000000000)
            rw [show (((ww + 1000000000 - (c + y * l) % 1000000000) : Nat) : Int) = (ww : Int) + 1000000000 - (((c : Int) + (y : Int) * (l : Int)) % 1000000000) by
              have e1 : (((c + y * l) % 1000000000 : Nat) : Int) = ((c : Int) + (y : Int) * (l : Int)) % 1000000000 := by simp
              rw [← e1]; omega] at h1
            simpa using h1
          · rw [← HI.out, drop_at HW.out, drop_at HY.out, tkl_yes (by omega)]
            simp
          · rw [← HJ.out, drop_at HW.out, drop_at HY.out, tkc_yes (by omega)]
        case measure => simp [intOf]; omega
      · have hcn : ¬ ww < (c + y * l) % 1000000000 := by
          have e1 : (((c + y * l) % 1000000000 : Nat) : Int) = ((c : Int) + (y : Int) * (l : Int)) % 1000000000 := by simp
          omega
        go_wp2
        go_roundw
        case rel =>
          refine ⟨k + 1, ((c + y * l) / 1000000000), d ++ [(ww - (c + y * l) % 1000000000)], by omega, ?_, rfl, by simp, ?_, by simp [HD.out], ?_, ?_, only_set hon _ _⟩
          · have := HYL.out
            omega
          · have h1 := mid_put hrow HLO.out HD.out (ww - (c + y * l) % 1000000000)
            rw [show (((ww - (c + y * l) % 1000000000) : Nat) : Int) = (ww : Int) - (((c : Int) + (y : Int) * (l : Int)) % 1000000000) by
              have e1 : (((c + y * l) % 1000000000 : Nat) : Int) = ((c : Int) + (y : Int) * (l : Int)) % 1000000000 := by simp
              rw [← e1]; omega] at h1
            simpa using h1
          · rw [← HI.out, drop_at HW.out, drop_at HY.out, tkl_no (by omega)]
            simp
          · rw [← HJ.out, drop_at HW.out, drop_at HY.out, tkc_no (by omega)]
        case measure => simp [intOf]; omega
    · obtain rfl : k = n := by omega
      have hw0 : ws.drop k = [] := List.drop_of_length_le (by rw [HWS.out]; omega)
      have hy0 : ys.drop k = [] := List.drop_of_length_le (by rw [HYS.out]; omega)
      have hdone : d = tkl ws ys l 0 := by rw [← HI.out, hw0, hy0]; simp [tkl]
      have hcar : c = tkc ws ys l 0 := by rw [← HJ.out, hw0, hy0]; simp [tkc]
      rw [hw0, List.nil_append] at hrow
      have hcell : wr.cell? ⟨g, o + k, none⟩ = some (.int .u64 u0) := by rw [hrow.cell]; exact mid_at HLO.out HD.out
      have hfree := hrow.free (o + k)
      have hnext := mid_put hrow HLO.out HD.out 0
      have HDO := hid hdone
      have HCA := hid hcar
      clear hw0 hy0 hdone hcar HI HJ hv
      by_cases hcmp : u0 < c
      · go_wp2
        go_ret
        exact ⟨by rw [← HCA.out, decide_eq_true hcmp]; rfl, by rw [← HDO.out]; simpa using hnext, only_set hon _ _⟩
      · go_wp2
        go_ret
        exact ⟨by rw [← HCA.out, decide_eq_false hcmp]; rfl, by rw [← HDO.out]; simpa using hnext, only_set hon _ _⟩

def PutPost (g : Nat) (lo ws hi ys : List Nat) (w : World) (e : Ending) (w' : World) : Prop :=
  e = .returned (.tuple #[]) ∧ Row w' g 91 (U64s (lo ++ pbl ws ys 0 ++ hi)) ∧ w.grownBy w' (some g)
set_option maxHeartbeats 1600000 in
theorem put_l (g o gv n nw cw cv : Nat) (lo ws hi ys : List Nat) (w : World) (hrow0 : Row w g 91 (U64s (lo ++ ws ++ hi))) (hv : Row w gv 91 (U64s ys)) (hne : gv ≠ g)
    (hlo : lo.length = o) (hws : ws.length = n) (hys : ys.length = n) (hnw : n ≤ nw) (hn : nw ≤ 1001) (ho : o ≤ 1001) (bw : ∀ x ∈ ws, x < 1000000000) (by_ : ∀ y ∈ ys, y < 1000000000) :
    Calls Tryd.prog 111 #[.slice (some ⟨g, o, none⟩) nw cw, .slice (some ⟨gv, 0, none⟩) n cv] w (PutPost g lo ws hi ys w) := by
  have HLO := hid hlo
  have HWS := hid hws
  have HYS := hid hys
  have BW := hid bw
  have BY := hid by_
  clear hlo hws hys bw by_
  go_enter Tryd.func111, Tryd.ntmps111
  go_wp2
  go_loopw [4, 9] (fun cy i wr => ∃ (k c : Nat) (d : List Nat), k ≤ n ∧ c ≤ 1 ∧ i = .int .i64 k ∧ cy = .int .u64 c ∧ Row wr g 91 (U64s (lo ++ d ++ (ws.drop k ++ hi))) ∧ d.length = k ∧
      d ++ pbl (ws.drop k) (ys.drop k) c = pbl ws ys 0 ∧ w.grownBy wr (some g)) (fun _ i _ => n - (intOf i).toNat)
  case atStart => exact ⟨0, 0, [], by omega, by omega, rfl, rfl, by simpa using hrow0, rfl, rfl, only_refl w g⟩
  case round =>
    obtain ⟨k, c, d, hk, hc, rfl, rfl, hrow, hd, hinv, hon⟩ := hrel
    have HD := hid hd
    have HI := hid hinv
    clear hd hinv hrow0
    by_cases hlt : k < n
    · obtain ⟨ww, ew⟩ : ∃ x, ws[k]? = some x := ⟨_, List.getElem?_eq_getElem (by rw [HWS.out]; omega)⟩
      obtain ⟨y, ey⟩ : ∃ x, ys[k]? = some x := ⟨_, List.getElem?_eq_getElem (by rw [HYS.out]; omega)⟩
      have hwB := BW.out ww (mem_at ew)
      have hyB := BY.out y (mem_at ey)
      have HW := hid ew
      have HY := hid ey
      rw [drop_at ew, List.cons_append] at hrow
      have hcell : wr.cell? ⟨g, o + k, none⟩ = some (.int .u64 ww) := by rw [hrow.cell]; exact mid_at HLO.out HD.out
      have hfree := hrow.free (o + k)
      have hyc : wr.cell? ⟨gv, k, none⟩ = some (.int .u64 y) := by
        have h := hv.only hon hne
        rw [h.cell]; exact U64s_at HY.out
      clear ew ey
      go_wp2
      go_roundw
      case rel =>
        refine ⟨k + 1, (c + (ww + y)) / 1000000000, d ++ [(c + (ww + y)) % 1000000000], by omega, by omega, rfl, rfl, ?_, by simp [HD.out], ?_, only_set hon _ _⟩
        · have h1 := mid_put hrow HLO.out HD.out ((c + (ww + y)) % 1000000000)
          simpa using h1
        · rw [← HI.out, drop_at HW.out, drop_at HY.out, pbl]
          simp
      case measure => simp [intOf]; omega
    · obtain rfl : k = n := by omega
      have hw0 : ws.drop k = [] := List.drop_of_length_le (by rw [HWS.out]; omega)
      have hy0 : ys.drop k = [] := List.drop_of_length_le (by rw [HYS.out]; omega)
      have hdone : d = pbl ws ys 0 := by rw [← HI.out, hw0, hy0]; simp [pbl]
      rw [hw0, List.nil_append, hdone] at hrow
      clear hw0 hy0 hdone HI hv
      go_wp2
      go_end0
      exact ⟨rfl, hrow, hon⟩
end Go.Proofs.YtoilkfohhhidpaaDoor
/- (natural).divideLong -/
namespace Go.Proofs.YtoilkfohhhidpaaDoor
open Go.RowKit
def ScaleP (s : List Nat) (m : Nat) (w : World) (e : Ending) (w' : World) : Prop := ∃ g, e = .returned (.slice (some ⟨g, 0, none⟩) m m) ∧ w.heap.size ≤ g ∧ Row w' g 91 (U64s s) ∧ Ext w w'
theorem scaled_q (A : Option Addr) (ca n l m : Nat) (lq mq : Int) (xs : List Nat) (w : World) (ha : Rd w A (U64s xs)) (ln : xs.length = n) (hn : n ≤ 1001) (hm : m ≤ 1001) (bx : ∀ x ∈ xs, x < 1000000000) (hl : l < 1000000000) (hlq : lq = l) (hmq : mq = m) :
    Calls Tryd.prog 108 #[.slice A n ca, .int .u64 lq, .int .i64 mq] w (ScaleP (scl xs l m 0) m w) := by
  subst hlq hmq
  refine (scaled_l A ca n l m xs w ha ln hn hm bx hl).mono ?_
  rintro e w' ⟨g, he, h1, h2, h3⟩
  rw [scl_len] at he
  exact ⟨g, he, h1, h2, h3⟩
def DivLPost (q r : Nat) (w : World) (e : Ending) (w' : World) : Prop := ∃ v1 v2, e = .returned (.tuple #[v1, v2]) ∧ NatV w' v1 q ∧ NatV w' v2 r ∧ Ext w w'

/-- what holds at the head of the long division's loop: k digits are still to come -/
def LongInv (S ys : List Nat) (N n g gv gq : Nat) (w : World) (k : Nat) (wr : World) : Prop :=
  ∃ rl ql : List Nat, Row wr g 91 (U64s (S.take k ++ rl ++ List.replicate (N + 1 - k - n) 0)) ∧ rl.length = n ∧ (∀ x ∈ rl, x < 1000000000) ∧ K.lv rl < K.lv ys ∧
    Row wr gq 91 (U64s (List.replicate k 0 ++ ql)) ∧ ql.length = N - n + 1 - k ∧ (∀ x ∈ ql, x < 1000000000) ∧ K.lv (S.drop k) = K.lv ql * K.lv ys + K.lv rl ∧ Row wr gv 91 (U64s ys) ∧ Ext w wr

set_option maxRecDepth 100000 in
set_option maxHeartbeats 3200000 in
theorem divL_l (A B : Option Addr) (ca cb N m t : Nat) (xs ys : List Nat) (w : World) (ha : Rd w A (U64s xs)) (hb : Rd w B (U64s ys)) (ln : xs.length = N) (lm : ys.length = m + 2) (hN : N ≤ 1000) (hmN : m + 2 ≤ N)
    (bx : ∀ x ∈ xs, x < 1000000000) (by_ : ∀ y ∈ ys, y < 1000000000) (ht : ys[m + 1]? = some t) (ht0 : 0 < t) :
    Calls Tryd.prog 99 #[.slice A N ca, .slice B (m + 2) cb] w (DivLPost (K.lv xs / K.lv ys) (K.lv xs % K.lv ys) w) := by
  obtain ⟨b2, o2, t', eB, et, hb2, hyc⟩ := hb.at_ (k := m + 1) (by omega)
  obtain rfl : t' = t := by rw [ht] at et; injection et with et; exact et.symm
  subst eB
  have htB := by_ t' (mem_at ht)
  obtain ⟨hs0, hsB, hst, hsm⟩ := scale_top htB ht0
  have LN := hid ln
  have LM := hid lm
  have BX := hid bx
  have BY := hid by_
  have HT := hid ht
  have HST := hid hst
  have HSM := hid hsm
  have hd0 : ¬ (t' : Int) + 1 = 0 := by omega
  clear bx by_ ln lm ht et hst hsm
  obtain ⟨s, hs⟩ : ∃ s, 1000000000 / (t' + 1) = s := ⟨_, rfl⟩
  have hsq : (1000000000 : Int) / ((t' : Int) + 1) = s := by rw [← hs]; simp
  rw [hs] at hs0 hsB
  have HS := hid hs
  have HSQ := hid hsq
  clear hs hsq
  go_enter Tryd.func99, Tryd.ntmps99
  go_wp2_with fail
  refine (scaled_q A ca N s (N + 1) _ _ xs w ha LN.out (by omega) (by omega) BX.out hsB HSQ.out (by omega)).mono ?_
  rintro e w1 ⟨g, rfl, hg, hrow1, hx1⟩
  go_wp2_with fail
  refine (scaled_q _ cb (m + 2) s (m + 2) _ _ ys w1 (hb.ext hx1) LM.out (by omega) (by omega) BY.out hsB HSQ.out (by omega)).mono ?_
  rintro e w2 ⟨gv, rfl, hgv, hrow2, hx2⟩
  have hglt := hrow1.lt
  have hgvlt := hrow2.lt
  have hmk := fun w => mkNat (N - (m + 2) + 1) ((N : Int) - ((m : Int) + 2) + 1) (by omega) (by omega) w
  obtain ⟨hS, hY, hdr, y0, v2, v1, hYs, hy0, hYm, hYm1, hv1⟩ := scale_facts LN.out LM.out hmN BX.out BY.out HT.out ht0 HS.out
  have hSl := scl_len (N + 1) xs s 0
  have hSb := scl_lt (N + 1) xs s 0
  have hYl := scl_len (m + 2) ys s 0
  have hYb := scl_lt (m + 2) ys s 0
  generalize scl xs s (N + 1) 0 = S at *
  generalize scl ys s (m + 2) 0 = Y at *
  have FS := hid hS
  have FY := hid hY
  have FD := hid hdr
  have FYs := hid hYs
  have Fy0 := hid hy0
  have FYm := hid hYm
  have FYm1 := hid hYm1
  have FSl := hid hSl
  have FSb := hid hSb
  have FYl := hid hYl
  have FYb := hid hYb
  have FV1 := hid hv1
  clear hS hY hdr hYs hy0 hYm hYm1 hSl hSb hYl hYb hv1 ha hb hyc
  go_wp2_with fail
  go_loopw [10] (fun i wr => ∃ q : Int, -1 ≤ q ∧ q ≤ ((N - (m + 2) : Nat) : Int) ∧ i = .int .i64 q ∧ LongInv S Y N (m + 2) g gv w2.heap.size w (q + 1).toNat wr) (fun i _ => (intOf i + 1).toNat)
  case atStart =>
    refine ⟨((N - (m + 2) : Nat) : Int), by omega, by omega, rfl, S.drop (N - (m + 2) + 1), [], ?_, ?_, ?_, ?_, ?_, ?_, by simp, ?_, hrow2.alloc _, (hx1.step hx2).alloc' _⟩
    · rw [show (((N - (m + 2) : Nat) : Int) + 1).toNat = N - (m + 2) + 1 by omega, List.take_append_drop, show N + 1 - (N - (m + 2) + 1) - (m + 2) = 0 by omega]
      rw [List.replicate_zero, List.append_nil]
      exact (hrow1.ext hx2).alloc _
    · rw [List.length_drop, FSl.out]; omega
    · exact fun x hx => FSb.out x (List.mem_of_mem_drop hx)
    · exact FD.out
    · rw [show (((N - (m + 2) : Nat) : Int) + 1).toNat = N - (m + 2) + 1 by omega, List.append_nil, ← U64s_zeros]
      exact Row.made w2 _ _ _
    · simp
    · rw [show (((N - (m + 2) : Nat) : Int) + 1).toNat = N - (m + 2) + 1 by omega]; simp [K.lv]
  case round =>
    obtain ⟨q, hq1, hq2, rfl, hI⟩ := hrel
    clear hmk
    by_cases hq : 0 ≤ q
    · obtain ⟨j, rfl⟩ := Int.eq_ofNat_of_zero_le hq
      rw [show ((j : Int) + 1).toNat = j + 1 by omega] at hI
      obtain ⟨rl, ql, hrow, hrl, hrb, hrV, hqrow, hql, hqb, hval, hyrow, hext⟩ := hI
      obtain ⟨x, ex⟩ : ∃ x, S[j]? = some x := ⟨_, List.getElem?_eq_getElem (by rw [FSl.out]; omega)⟩
      have hxB := FSb.out x (mem_at ex)
      have HEX := hid ex
      obtain ⟨w0, u2, u1, u0, ew, hw0, hu2, hu1, hu0⟩ := split3 (ys := x :: rl) (m := m) (by rw [List.length_cons, hrl])
      have hlo : (S.take j).length = j := by rw [List.length_take, FSl.out]; omega
      have hcells : U64s (S.take (j + 1) ++ rl ++ List.replicate (N + 1 - (j + 1) - (m + 2)) 0) = U64s (S.take j ++ (w0 ++ [u2, u1]) ++ u0 :: List.replicate (N + 1 - (j + 1) - (m + 2)) 0) := by
        rw [List.take_succ_eq_append_getElem (by rw [FSl.out]; omega), show S[j]'(by rw [FSl.out]; omega) = x from (List.getElem?_eq_some_iff.1 ex).2]
        have e2 : S.take j ++ [x] ++ rl = S.take j ++ (w0 ++ [u2, u1]) ++ [u0] := by
          rw [List.append_assoc, List.singleton_append, ew]; simp
        rw [e2]; simp
      rw [hcells] at hrow
      have hwl : (w0 ++ [u2, u1]).length = m + 2 := by simp [hw0]
      have hwb : ∀ z ∈ x :: rl, z < 1000000000 := by
        intro z hz
        rcases List.mem_cons.1 hz with rfl | hz
        · exact hxB
        · exact hrb z hz
      have hwb2 : ∀ z ∈ w0 ++ [u2, u1], z < 1000000000 := fun z hz => hwb z (by rw [ew]; simp at hz ⊢; rcases hz with h | h | h <;> simp [h])
      have b1 : u1 < 1000000000 := hwb2 u1 (by simp)
      have b2 : u2 < 1000000000 := hwb2 u2 (by simp)
      have c0 : wr.cell? ⟨g, j + (m + 2), none⟩ = some (.int .u64 u0) := by rw [hrow.cell]; exact mid_at hlo hwl
      have c1 : wr.cell? ⟨g, j + (m + 1), none⟩ = some (.int .u64 u1) := by
        rw [hrow.cell, show S.take j ++ (w0 ++ [u2, u1]) ++ u0 :: List.replicate (N + 1 - (j + 1) - (m + 2)) 0 = S.take j ++ (w0 ++ [u2]) ++ u1 :: u0 :: List.replicate (N + 1 - (j + 1) - (m + 2)) 0 by simp]
        exact mid_at hlo (by simp [hw0])
      have c2 : wr.cell? ⟨g, j + m, none⟩ = some (.int .u64 u2) := by
        rw [hrow.cell, show S.take j ++ (w0 ++ [u2, u1]) ++ u0 :: List.replicate (N + 1 - (j + 1) - (m + 2)) 0 = S.take j ++ w0 ++ u2 :: u1 :: u0 :: List.replicate (N + 1 - (j + 1) - (m + 2)) 0 by simp]
        exact mid_at hlo hw0
      have d1 : wr.cell? ⟨gv, m + 1, none⟩ = some (.int .u64 v1) := by rw [hyrow.cell]; exact U64s_at FYm1.out
      have d2 : wr.cell? ⟨gv, m, none⟩ = some (.int .u64 v2) := by rw [hyrow.cell]; exact U64s_at FYm.out
      have bv1 := FYb.out v1 (mem_at FYm1.out)
      have bv2 := FYb.out v2 (mem_at FYm.out)
      have hlw0 : K.lv w0 < 1000000000 ^ m := by
        have := K.lv_lt w0 (fun z hz => hwb2 z (List.mem_append_left _ hz))
        rwa [hw0] at this
      have hly0 : K.lv y0 < 1000000000 ^ m := by
        have := K.lv_lt y0 (fun z hz => FYb.out z (by rw [FYs.out]; exact List.mem_append_left _ hz))
        rwa [Fy0.out] at this
      have eV : K.lv Y = K.lv y0 + 1000000000 ^ m * (v2 + 1000000000 * v1) := by rw [FYs.out, K.lv_append, Fy0.out]; simp [K.lv]
      have eU : K.lv (x :: rl) = K.lv w0 + 1000000000 ^ m * (u2 + 1000000000 * (u1 + 1000000000 * u0)) := by rw [ew, K.lv_append, hw0]; simp [K.lv]
      have eU2 : K.lv (x :: rl) = x + 1000000000 * K.lv rl := rfl
      have eUw : K.lv (w0 ++ [u2, u1]) + 1000000000 ^ Y.length * u0 = K.lv (x :: rl) := by
        rw [eU, K.lv_append, hw0, FYl.out, Nat.pow_add, Nat.mul_assoc, Nat.add_assoc, ← Nat.mul_add]
        simp only [K.lv]
        congr 2
        omega
      obtain ⟨U, hU⟩ : ∃ U, K.lv (x :: rl) = U := ⟨_, rfl⟩
      rw [hU] at eU eU2 eUw
      have hUV : U < 1000000000 * K.lv Y := by omega
      obtain ⟨kn1, kn2, kn3, kn4, kn5⟩ := knuth hly0 hlw0 bv2 b1 b2 FV1.out eV eU hUV
      have hVpos : 0 < K.lv Y := by omega
      have hdm : K.lv (w0 ++ [u2, u1]) + 1000000000 ^ Y.length * u0 = U / K.lv Y * K.lv Y + U % K.lv Y := by
        rw [eUw, Nat.mul_comm]; exact (Nat.div_add_mod U _).symm
      have hmodlt := Nat.mod_lt U hVpos
      have HQB9 := hid kn3
      have HVP := hid hVpos
      have HU := hid eU2
      have HLO := hid hlo
      have HWL := hid hwl
      have HWB := hid hwb2
      have HDM := hid hdm
      have HML := hid hmodlt
      have HK5 := hid kn5
      have HQL := hid hql
      have hqcell : wr.cell? ⟨w2.heap.size, j, none⟩ = some (.int .u64 0) := by
        rw [hqrow.cell, List.replicate_succ', List.append_assoc]
        exact U64s_mid0 (by simp)
      have hqfree := hqrow.free j
      have hqlt := hqrow.lt
      rw [List.replicate_succ', List.append_assoc, List.singleton_append] at hqrow
      have hjN : j ≤ 1000 := by omega
      clear hw0 hu0 hu1 hu2 ew hcells hlo hwl hwb hwb2 hlw0 hly0 eV eU eU2 eUw hU hUV hVpos hdm hmodlt ex hql
      go_wp2_with fail
      rw [show j + (m + 2) + 1 - j = m + 3 by omega]
      refine (guess_l g j gv m _ _ u0 u1 u2 v1 v2 (U / K.lv Y) wr (by omega) c0 c1 c2 d1 d2 kn1 b1 b2 bv1 bv2 FV1.out kn2 kn3 kn4).mono ?_
      rintro e w3 ⟨l, left, rfl, hw3, he, hql2, hlB, hexit⟩
      have hle := HK5.out l left he hlB hexit
      have hrow3 := hrow.ext hw3.ext
      have hyrow3 := hyrow.ext hw3.ext
      have hqrow3 := hqrow.ext hw3.ext
      have hext3 := hext.step hw3.ext
      clear he hexit HK5 kn1 kn2 kn3 kn4 kn5 c0 c1 c2 d1 d2
      go_wp2_with fail
      refine (take_l g j gv (m + 2) _ _ u0 l (S.take j) (w0 ++ [u2, u1]) (List.replicate (N + 1 - (j + 1) - (m + 2)) 0) Y w3 hrow3 hyrow3 (by omega) HLO.out HWL.out FYl.out (by omega) (by omega) hlB HWB.out FYb.out).mono ?_
      rintro e w4 ⟨rfl, hrow4, hon4⟩
      have hyrow4 := hyrow3.only hon4 (by omega)
      have hqrow4 := hqrow3.only hon4 (by omega)
      have hext4 := hext3.only hon4 (by omega)
      by_cases hlq : l = U / K.lv Y
      · have hex := step_exact (l := l) (by rw [HWL.out, FYl.out]) HWB.out FYb.out HDM.out HML.out hlq
        rw [decide_eq_false (by omega)]
        have HR := hid hex.2
        have HQC := hid hqrow4
        have hqc : w4.cell? ⟨w2.heap.size, j, none⟩ = some (.int .u64 0) := by rw [hqrow4.cell]; exact U64s_mid0 (by simp)
        have hqf := hqrow4.free j
        have HLQ := hid hlq
        clear hex hqrow4 hqrow3 hqrow hqcell hlq
        go_wp2
        go_roundw
        case rel =>
          refine ⟨(j : Int) - 1, by omega, by omega, rfl, ?_⟩
          rw [show ((j : Int) - 1 + 1).toNat = j by omega]
          refine ⟨tkl (w0 ++ [u2, u1]) Y l 0, l :: ql, ?_, ?_, ?_, by rw [HR.out]; exact Nat.mod_lt _ HVP.out, ?_, by rw [List.length_cons, HQL.out]; omega, ?_, ?_, ?_, ?_⟩
          · have h1 := (hrow4).far (p := ⟨w2.heap.size, j, none⟩) (by show g ≠ w2.heap.size; omega) (.int .u64 (l : Int))
            rw [List.append_assoc] at h1 ⊢
            rw [show N + 1 - j - (m + 2) = N + 1 - (j + 1) - (m + 2) + 1 by omega, zeros_succ]
            exact h1
          · rw [tkl_len _ _ _ _ (by rw [HWL.out, FYl.out]), FYl.out]
          · exact tkl_lt _ _ _ _ HWB.out
          · have h1 := Row.step0 (k := j) HQC.out (by simp) l
            simpa using h1
          · intro z hz
            rcases List.mem_cons.1 hz with rfl | hz
            · rw [HLQ.out]; exact HQB9.out
            · exact hqb z hz
          · rw [HR.out, drop_at HEX.out, K.lv, K.lv, HLQ.out]
            exact long_step hval U HU.out
          · exact (hyrow4).far (by show gv ≠ w2.heap.size; omega) _
          · exact (hext4).set' (by show w.heap.size ≤ w2.heap.size; exact Nat.le_trans (hx1.step hx2).size (Nat.le_refl _)) _
        case measure => simp [intOf]
      · have hlq1 : l = U / K.lv Y + 1 := by omega
        have hov := step_over (l := l) (by rw [HWL.out, FYl.out]) HWB.out FYb.out HDM.out HML.out hlq1
        rw [decide_eq_true hov.1]
        have HR := hid hov.2
        have hl1 : 1 ≤ l := by rw [hlq1]; exact Nat.le_add_left 1 _
        have HLQ := hid hlq1
        clear hov hlq hqcell hlq1
        go_wp2_with fail
        refine (put_l g j gv (m + 2) (m + 3) _ _ (S.take j) (tkl (w0 ++ [u2, u1]) Y l 0) (0 :: List.replicate (N + 1 - (j + 1) - (m + 2)) 0) Y w4 hrow4 hyrow4 (by omega) HLO.out (by rw [tkl_len _ _ _ _ (by rw [HWL.out, FYl.out]), FYl.out]) FYl.out (by omega) (by omega) (by omega) (tkl_lt _ _ _ _ HWB.out) FYb.out).mono ?_
        rintro e w5 ⟨rfl, hrow5, hon5⟩
        have hyrow5 := hyrow4.only hon5 (by omega)
        have hqrow5 := hqrow4.only hon5 (by omega)
        have hext5 := hext4.only hon5 (by omega)
        have HQC := hid hqrow5
        have hqc : w5.cell? ⟨w2.heap.size, j, none⟩ = some (.int .u64 0) := by rw [hqrow5.cell]; exact U64s_mid0 (by simp)
        have hqf := hqrow5.free j
        clear hqrow5 hqrow4 hqrow3 hqrow
        go_wp2
        go_roundw
        case rel =>
          have hlv : (l : Int) - 1 = ((U / K.lv Y : Nat) : Int) := by rw [HLQ.out, Int.natCast_add]; exact Int.add_sub_cancel _ _
          rw [hlv]
          refine ⟨(j : Int) - 1, by omega, by omega, rfl, ?_⟩
          rw [show ((j : Int) - 1 + 1).toNat = j by omega]
          refine ⟨pbl (tkl (w0 ++ [u2, u1]) Y l 0) Y 0, (U / K.lv Y) :: ql, ?_, ?_, ?_, by rw [HR.out]; exact Nat.mod_lt _ HVP.out, ?_, by rw [List.length_cons, HQL.out]; omega, ?_, ?_, ?_, ?_⟩
          · have h1 := (hrow5).far (p := ⟨w2.heap.size, j, none⟩) (by show g ≠ w2.heap.size; omega) (.int .u64 ((U / K.lv Y : Nat) : Int))
            rw [List.append_assoc] at h1 ⊢
            rw [show N + 1 - j - (m + 2) = N + 1 - (j + 1) - (m + 2) + 1 by omega, zeros_succ]
            exact h1
          · rw [pbl_len _ _ _ (by rw [tkl_len _ _ _ _ (by rw [HWL.out, FYl.out])]), FYl.out]
          · exact pbl_lt _ _ _
          · have h1 := Row.step0 (k := j) HQC.out (by simp) (U / K.lv Y)
            simpa using h1
          · intro z hz
            rcases List.mem_cons.1 hz with rfl | hz
            · exact HQB9.out
            · exact hqb z hz
          · rw [HR.out, drop_at HEX.out, K.lv, K.lv]
            exact long_step hval U HU.out
          · exact (hyrow5).far (by show gv ≠ w2.heap.size; omega) _
          · exact (hext5).set' (by show w.heap.size ≤ w2.heap.size; exact Nat.le_trans (hx1.step hx2).size (Nat.le_refl _)) _
        case measure => simp [intOf]
    · rw [show (q + 1).toNat = 0 by omega] at hI
      obtain ⟨rl, ql, hrow, hrl, hrb, hrV, hqrow, hql, hqb, hval, hyrow, hext⟩ := hI
      simp only [List.take_zero, List.nil_append, List.replicate_zero, List.drop_zero, Nat.sub_zero] at hrow hqrow hql hval
      have hdm := div_of hval hrV
      rw [FS.out, FY.out, Nat.mul_div_mul_right _ _ hs0, Nat.mul_mod_mul_right] at hdm
      have hlen : (rl ++ List.replicate (N + 1 - (m + 2)) 0).length = N + 1 := by rw [List.length_append, hrl, List.length_replicate]; omega
      have hlvr : K.lv (rl ++ List.replicate (N + 1 - (m + 2)) 0) = K.lv rl := by rw [K.lv_append, K.lv_zeros]; omega
      have hlb : ∀ z ∈ rl ++ List.replicate (N + 1 - (m + 2)) 0, z < 1000000000 := by
        intro z hz
        rcases List.mem_append.1 hz with h | h
        · exact hrb z h
        · have := List.eq_of_mem_replicate h; omega
      generalize rl ++ List.replicate (N + 1 - (m + 2)) 0 = R at *
      have HDM := hid hdm
      have HLEN := hid hlen
      have HLV := hid hlvr
      have HQL := hid hql
      clear hdm hlen hlvr hval hql hrl hyrow hrow1 hrow2
      go_wp2_with fail
      refine (trimmed _ (N + 1) (N + 1) R _ hrow.rd0 HLEN.out (by omega) (Nat.le_refl _)).mono ?_
      rintro e w3 ⟨k, hk, rfl, hcut, hw3⟩
      have hk2 : k ≤ N + 1 := by rw [← HLEN.out]; exact hk
      have hrd3 : Rd w3 (some ⟨g, 0, none⟩) (U64s (R.take k)) := by
        have h0 := (hrow.rd0).take k
        rw [show (U64s R).take k = U64s (R.take k) by simp [U64s]] at h0
        exact h0.drew hw3
      have hq3 := hqrow.ext hw3.ext
      have hlim := hcut.lim hlb
      have hlv3 := hcut.lv
      have hkl : (R.take k).length = k := by rw [List.length_take]; omega
      have HKL := hid hkl
      have HL3 := hid hlv3
      clear hlv3 hkl hk hcut hlb hrow
      have hlimB := hlim.1
      go_wp2_with fail
      rw [HSQ.out]
      refine (divS_l _ (N + 1) k s (R.take k) w3 hrd3 HKL.out (by omega) hlimB hs0 (by omega)).mono ?_
      rintro e w4 ⟨v4, rfl, hv4, hx4⟩
      rw [HL3.out, HLV.out] at *
      have hq4 := hq3.ext hx4
      go_wp2_with fail
      refine (trimmed _ (N - (m + 2) + 1) (N - (m + 2) + 1) ql _ hq4.rd0 (by rw [HQL.out]) (by omega) (Nat.le_refl _)).mono ?_
      intro e w5 hp
      have hx5 := (hext.step hw3.ext).step hx4
      have hs5 : SumPost (K.lv ql) w e w5 := SumPost.of_trim hq4 hx5 hqb rfl e w5 (by rw [HQL.out]; exact hp)
      have hd5 : Drew w4 w5 := by obtain ⟨_, _, _, _, h⟩ := hp; exact h
      obtain ⟨v5, rfl, hv5, hx6⟩ := hs5
      go_wp2
      go_ret2
      refine ⟨v5, v4, rfl, ?_, ?_, hx6⟩
      · rw [HDM.out.1]; exact hv5
      · have h := hv4.ext hd5.ext
        rwa [← HDM.out.2, Nat.mul_div_cancel _ hs0] at h
end Go.Proofs.YtoilkfohhhidpaaDoor
/- (natural).divide -/
namespace Go.Proofs.YtoilkfohhhidpaaDoor
open Go.RowKit
theorem NatV.zero (w : World) : NatV w (.slice none 0 0) 0 := ⟨none, 0, 0, [], rfl, rfl, Nat.le_refl _, Rd.nil _ _, K.Lim.nil, rfl⟩
set_option maxRecDepth 100000 in
set_option maxHeartbeats 1600000 in
theorem div_any (va vb : Value) (a b : Nat) (w : World) (ha : NatV w va a) (hb : NatV w vb b) (la : a ≤ BIG) (lb : b ≤ BIG) (h0 : 0 < b) :
    Calls Tryd.prog 87 #[va, vb] w (DivLPost (a / b) (a % b) w) := by
  by_cases hab : a < b
  · go_enter Tryd.func87, Tryd.ntmps87
    go_wp2_with fail
    refine (natCmp_any va vb a b w ha hb la lb).mono ?_
    rintro e w1 ⟨rfl, hw1⟩
    rw [show sgn a b = -1 by unfold sgn; rw [if_pos hab]]
    have hq : a / b = 0 := Nat.div_eq_of_lt hab
    have hr : a % b = a := Nat.mod_eq_of_lt hab
    have HQ := hid hq
    have HR := hid hr
    clear hq hr
    go_wp2
    go_ret2
    exact ⟨_, _, rfl, by rw [HQ.out]; exact NatV.zero _, by rw [HR.out]; exact ha.ext hw1.ext, hw1.ext⟩
  · obtain ⟨A, n, ca, xs, hva, h2, h3, h4, h5, h6⟩ := ha
    obtain ⟨B, m, cb, ys, hvb, k2, k3, k4, k5, k6⟩ := hb
    have hn := len_of_big h5 (by omega)
    have hm := len_of_big k5 (by omega)
    have hn' : n ≤ 1000 := by omega
    have hmn : m ≤ n := by
      have := len_of_lt k5 xs.length (by have := K.lv_lt xs h5.1; omega)
      omega
    have hm0 : m ≠ 0 := by
      intro e; subst e
      have : ys = [] := List.eq_nil_of_length_eq_zero k2
      subst this
      simp [K.lv] at k6; omega
    have hcmp := natCmp_any va vb a b w ⟨A, n, ca, xs, hva, h2, h3, h4, h5, h6⟩ ⟨B, m, cb, ys, hvb, k2, k3, k4, k5, k6⟩ la lb
    have hsg : 0 ≤ sgn a b := by unfold sgn; rw [if_neg hab]; split <;> omega
    have HC := hid hcmp
    clear hcmp
    subst hva hvb
    by_cases hm1 : m = 1
    · subst hm1
      obtain ⟨b1, o1, x, eB, ey, hb1, hy⟩ := k4.at_ (k := 0) (by omega)
      subst eB
      have hx : ys = [x] := by
        match ys, k2, ey with
        | [y], _, ey => simp at ey; rw [ey]
      have hbx : b = x := by rw [← k6, hx]; simp [K.lv]
      have hxB := k5.1 x (mem_at ey)
      subst hbx
      have hvA : NatV w (.slice A n ca) a := ⟨A, n, ca, xs, rfl, h2, h3, h4, h5, h6⟩
      clear h2 h6 k2 k6 ey hx k4 k5 k3 hn hm h4 h5 h3 hmn hm0 hn'
      have hU : U64s [a % b] = [.int .u64 ((a : Int) % (b : Int))] := by simp [U64s]
      have HU := hid hU
      have HXB := hid hxB
      clear hU hxB
      go_enter Tryd.func87, Tryd.ntmps87
      go_wp2_with fail
      refine HC.out.mono ?_
      rintro e w1 ⟨rfl, hw1⟩
      have hy1 : w1.cell? ⟨b1, o1 + 0, none⟩ = some (.int .u64 (b : Int)) := by obtain ⟨_, rfl⟩ := hw1; exact hy
      have hy2 : w1.cell? ⟨b1, o1, none⟩ = some (.int .u64 (b : Int)) := hy1
      clear hy1 hy
      go_wp2_with fail
      refine (divS_any _ a b w1 (hvA.ext hw1.ext) la h0 (by have := HXB.out; omega)).mono ?_
      rintro e w2 ⟨v2, rfl, hv2, hx2⟩
      have hmod : a % b < 1000000000 := Nat.lt_trans (Nat.mod_lt _ h0) HXB.out
      have HML := hid hmod
      clear hmod hab la lb
      go_wp2_with fail
      have hrow : Row (w2.alloc (.cells #[.int .u64 ((a : Int) % (b : Int))] 91)) w2.heap.size 91 (U64s [a % b]) := by rw [HU.out]; exact Row.new w2 _ _
      refine (trimmed (some ⟨w2.heap.size, 0, none⟩) 1 1 [a % b] _ (Row.rd0 hrow) rfl (by omega) (by omega)).mono ?_
      rintro e w3 ⟨k, hk, rfl, hcut, hw3⟩
      have hE : Ext w w3 := ((hw1.ext.step hx2).alloc' _).step hw3.ext
      have hv3 : NatV w3 v2 (a / b) := hv2.ext (((Ext.rfl' w2).alloc' _).step hw3.ext)
      have hlim := hcut.lim (by intro z hz; rw [List.mem_singleton.1 hz]; exact HML.out)
      have hlv := hcut.lv
      have hk1 : k ≤ 1 := hk
      have HLV := hid hlv
      have HCU := hid hcut
      clear hlv hcut hk
      go_wp2
      go_ret2
      refine ⟨v2, _, rfl, hv3, ⟨_, k, 1, [a % b].take k, rfl, by rw [List.length_take, List.length_singleton]; omega, hk1, ?_, hlim, by rw [HLV.out]; simp [K.lv]⟩, hE⟩
      have h0 := (Row.rd0 hrow).take k
      rw [show (U64s [a % b]).take k = U64s ([a % b].take k) from (List.map_take ..).symm] at h0
      exact h0.ext hw3.ext
    · obtain ⟨m', rfl⟩ : ∃ m', m = m' + 2 := ⟨m - 2, by omega⟩
      obtain ⟨t, ht⟩ : ∃ t, ys[m' + 1]? = some t := ⟨_, List.getElem?_eq_getElem (by omega)⟩
      have ht0 : 0 < t := by
        have h := k5.2
        rw [List.getLast?_eq_getElem?, k2, show m' + 2 - 1 = m' + 1 by omega, ht] at h
        rcases Nat.eq_zero_or_pos t with e | e
        · subst e; exact absurd rfl h
        · exact e
      have HA := hid h2
      have HV := hid h6
      have HB := hid k2
      have HW := hid k6
      have HT := hid ht
      clear h2 h6 k2 k6 ht
      go_enter Tryd.func87, Tryd.ntmps87
      go_wp2_with fail
      refine HC.out.mono ?_
      rintro e w1 ⟨rfl, hw1⟩
      go_wp2_with fail
      refine (divL_l A B ca cb n m' t xs ys w1 (h4.drew hw1) (k4.drew hw1) HA.out HB.out (by omega) hmn h5.1 k5.1 HT.out ht0).mono ?_
      rintro e w2 ⟨v1, v2, rfl, hv1, hv2, hx2⟩
      rw [HV.out, HW.out] at *
      go_wp2
      go_ret2
      exact ⟨v1, v2, rfl, hv1, hv2, hw1.ext.step hx2⟩
end Go.Proofs.YtoilkfohhhidpaaDoor
