/- (natural).times -/
import Derived.Test.YtdbaemadphhhcaaDoorMinus
namespace Go.Proofs.YtdbaemadphhhcaaDoor
open Go.RowKit
theorem mid_at {a b rest : List Nat} {x k j : Nat} (ha : a.length = k) (hb : b.length = j) : (U64s (a ++ b ++ x :: rest))[k + j]? = some (.int .u64 (x : Int)) := by
  have h := U64s_mid (done := a ++ b) (rest := rest) (sp := []) (x := x) (k := k + j) (by simp [ha, hb])
  simpa using h
theorem mid_put {w : World} {g : Nat} {t : TypeId} {a b rest : List Nat} {x k j : Nat} (h : Row w g t (U64s (a ++ b ++ x :: rest))) (ha : a.length = k) (hb : b.length = j) (v : Nat) :
    Row (w.setCell ⟨g, k + j, none⟩ (.int .u64 (v : Int))) g t (U64s (a ++ (b ++ [v]) ++ rest)) := by
  have h1 := Row.step1 (done := a ++ b) (rest := rest) (sp := []) (x := x) (k := k + j) (by simpa using h) (by simp [ha, hb]) v
  simpa using h1

set_option maxHeartbeats 1600000 in
theorem times_l (A B : Option Addr) (ca cb n m : Nat) (xs ys : List Nat) (w : World) (ha : Rd w A (U64s xs)) (hb : Rd w B (U64s ys)) (ln : xs.length = n) (lm : ys.length = m) (hn : n ≤ 1000) (hm : m ≤ 1000)
    (bx : ∀ x ∈ xs, x < 1000000000) (by_ : ∀ y ∈ ys, y < 1000000000) :
    Calls Tryd.prog 68 #[.slice A n ca, .slice B m cb] w (SumPost (K.lv xs * K.lv ys) w) := by
  have LN := hid ln
  have LM := hid lm
  have BX := hid bx
  have BY := hid by_
  have hmk := fun w => mkNat (n + m) ((n : Int) + m) (by omega) (by omega) w
  clear bx by_ ln lm
  go_enter Tryd.func68, Tryd.ntmps68
  go_wp2
  go_loopw [19] (fun i wr => ∃ (k : Nat) (done ps : List Nat), k ≤ n ∧ i = .int .i64 k ∧ Row wr w.heap.size 76 (U64s (done ++ ps ++ List.replicate (n - k) 0)) ∧ done.length = k ∧ ps.length = m ∧ (∀ p ∈ ps, p < 1000000000) ∧
      done ++ mulL (xs.drop k) ys ps = mulL xs ys (List.replicate m 0) ∧ Ext w wr) (fun i _ => n - (intOf i).toNat)
  case atStart => exact ⟨0, [], List.replicate m 0, by omega, rfl, by
    have h := Row.made w 76 (.int .u64 0) (n + m)
    rw [U64s_zeros, show n + m = m + n by omega, ← List.replicate_append_replicate] at h
    rw [show m + n = n + m by omega] at h
    exact h, rfl, by simp, by simp, rfl, (Ext.rfl' w).alloc' _⟩
  case round =>
    obtain ⟨k, done, ps, hk, rfl, hrow, hd, hp, hpl, hinv, hext⟩ := hrel
    have HD := hid hd
    have HP := hid hp
    have HPL := hid hpl
    have HI := hid hinv
    clear hd hp hpl hinv hmk
    by_cases hlt : k < n
    · obtain ⟨b1, o1, x, eA, ex, hb1, hx⟩ := (ha.ext hext).at_ (k := k) (by rw [LN.out]; omega)
      subst eA
      have hxB := BX.out x (mem_at ex)
      have HX := hid ex
      have hz : n - k = (n - (k + 1)) + 1 := by omega
      have HZ := hid hz
      clear ex hz ha
      obtain ⟨wo, rfl⟩ : ∃ wo : World, wo = wr := ⟨_, rfl⟩
      go_wp2
      go_loopw [8, 9, 10, 26] (fun cy _ _ j wr => ∃ (j' c : Nat) (d : List Nat), j' ≤ m ∧ c < 1000000000 ∧ j = .int .i64 j' ∧ cy = .int .u64 c ∧ Row wr w.heap.size 76 (U64s (done ++ d ++ (ps.drop j' ++ 0 :: List.replicate (n - (k + 1)) 0))) ∧ d.length = j' ∧
          d ++ rowm (ps.drop j') x (ys.drop j') c = rowm ps x ys 0 ∧ Ext w wr) (fun _ _ _ j _ => m - (intOf j).toNat)
      case atStart => exact ⟨0, 0, [], by omega, by omega, rfl, rfl, by rw [HZ.out, zeros_succ] at hrow; simpa using hrow, rfl, rfl, hext⟩
      case round =>
        obtain ⟨j, c, d, hj, hc, rfl, rfl, hrow2, hd2, hinv2, hext2⟩ := hrel
        have HD2 := hid hd2
        have HI2 := hid hinv2
        clear hd2 hinv2 hrow hext
        by_cases hjm : j < m
        · obtain ⟨b2, o2, y, eB, ey, hb2, hy⟩ := (hb.ext hext2).at_ (k := j) (by rw [LM.out]; omega)
          subst eB
          have hyB := BY.out y (mem_at ey)
          have HY := hid ey
          obtain ⟨p, ep⟩ : ∃ p, ps[j]? = some p := ⟨_, List.getElem?_eq_getElem (by rw [HP.out]; omega)⟩
          have hpB := HPL.out p (mem_at ep)
          have HPE := hid ep
          rw [drop_at ep, List.cons_append] at hrow2
          have hcell : wr.cell? ⟨w.heap.size, k + j, none⟩ = some (.int .u64 p) := by rw [hrow2.cell]; exact mid_at HD.out HD2.out
          have hfree := hrow2.free (k + j)
          have hxy := prod_lt hxB hyB
          have hxy' : (x : Int) * (y : Int) ≤ 999999998000000001 := by rw [← Int.natCast_mul]; omega
          have hxy0 : 0 ≤ (x : Int) * (y : Int) := by rw [← Int.natCast_mul]; omega
          clear ey ep hb hxy
          go_wp2
          go_roundw
          case rel =>
            refine ⟨j + 1, (c + (p + x * y)) / 1000000000, d ++ [(c + (p + x * y)) % 1000000000], by omega, ?_, rfl, ?_, ?_, by simp [HD2.out], ?_, hext2.set' (Nat.le_refl _) _⟩
            · have := prod_lt hxB hyB
              omega
            · simp
            · have h1 := mid_put hrow2 HD.out HD2.out ((c + (p + x * y)) % 1000000000)
              simpa using h1
            · rw [← HI2.out, drop_at HPE.out, drop_at HY.out, rowm]
              simp
          case measure => simp [intOf]; omega
        · obtain rfl : j = m := by omega
          have hps : ps.drop j = [] := List.drop_of_length_le (by rw [HP.out]; omega)
          have hys : ys.drop j = [] := List.drop_of_length_le (by rw [LM.out]; omega)
          rw [hps, List.nil_append] at hrow2
          have hcell : wr.cell? ⟨w.heap.size, k + j, none⟩ = some (.int .u64 0) := by rw [hrow2.cell]; exact mid_at HD.out HD2.out
          have hfree := hrow2.free (k + j)
          have hq : Hid (d ++ [c] = rowm ps x ys 0) := by
            have h := HI2.out
            rw [hps, hys] at h
            exact h
          have hnext := mid_put hrow2 HD.out HD2.out c
          clear hps hys hb HI2
          go_wp2
          go_roundw
          case rel =>
            have hql : (rowm ps x ys 0).length = j + 1 := by rw [rowm_len _ _ _ _ (by rw [HP.out, LM.out]), LM.out]
            have hqb := rowm_lt ps x ys 0 HPL.out hxB BY.out (by omega)
            have hm := HI.out
            rw [drop_at HX.out, mulL] at hm
            rw [hq.out] at hnext
            generalize rowm ps x ys 0 = q at *
            match q, hql with
            | h :: tl, hql =>
              refine ⟨k + 1, done ++ [h], tl, by omega, rfl, ?_, by simp [HD.out], by simpa using hql, fun p hp => hqb p (List.mem_cons_of_mem _ hp), ?_, hext2.set' (Nat.le_refl _) _⟩
              · simpa using hnext
              · simpa using hm
          case measure => simp [intOf]; omega
    · obtain rfl : k = n := by omega
      have hres : Row wr w.heap.size 76 (U64s (mulL xs ys (List.replicate m 0))) := by
        have hx0 : xs.drop k = [] := List.drop_of_length_le (by rw [LN.out]; omega)
        rw [← HI.out, hx0]
        simpa [mulL] using hrow
      have hval : K.lv (mulL xs ys (List.replicate m 0)) = K.lv xs * K.lv ys := by rw [lv_mulL _ _ _ (by simp [LM.out]), K.lv_zeros]; omega
      have hlims : ∀ x ∈ mulL xs ys (List.replicate m 0), x < 1000000000 := mulL_lt _ _ _ (by simp [LM.out]) BX.out BY.out (by simp)
      have hlen : (mulL xs ys (List.replicate m 0)).length = k + m := by rw [mulL_len _ _ _ (by simp [LM.out]), LN.out, LM.out]
      clear HI
      generalize mulL xs ys (List.replicate m 0) = s at *
      have HL := hid hlen
      have HV := hid hval
      clear hlen hval ha hb
      go_wp2_with fail
      refine (trimmed _ (k + m) (k + m) s _ hres.rd0 HL.out (by omega) (by omega)).mono ?_
      intro e w' hp
      have hq : SumPost (K.lv xs * K.lv ys) w e w' := SumPost.of_trim hres hext hlims HV.out e w' (by rw [HL.out]; exact hp)
      obtain ⟨v, rfl, hq⟩ := hq
      go_wp2
      go_ret
      exact ⟨v, rfl, hq⟩
theorem times_any (va vb : Value) (a b : Nat) (w : World) (ha : NatV w va a) (hb : NatV w vb b) (la : a ≤ BIG) (lb : b ≤ BIG) :
    Calls Tryd.prog 68 #[va, vb] w (SumPost (a * b) w) := by
  obtain ⟨A, n, ca, xs, rfl, h2, _, h4, h5, rfl⟩ := ha
  obtain ⟨B, m, cb, ys, rfl, k2, _, k4, k5, rfl⟩ := hb
  have hn := len_of_big h5 la
  have hm := len_of_big k5 lb
  exact times_l A B ca cb n m xs ys w h4 k4 h2 k2 (by omega) (by omega) h5.1 k5.1
end Go.Proofs.YtdbaemadphhhcaaDoor
