/- (number).power: the walk -/
import Derived.Test.YtdbaemadphhhcaaDoorPow
namespace Go.Proofs.YtdbaemadphhhcaaDoor
open Go.RowKit
theorem bitLen_le : ∀ (k x : Nat), x < 2 ^ k → k ≤ 60 → x < 2 ^ Lib.bitLen x ∧ Lib.bitLen x ≤ k
  | 0, x, h, _ => by
    have : x = 0 := by simpa using h
    subst this
    exact ⟨by decide, by decide⟩
  | k + 1, x, h, hk => by
    by_cases h0 : x = 0
    · subst h0
      exact ⟨by decide, Nat.le_trans (show Lib.bitLen 0 ≤ 0 by decide) (Nat.zero_le _)⟩
    · have h64 : x < 2 ^ 64 := Nat.lt_of_lt_of_le h (Nat.pow_le_pow_right (by omega) (by omega))
      have ih := bitLen_le k (x / 2) (by rw [Nat.pow_succ] at h; omega) (by omega)
      rw [Lib.bitLen_half x h0 h64, Nat.add_comm, Nat.pow_succ]
      omega
theorem bitLen_lt (n : Nat) (hn : n ≤ 10000) : n < 2 ^ Lib.bitLen n ∧ Lib.bitLen n ≤ 14 := bitLen_le 14 n (by omega) (by omega)
set_option maxRecDepth 100000 in
set_option maxHeartbeats 3200000 in
theorem npow_any (va : Value) (m : Int) (n : Nat) (w : World) (ha : NumV w va m) (la : K.fits m) (hn : n ≤ 10000) :
    Calls Tryd.prog 60 #[va, .int .i64 (n : Int)] w (PowPost m n w) := by
  obtain ⟨sa, ba, rfl, hba, hza⟩ := ha
  obtain ⟨A, ka, ca, rfl⟩ := hza.slice
  obtain ⟨hbl, hb14⟩ := bitLen_lt n hn
  have HBL := hid hbl
  have HBA := hid hba
  have HFT := hid (fits_top la)
  have HFB := hid (fits_big la)
  clear hbl hba la
  go_enter Tryd.func60, Tryd.ntmps60
  go_wp2_with fail
  refine (Shelf.l_bits_Len _ _ (by omega) (by omega)).mono ?_
  rintro e w1 ⟨rfl, rfl⟩
  rw [Int.toNat_natCast]
  generalize Lib.bitLen n = bl at *
  go_wp2_with fail
  go_loopw [6] (fun i wr => ∃ (q r : Int), -1 ≤ q ∧ q ≤ 13 ∧ i = .int .i64 q ∧ Hid (r = m ^ (n / 2 ^ (q + 1).toNat)) ∧ Hid (r.natAbs < TOP 223) ∧ PowInv w ba A ka ca r wr) (fun i _ => (intOf i + 1).toNat)
  case atStart =>
    refine ⟨(bl : Int) - 1, 1, by omega, by omega, rfl, hid ?_, hid ?_, false, some ⟨w.heap.size + 1 + 1, 0, none⟩, 1, 1, ?_, ?_, ?_, hid rfl, ?_, ?_⟩
    · rw [show ((bl : Int) - 1 + 1).toNat = bl by omega, Nat.div_eq_of_lt HBL.out]; exact (Int.pow_zero m).symm
    · rw [show (223 : Nat) = 222 + 1 from rfl, TOP_add]; have := TOP_pos 222; show 1 < _; unfold TOP at *; omega
    · exact (((Row.new w 59 [.bool ba, .slice A ka ca]).alloc _).alloc _).alloc _
    · have h := ((Row.new (w.alloc (.cells #[.bool ba, .slice A ka ca] 59)) 59 [.bool false, .slice none 0 0]).alloc (.cells #[.int .u64 1] 76)).alloc (.cells #[.bool false, .slice (some ⟨w.heap.size + 1 + 1, 0, none⟩) 1 1] 59)
      simpa using h
    · have h := Row.new (((w.alloc (.cells #[.bool ba, .slice A ka ca] 59)).alloc (.cells #[.bool false, .slice none 0 0] 59)).alloc (.cells #[.int .u64 1] 76)) 59 [.bool false, .slice (some ⟨w.heap.size + 1 + 1, 0, none⟩) 1 1]
      simpa using h
    · have h := (NatV.one ((w.alloc (.cells #[.bool ba, .slice A ka ca] 59)).alloc (.cells #[.bool false, .slice none 0 0] 59))).ext ((Ext.rfl' _).alloc' (.cells #[.bool false, .slice (some ⟨w.heap.size + 1 + 1, 0, none⟩) 1 1] 59))
      simpa using h
    · exact ((((Ext.rfl' w).alloc' _).alloc' _).alloc' _).alloc' _
  case round =>
    obtain ⟨q, r, hq1, hq2, rfl, hr, hrt, ⟨b, A1, k1, c1, r0, r1, r2, hb, hz, hext⟩⟩ := hrel
    by_cases hq : 0 ≤ q
    · obtain ⟨j, rfl⟩ := Int.eq_ofNat_of_zero_le hq
      have hr' : r = m ^ (n / 2 ^ (j + 1)) := by have := hr.out; rwa [show ((j : Int) + 1).toNat = j + 1 by omega] at this
      have hqn : n / 2 ^ j ≤ n := Nat.div_le_self _ _
      have hsq : r * r = m ^ (2 * (n / 2 ^ (j + 1))) := by rw [hr', ← Int.pow_add]; congr 1; omega
      have HSQ := hid hsq
      have hrr : (r * r).natAbs < TOP 446 := by rw [Int.natAbs_mul]; exact mul_top hrt.out hrt.out
      have HRR := hid hrr
      have HQN := hid hqn
      have hcast : (n : Int) / 2 ^ j = ((n / 2 ^ j : Nat) : Int) := by simp
      obtain ⟨g0, g1, g2, g3⟩ := r2.facts
      have hx0 : ∀ x : Nat, x = n / 2 ^ j % 2 → bits .and .i64 ((n : Int) / 2 ^ j) 1 = (x : Int) := by
        intro x hx
        rw [hcast, band1 _ (by omega), hx]
      clear hsq hrr hr' hqn hr
      by_cases hbit : n / 2 ^ j % 2 = 1
      · have hbb : (bits .and .i64 ((n : Int) / 2 ^ j) 1 == 1) = true := by rw [hx0 1 hbit.symm]; rfl
        have hpw : Hid (r * r * m = m ^ (n / 2 ^ j)) := by
          refine hid ?_
          rw [HSQ.out, ← Int.pow_succ]
          congr 1
          have := half n j
          omega
        have hrm : Hid ((r * r * m).natAbs < TOP 669) := by
          refine hid ?_
          rw [Int.natAbs_mul]; exact mul_top HRR.out HFT.out
        clear hx0 hcast hbit
        go_wp2_with fail
        refine (ntimes_any _ _ r r _ (NumV.mk' hb hz) (NumV.mk' hb hz) (le_big hrt.out (by omega)) (le_big hrt.out (by omega))).mono ?_
        rintro e w2 ⟨v2, rfl, ⟨z2, b2, rfl, hb2, hz2⟩, hx2⟩
        obtain ⟨A2, k2, c2, rfl⟩ := hz2.slice
        obtain ⟨g0, g1, g2, g3⟩ := (r2.ext hx2).facts
        obtain ⟨R0, R1, R2, hz3, hext3⟩ := PowInv.put r0 r1 r2 hext hx2 hb2 hz2
        obtain ⟨e0, e1, e2, e3⟩ := R0.facts
        obtain ⟨f0, f1, f2, f3⟩ := R2.facts
        clear r0 r1 r2 hx2 hz hz2 hext
        go_wp2_with fail
        refine (ntimes_any _ _ (r * r) m _ (NumV.mk' hb2 hz3) ((NumV.mk' HBA.out hza).ext hext3) (le_big HRR.out (by omega)) HFB.out).mono ?_
        rintro e w4 ⟨v4, rfl, ⟨z4, b4, rfl, hb4, hz4⟩, hx4⟩
        obtain ⟨A4, k4, c4, rfl⟩ := hz4.slice
        obtain ⟨e0, e1, e2, e3⟩ := (R2.ext hx4).facts
        obtain ⟨S0, S1, S2, hz5, hext5⟩ := PowInv.put R0 R1 R2 hext3 hx4 hb4 hz4
        obtain ⟨u0, u1, u2, u3⟩ := S1.facts
        obtain ⟨t0, t1, t2, t3⟩ := S2.facts
        have htop := hz5.top
        by_cases hk : 223 < k4
        · have hbig : K.LIM ≤ (r * r * m).natAbs := Nat.le_trans LIM_top (Nat.le_trans (TOP_mono (by omega)) (htop.2 (by omega)))
          have hnf : ¬ K.fits (r * r * m) := fun h => absurd h (by unfold K.fits; omega)
          have hnf2 : ¬ K.fits (m ^ n) := by
            intro h
            have h1 : 1 < K.LIM := by
              have h2 : K.pw 1 ≤ K.LIM := K.pw_mono (by omega)
              have h3 : K.pw 1 = 10 := rfl
              omega
            have h2 := pow_big (m := m) HQN.out (by rw [← hpw.out]; omega)
            rw [← hpw.out] at h2
            exact absurd h (by unfold K.fits; omega)
          have hfin := PowPost.stored (m := m) (n := n) S1 hb4 hz5 hext5 (le_big hrm.out (by omega)) (.inr ⟨hnf, hnf2⟩)
          have HF := hid hfin
          clear hfin hnf hnf2 hbig htop S0 S1 S2 hz5 hext5
          go_wp2
          refine bodyPost_ret (v := .agg #[.bool b4, .slice A4 k4 c4]) (by simp [results, Tryd.results60, go_sem, u0, u1]) rfl HF.out
        · have HTOP := hid (Nat.lt_of_lt_of_le htop.1 (TOP_mono (show k4 ≤ 223 by omega)))
          clear htop
          go_wp2
          go_roundw
          case rel => exact ⟨(j : Int) - 1, r * r * m, by omega, by omega, rfl, hid (by rw [show ((j : Int) - 1 + 1).toNat = j by omega]; exact hpw.out), HTOP, b4, A4, k4, c4, S0, S1, S2, hb4, hz5, hext5⟩
          case measure => simp [intOf]
      · have hbit0 : n / 2 ^ j % 2 = 0 := by omega
        have hbb : (bits .and .i64 ((n : Int) / 2 ^ j) 1 == 1) = false := by rw [hx0 0 hbit0.symm]; rfl
        have hpw : Hid (r * r = m ^ (n / 2 ^ j)) := by
          refine hid ?_
          rw [HSQ.out]
          congr 1
          have := half n j
          omega
        have hrm : Hid ((r * r).natAbs < TOP 669) := hid (Nat.lt_of_lt_of_le HRR.out (TOP_mono (by omega)))
        clear hx0 hcast hbit hbit0
        go_wp2_with fail
        refine (ntimes_any _ _ r r _ (NumV.mk' hb hz) (NumV.mk' hb hz) (le_big hrt.out (by omega)) (le_big hrt.out (by omega))).mono ?_
        rintro e w4 ⟨v4, rfl, ⟨z4, b4, rfl, hb4, hz4⟩, hx4⟩
        obtain ⟨A4, k4, c4, rfl⟩ := hz4.slice
        obtain ⟨e0, e1, e2, e3⟩ := (r2.ext hx4).facts
        obtain ⟨S0, S1, S2, hz5, hext5⟩ := PowInv.put r0 r1 r2 hext hx4 hb4 hz4
        obtain ⟨u0, u1, u2, u3⟩ := S1.facts
        obtain ⟨t0, t1, t2, t3⟩ := S2.facts
        have htop := hz5.top
        by_cases hk : 223 < k4
        · have hbig : K.LIM ≤ (r * r).natAbs := Nat.le_trans LIM_top (Nat.le_trans (TOP_mono (by omega)) (htop.2 (by omega)))
          have hnf : ¬ K.fits (r * r) := fun h => absurd h (by unfold K.fits; omega)
          have hnf2 : ¬ K.fits (m ^ n) := by
            intro h
            have h1 : 1 < K.LIM := by
              have h2 : K.pw 1 ≤ K.LIM := K.pw_mono (by omega)
              have h3 : K.pw 1 = 10 := rfl
              omega
            have h2 := pow_big (m := m) HQN.out (by rw [← hpw.out]; omega)
            rw [← hpw.out] at h2
            exact absurd h (by unfold K.fits; omega)
          have hfin := PowPost.stored (m := m) (n := n) S1 hb4 hz5 hext5 (le_big hrm.out (by omega)) (.inr ⟨hnf, hnf2⟩)
          have HF := hid hfin
          clear hfin hnf hnf2 hbig htop S0 S1 S2 hz5 hext5
          go_wp2
          refine bodyPost_ret (v := .agg #[.bool b4, .slice A4 k4 c4]) (by simp [results, Tryd.results60, go_sem, u0, u1]) rfl HF.out
        · have HTOP := hid (Nat.lt_of_lt_of_le htop.1 (TOP_mono (show k4 ≤ 223 by omega)))
          clear htop
          go_wp2
          go_roundw
          case rel => exact ⟨(j : Int) - 1, r * r, by omega, by omega, rfl, hid (by rw [show ((j : Int) - 1 + 1).toNat = j by omega]; exact hpw.out), HTOP, b4, A4, k4, c4, S0, S1, S2, hb4, hz5, hext5⟩
          case measure => simp [intOf]
    · obtain rfl : q = -1 := by omega
      obtain ⟨g0, g1, g2, g3⟩ := r1.facts
      obtain ⟨i0, i1, i2, i3⟩ := r2.facts
      have hfin := PowPost.stored (m := m) (n := n) r1 hb hz hext (le_big hrt.out (by omega)) (.inl (by have := hr.out; simpa using this))
      have HF := hid hfin
      clear hfin r0 r1 r2 hz hext
      go_wp2
      refine bodyPost_ret (v := .agg #[.bool b, .slice A1 k1 c1]) (by simp [results, Tryd.results60, go_sem, g0, g1]) rfl HF.out
end Go.Proofs.YtdbaemadphhhcaaDoor
