/- the law SieveCollatz -/
import Derived.Test.YtbmmilhinbfahaaDoorJG10
import Derived.Test.YtbmmilhinbfahaaDoorJG11
import Derived.Test.YtbmmilhinbfahaaDoorJG05
import Derived.Test.YtbmmilhinbfahaaDoorJG01
set_option linter.unusedSimpArgs false
set_option linter.unusedVariables false
namespace Go.Proofs.YtbmmilhinbfahaaDoor
open Go.RowKit
theorem infoBo : (Tryd.prog.info? 4).map (fun i => (i.zero, i.size, i.bytes)) = some (some (.bool false), 1, 1) := by kernel_rfl
theorem mkBools (n : Nat) (q : Int) (hq : q = n) (hn : n ≤ 1000000) (w : World) :
    (Instr.makeSlice 32 (.int .i64 q) (.int .i64 q)).run Tryd.prog w = .ok (.slice (some ⟨w.heap.size, 0, none⟩) n n) (w.alloc (.cells (madeCells #[.bool false] n) 4)) := by
  subst hq
  exact run_make_row' 32 4 (.bool false) 1 Tryd.underlying32 infoBo rfl .i64 .i64 n (by omega) (by omega) w
def Bs (l : List Bool) : List Value := l.map .bool
/-- a rising list of numbers below a bound is no longer than it -/
theorem rise_len {l : List Int} {N : Int} (h : l.Pairwise (fun x y => x < y)) (hb : ∀ x, x ∈ l → 0 ≤ x ∧ x ≤ N - 1) : l.length ≤ N.toNat := by
  have key : ∀ (l : List Int) (a : Int), 0 ≤ a → l.Pairwise (fun x y => x < y) → (∀ x, x ∈ l → a ≤ x ∧ x ≤ N - 1) → (l.length : Int) ≤ max (N - a) 0 := by
    intro l
    induction l with
    | nil => intro a _ _ _; simp; omega
    | cons x l ih =>
      intro a h0 h1 h2
      have h3 := h2 x (by simp)
      have h4 := ih (x + 1) (by omega) (List.pairwise_cons.1 h1).2 (fun y hy => ⟨(List.pairwise_cons.1 h1).1 y hy, (h2 y (by simp [hy])).2⟩)
      simp only [List.length_cons]
      omega
  have := key l 0 (Int.le_refl _) h hb
  omega
set_option maxRecDepth 100000 in
set_option maxHeartbeats 3200000 in
theorem coll_no (k : Int) (w : World) (hk : -9223372036854775808 ≤ k) (hk2 : k ≤ 9223372036854775807) (ht : Tab w) (HN : Hid (¬ (1 ≤ k ∧ (2 : Int) ^ k.toNat ≤ 65536))) :
    Calls Tryd.prog 3 #[.int .i64 k] w (TruePost w) := by
  have HT := hid ht
  have hM : Hid (mapP 2 [1, 3] [0, 1]) := hid ((mapB_iff 2 [1, 3] [0, 1]).1 (by decide))
  go_enter Tryd.func3, Tryd.ntmps3
  go_wp2_with fail
  refine (refCollatz_any w).mono ?_
  rintro e w1 ⟨v1, rfl, hn1, hx1⟩
  have hv1 := hn1.mapV
  obtain ⟨g1, g2, k1, rfl, -⟩ := hn1
  have r1 : Row (w1.alloc (.cells #[.int .i64 2, .slice (some ⟨g1, 0, none⟩) k1 k1, .slice (some ⟨g2, 0, none⟩) k1 k1] 24)) w1.heap.size 24 [.int .i64 2, .slice (some ⟨g1, 0, none⟩) k1 k1, .slice (some ⟨g2, 0, none⟩) k1 k1] := Row.new w1 _ _
  have hx1a := hx1.alloc' (.cells #[.int .i64 2, .slice (some ⟨g1, 0, none⟩) k1 k1, .slice (some ⟨g2, 0, none⟩) k1 k1] 24)
  have hv1a := hv1.ext ((Ext.rfl' w1).alloc' (.cells #[.int .i64 2, .slice (some ⟨g1, 0, none⟩) k1 k1, .slice (some ⟨g2, 0, none⟩) k1 k1] 24))
  obtain ⟨W1, hW1⟩ : ∃ W1, w1.alloc (.cells #[.int .i64 2, .slice (some ⟨g1, 0, none⟩) k1 k1, .slice (some ⟨g2, 0, none⟩) k1 k1] 24) = W1 := ⟨_, rfl⟩
  rw [hW1] at hx1a hv1a r1
  have HW1 := hid hW1
  have EX := hid hx1a
  have HV := hid hv1a
  have RM := hid r1
  replace HT := hid (HT.out.ext hx1a)
  obtain ⟨BM, hBM⟩ : ∃ BM, w1.heap.size = BM := ⟨_, rfl⟩
  clear hx1 hx1a hv1 hv1a r1 hW1
  go_upto_region 2 with fail
  rw [HW1.out]
  rw [hBM] at RM
  (try rw [hBM])
  clear hBM HW1
  obtain ⟨f0, f1, f2, -, -, -⟩ := row_facts3 RM.out
  go_wp2_with fail
  refine (rrests_any _ 2 [1, 3] [0, 1] k W1 HV.out hM hk hk2).mono ?_
  rintro e w2 ⟨r, rfl, hr, hx⟩
  replace HV := hid (HV.out.ext hx)
  replace RM := hid (RM.out.ext hx)
  replace HT := hid (HT.out.ext hx)
  replace EX := hid (EX.out.step hx)
  clear hx f0 f1 f2
  obtain rfl : r = 0 := by
    rcases hr with ⟨h1, h2, -⟩ | ⟨-, h⟩
    · exact (HN.out ⟨h1, h2⟩).elim
    · exact h
  clear hr
  go_wp2_with fail
  refine (awake4_any w2 HT.out).mono ?_
  rintro e wL ⟨rfl, hx⟩
  have EL := hid (EX.out.step hx)
  go_wp2
  go_ret
  exact ⟨rfl, EL.out⟩
set_option maxRecDepth 100000 in
set_option maxHeartbeats 12800000 in
theorem coll_yes (q p N : Nat) (HPQ : Hid (q + 1 = p)) (w : World) (h1 : 1 ≤ q) (h2 : q ≤ 16) (HN : Hid (2 ^ q = N)) (HP : Hid (1 ≤ N ∧ N ≤ 65536)) (ht : Tab w) :
    Calls Tryd.prog 3 #[.int .i64 (q : Int)] w (TruePost w) := by
  have HT := hid ht
  have hM : Hid (mapP 2 [1, 3] [0, 1]) := hid ((mapB_iff 2 [1, 3] [0, 1]).1 (by decide))
  go_enter Tryd.func3, Tryd.ntmps3
  go_wp2_with fail
  refine (refCollatz_any w).mono ?_
  rintro e w1 ⟨v1, rfl, hn1, hx1⟩
  have hv1 := hn1.mapV
  obtain ⟨g1, g2, k1, rfl, -⟩ := hn1
  have r1 : Row (w1.alloc (.cells #[.int .i64 2, .slice (some ⟨g1, 0, none⟩) k1 k1, .slice (some ⟨g2, 0, none⟩) k1 k1] 24)) w1.heap.size 24 [.int .i64 2, .slice (some ⟨g1, 0, none⟩) k1 k1, .slice (some ⟨g2, 0, none⟩) k1 k1] := Row.new w1 _ _
  have hx1a := hx1.alloc' (.cells #[.int .i64 2, .slice (some ⟨g1, 0, none⟩) k1 k1, .slice (some ⟨g2, 0, none⟩) k1 k1] 24)
  have hv1a := hv1.ext ((Ext.rfl' w1).alloc' (.cells #[.int .i64 2, .slice (some ⟨g1, 0, none⟩) k1 k1, .slice (some ⟨g2, 0, none⟩) k1 k1] 24))
  obtain ⟨W1, hW1⟩ : ∃ W1, w1.alloc (.cells #[.int .i64 2, .slice (some ⟨g1, 0, none⟩) k1 k1, .slice (some ⟨g2, 0, none⟩) k1 k1] 24) = W1 := ⟨_, rfl⟩
  rw [hW1] at hx1a hv1a r1
  have HW1 := hid hW1
  have EX := hid hx1a
  have HV := hid hv1a
  have RM := hid r1
  replace HT := hid (HT.out.ext hx1a)
  obtain ⟨BM, hBM⟩ : ∃ BM, w1.heap.size = BM := ⟨_, rfl⟩
  clear hx1 hx1a hv1 hv1a r1 hW1
  go_upto_region 2 with fail
  rw [HW1.out]
  rw [hBM] at RM
  (try rw [hBM])
  clear hBM HW1
  obtain ⟨f0, f1, f2, -, -, -⟩ := row_facts3 RM.out
  have HWQ : Hid ((2 : Int) ^ q = (N : Int)) := hid (by rw [← HN.out]; simp)
  have HS1 : Hid (SuitP 2 [1, 3] (q : Int)) := hid ⟨by decide, by omega, by rw [Int.toNat_natCast, HWQ.out]; have := HP.out; omega⟩
  have HNB := HP

  go_wp2_with fail
  refine (rrests_w _ 2 [1, 3] [0, 1] q (N : Int) W1 HV.out hM HS1 (by omega) HWQ).mono ?_
  rintro e w2 ⟨rfl, hx⟩
  replace HV := hid (HV.out.ext hx)
  replace RM := hid (RM.out.ext hx)
  replace HT := hid (HT.out.ext hx)
  replace EX := hid (EX.out.step hx)
  clear hx f0 f1 f2
  have q0 : ((N : Int) == 0) = false := beq_eq_false_iff_ne.2 (by have := HNB.out; omega)
  obtain ⟨f0, f1, f2, -, -, -⟩ := row_facts3 RM.out
  have HSs := HS1
  go_wp2_with fail
  refine (sieve_ok _ 2 [1, 3] [0, 1] q 2 w2 HV.out hM HSs (by have := HPQ.out; omega) (hid rfl) HT.out).mono ?_
  rintro e w3 ⟨vFs, vLs, bases, nFs, nLs, rfl, -, hFs, hLs, hx⟩
  replace HV := hid (HV.out.ext hx)
  replace RM := hid (RM.out.ext hx)
  replace HT := hid (HT.out.ext hx)
  replace EX := hid (EX.out.step hx)
  clear hx f0 f1 f2
  obtain ⟨s, hLes⟩ : ∃ Ls, srtI (vis 2 [1, 3] [0, 1] (q) (q) 0 0).2 = Ls := ⟨_, rfl⟩
  rw [hLes] at hLs
  have hMs := sieve_left (M := 2) (us := [1, 3]) (ad := [0, 1]) hM.out (q)
  rw [hLes] at hMs
  have hnLs : nLs = s.length := by have h := hLs.1; simp at h; omega
  subst hnLs
  obtain ⟨AFs, cFs, rfl, -, -⟩ := own_rd hFs
  obtain ⟨ALs, cLs, rfl, hrLs, hgLs⟩ := own_rd hLs
  have RLs := hid hrLs
  have HGs := hid hgLs
  have HMs := hid hMs
  clear hFs hLs hrLs hgLs hMs hLes
  clear q0
  have hmem : ((N : Int) - 1) ∈ s := (HMs.out.2 _).2 (by rw [← HWQ.out]; exact coll_last q)
  have hle : ∀ x, x ∈ s → x ≤ (N : Int) - 1 := fun x hx => by
    obtain ⟨-, h, -⟩ := (HMs.out.2 _).1 hx
    have h2 : (2 : Int) ^ q = N := HWQ.out
    have h3 : ((2 : Nat) : Int) ^ q = N := h2
    omega
  have hpos : 0 < s.length := List.length_pos_of_mem hmem
  have hlast := last_max HMs.out.1 hmem hle
  obtain ⟨gL, hgL⟩ := HGs.out hpos
  subst hgL
  have HB : Hid (∀ x, x ∈ s → 0 ≤ x ∧ x ≤ (N : Int) - 1) := hid (fun x hx => ⟨((HMs.out.2 _).1 hx).1, hle x hx⟩)
  have HLAST := hid hlast
  clear hlast hle hmem
  obtain ⟨f0, f1, f2, -, -, -⟩ := row_facts3 RM.out
  go_wp2_with fail
  refine (rrests_w _ 2 [1, 3] [0, 1] q (N : Int) w3 HV.out hM HS1 (by omega) HWQ).mono ?_
  rintro e w4 ⟨rfl, hx⟩
  replace HV := hid (HV.out.ext hx)
  replace RM := hid (RM.out.ext hx)
  replace HT := hid (HT.out.ext hx)
  replace RLs := hid (RLs.out.ext hx)
  replace EX := hid (EX.out.step hx)
  clear hx f0 f1 f2
  have hslen : s.length ≤ 65536 := by
    have h : s.Pairwise (fun x y => x < y) := HMs.out.1
    exact Nat.le_trans (rise_len h HB.out) HNB.out.2
  have q1 : ((s.length : Int) == 0) = false := beq_eq_false_iff_ne.2 (by omega)
  have q2 : IntKind.i64.wrap ((s.length : Int) - 1) = ((s.length - 1 : Nat) : Int) := by rw [IntWalk.i64_in _ (by omega)]; omega
  have q3 : IntKind.i64.wrap ((N : Int) - 1) = (N : Int) - 1 := IntWalk.i64_in _ (by have := HNB.out; omega)
  have c0 : w4.cell? ⟨gL, s.length - 1, none⟩ = some (.int .i64 ((N : Int) - 1)) := RLs.out.at0 (s.length - 1) (by rw [List.getElem?_map, HLAST.out]; rfl)
  have q4 : (((N : Int) - 1) != ((N : Int) - 1)) = false := by simp
  have q5 : (0 : Int) ≤ ((s.length - 1 : Nat) : Int) := by omega
  have q6 : ((s.length - 1 : Nat) : Int) < (s.length : Int) := by omega
  have q7 : IntKind.i64.wrap ((q : Int) + 1) = (p : Int) := by rw [IntWalk.i64_in _ (by omega)]; have := HPQ.out; omega
  obtain ⟨f0, f1, f2, -, -, -⟩ := row_facts3 RM.out
  go_wp2_with fail
  refine (rrests_any _ 2 [1, 3] [0, 1] (p : Int) w4 HV.out hM (by omega) (by have := HPQ.out; omega)).mono ?_
  rintro e w5 ⟨r, rfl, hr, hx⟩
  replace HV := hid (HV.out.ext hx)
  replace RM := hid (RM.out.ext hx)
  replace HT := hid (HT.out.ext hx)
  replace RLs := hid (RLs.out.ext hx)
  replace EX := hid (EX.out.step hx)
  clear hx f0 f1 f2 c0 q1 q2 q3 q4 q5 q6
  by_cases hq : q = 16
  ·
    subst hq
    obtain rfl : p = 17 := HPQ.out.symm
    obtain rfl : r = 0 := by
      rcases hr with ⟨-, h, -⟩ | ⟨-, h⟩
      · rw [Int.toNat_natCast] at h
        have : (2 : Int) ^ 17 = 131072 := by decide
        omega
      · exact h
    clear hr q7
    go_wp2_with fail
    refine (awake4_any w5 HT.out).mono ?_
    rintro e wL ⟨rfl, hx⟩
    have EL := hid (EX.out.step hx)
    go_wp2
    go_ret
    exact ⟨rfl, EL.out⟩
  ·
    obtain ⟨hr1, hr2⟩ : r = 2 * (N : Int) ∧ 2 * N ≤ 65536 := by
      rw [← HPQ.out] at hr
      have e : (2 : Int) ^ (q + 1) = 2 * (N : Int) := by rw [Int.pow_succ, HWQ.out, Int.mul_comm]
      have h3 : (2 : Int) ^ (q + 1) ≤ 65536 := by
        have h4 : (2 : Int) ^ (q + 1) ≤ 2 ^ 16 := pow_grow (by omega) (by omega)
        have h5 : (2 : Int) ^ 16 = 65536 := by decide
        omega
      rcases hr with ⟨-, h, h2⟩ | ⟨h, -⟩
      · rw [Int.toNat_natCast] at h h2
        rw [e] at h2 h3
        exact ⟨h2, by omega⟩
      · exact (h ⟨by omega, by rw [Int.toNat_natCast]; exact h3⟩).elim
    subst hr1
    have HSt : Hid (SuitP 2 [1, 3] (p : Int)) := hid ⟨by decide, by have := HPQ.out; omega, by
      rw [Int.toNat_natCast, ← HPQ.out, Int.pow_succ, HWQ.out]; omega⟩
    have HN2 := hid hr2
    have q0 : ((2 * (N : Int)) == 0) = false := beq_eq_false_iff_ne.2 (by have := HNB.out; omega)
    clear hr hr2
    obtain ⟨f0, f1, f2, -, -, -⟩ := row_facts3 RM.out
    go_wp2_with fail
    refine (sieve_ok _ 2 [1, 3] [0, 1] p 2 w5 HV.out hM HSt (by have := HPQ.out; omega) (hid rfl) HT.out).mono ?_
    rintro e w6 ⟨vFt, vLt, baset, nFt, nLt, rfl, -, hFt, hLt, hx⟩
    replace HV := hid (HV.out.ext hx)
    replace RM := hid (RM.out.ext hx)
    replace HT := hid (HT.out.ext hx)
    replace RLs := hid (RLs.out.ext hx)
    replace EX := hid (EX.out.step hx)
    clear hx f0 f1 f2
    obtain ⟨t, hLet⟩ : ∃ Ls, srtI (vis 2 [1, 3] [0, 1] (p) (p) 0 0).2 = Ls := ⟨_, rfl⟩
    rw [hLet] at hLt
    have hMt := sieve_left (M := 2) (us := [1, 3]) (ad := [0, 1]) hM.out (p)
    rw [hLet] at hMt
    have hnLt : nLt = t.length := by have h := hLt.1; simp at h; omega
    subst hnLt
    obtain ⟨AFt, cFt, rfl, -, -⟩ := own_rd hFt
    obtain ⟨ALt, cLt, rfl, hrLt, hgLt⟩ := own_rd hLt
    have RLt := hid hrLt
    have HGt := hid hgLt
    have HMt := hid hMt
    clear hFt hLt hrLt hgLt hMt hLet
    clear q0
    obtain ⟨H, hH⟩ : ∃ H, w6.heap.size = H := ⟨_, rfl⟩
    have hmk : ∀ w : World, (Instr.makeSlice 32 (.int .i64 (N : Int)) (.int .i64 (N : Int))).run Tryd.prog w = .ok (.slice (some ⟨w.heap.size, 0, none⟩) N N) (w.alloc (.cells (Array.replicate N (Value.bool false)) 4)) := fun w => by
      rw [← List.toArray_replicate, ← made_replicate]; exact mkBools N (N : Int) rfl (by have := HNB.out; omega) w
    have ha := (Ext.rfl' w6).alloc' (.cells (Array.replicate N (Value.bool false)) 4)
    have hrow : Row (w6.alloc (.cells (Array.replicate N (Value.bool false)) 4)) w6.heap.size 4 (List.replicate N (Value.bool false)) := by
      rw [← List.toArray_replicate]; exact Row.new w6 _ _
    obtain ⟨w7, hw7⟩ : ∃ w7, w6.alloc (.cells (Array.replicate N (Value.bool false)) 4) = w7 := ⟨_, rfl⟩
    rw [hw7] at ha hrow
    rw [hH] at hrow
    rw [show List.replicate N (Value.bool false) = Bs (List.replicate N false) by simp [Bs]] at hrow
    have HW7 := hid hw7
    have HROW := hid hrow
    have HHS := hid hH
    have E6 := hid ha
    clear ha hrow hw7 hH
    go_upto_region 14 with fail
    clear hmk
    rw [HW7.out]
    (try rw [HHS.out])
    clear HW7
    have E60 := E6
    have HROW0 := HROW
    go_wp2_with fail
    go_loopw [12] (fun iz wr => ∃ (j : Nat) (bs : List Bool), j ≤ s.length ∧ iz = .int .i64 (j : Int) ∧ bs.length = N ∧ Hid (∀ i x : Nat, i < j → s[i]? = some (x : Int) → bs[x]? = some true) ∧ Hid (Row wr H 4 (Bs bs)) ∧ Ext w6 wr) (fun iz _ => s.length - (intOf iz).toNat)
    case atStart => exact ⟨0, List.replicate N false, by omega, rfl, by simp, hid (fun i x h => absurd h (by omega)), HROW0, E60.out⟩
    case round =>
      clear HROW E6 HROW0 E60
      obtain ⟨j, bs, hj, rfl, hbl, HBS, HROW, hex⟩ := hrel
      have E6 := hid hex
      have HBL := hid hbl
      clear hex hbl
      by_cases hlt : j < s.length
      ·
        obtain ⟨xi, hp⟩ : ∃ x, s[j]? = some x := ⟨_, List.getElem?_eq_getElem hlt⟩
        have hb := HB.out _ (List.mem_of_getElem? hp)
        obtain ⟨x, rfl⟩ : ∃ x : Nat, xi = (x : Int) := ⟨xi.toNat, by omega⟩
        have hxN : x < N := by omega
        have hlt2 : (j : Int) < (s.length : Int) := by omega
        have i0 : (0 : Int) ≤ (j : Int) := by omega
        have c0 : wr.cell? ⟨gL, j, none⟩ = some (.int .i64 (x : Int)) := (RLs.out.ext E6.out).at0 j (by rw [List.getElem?_map, hp]; rfl)
        have q1 : ¬ ((x : Int) < 0) := by omega
        have q2 : ¬ ((N : Int) ≤ (x : Int)) := by omega
        have q3 : (0 : Int) ≤ (x : Int) := by omega
        have q4 : (x : Int) < (N : Int) := by omega
        obtain ⟨b0, hb0⟩ : ∃ b, bs[x]? = some b := ⟨_, List.getElem?_eq_getElem (by rw [HBL.out]; exact hxN)⟩
        have c1 : wr.cell? ⟨H, x, none⟩ = some (.bool b0) := by rw [HROW.out.cell]; simp [Bs, hb0]
        have c2 : wr.frozen? ⟨H, x, none⟩ = false := HROW.out.free _
        have HNEW : Hid (∀ i y : Nat, i < j + 1 → s[i]? = some (y : Int) → (bs.set x true)[y]? = some true) := hid (fun i y h1 h2 => by
          by_cases hy : x = y
          · subst hy
            rw [List.getElem?_set_self (by rw [HBL.out]; exact hxN)]
          · rw [List.getElem?_set_ne hy]
            rcases Nat.lt_or_ge i j with h3 | h3
            · exact HBS.out i y h3 h2
            · obtain rfl : i = j := by omega
              rw [hp] at h2
              injection h2 with h2
              exact absurd (by omega) hy)
        have HROW2 : Hid (Row (wr.setCell ⟨H, x, none⟩ (.bool true)) H 4 (Bs (bs.set x true))) := hid (by
          have h := HROW.out.set x (.bool true)
          rwa [show (Bs bs).set x (.bool true) = Bs (bs.set x true) by simp [Bs, List.map_set]] at h)
        have E62 : Hid (Ext w6 (wr.setCell ⟨H, x, none⟩ (.bool true))) := hid (E6.out.set' (by show w6.heap.size ≤ H; rw [HHS.out]; exact Nat.le_refl _) _)
        have HLS : Hid ((bs.set x true).length = N) := hid (by rw [List.length_set]; exact HBL.out)
        clear hp hb0 hb HBS
        go_wp2_with fail
        go_roundw
        case rel => exact ⟨j + 1, bs.set x true, by omega, by simp, HLS.out, HNEW, HROW2, E62.out⟩
        case measure => first | (simp [intOf]; done) | (simp [intOf]; omega)
      ·
        obtain rfl : j = s.length := by omega
        have hjl : ¬ (s.length : Int) < (s.length : Int) := by omega
        have HALL : Hid (∀ x : Nat, (x : Int) ∈ s → bs[x]? = some true) := hid (fun x hx => by
          obtain ⟨i, hi, h⟩ := List.getElem_of_mem hx
          exact HBS.out i x hi (by rw [List.getElem?_eq_getElem hi, h]))
        have HLEFT : Hid (∀ y, y ∈ t → ∃ z : Nat, y = (z : Int) ∧ z < 2 * N ∧ (((z % N : Nat)) : Int) ∈ s) := hid (fun y hy => by
          have h := (HMt.out.2 _).1 hy
          rw [← HPQ.out] at h
          have h2 : ((2 : Nat) : Int) ^ q = N := HWQ.out
          have h3 := left_mod (by omega) h
          rw [h2] at h3
          have h4 := (HMs.out.2 _).2 h3
          obtain ⟨y0, y1, -⟩ := h
          rw [Int.pow_succ, h2] at y1
          obtain ⟨z, rfl⟩ : ∃ z : Nat, y = (z : Int) := ⟨y.toNat, by omega⟩
          exact ⟨z, rfl, by omega, by rw [Int.natCast_emod]; exact h4⟩)
        have htlen : t.length ≤ 65536 := by
          have h : t.Pairwise (fun x y => x < y) := HMt.out.1
          have h2 := rise_len (N := 2 * (N : Int)) h (fun x hx => by
            obtain ⟨z, rfl, h3, -⟩ := HLEFT.out x hx
            omega)
          have := HN2.out
          omega
        have E66 := E6
        have HT6 := HT
        clear HBS
        go_wp2_with fail
        go_loopw [13] (fun iz wx => ∃ j : Nat, j ≤ t.length ∧ iz = .int .i64 (j : Int) ∧ Ext wr wx) (fun iz _ => t.length - (intOf iz).toNat)
        case atStart => exact ⟨0, by omega, rfl, Ext.rfl' _⟩
        case round =>
          rename_i wx'
          obtain ⟨j, hj, rfl, hex⟩ := hrel
          have E7 := hid hex
          clear hex
          by_cases hlt : j < t.length
          ·
            obtain ⟨yi, hp⟩ : ∃ x, t[j]? = some x := ⟨_, List.getElem?_eq_getElem hlt⟩
            obtain ⟨gT, hgT⟩ := HGt.out (by omega)
            subst hgT
            obtain ⟨y, rfl, hy1, hy2⟩ := HLEFT.out _ (List.mem_of_getElem? hp)
            have hbt := HALL.out _ hy2
            have hmod : ((y : Int)).tmod (N : Int) = ((y % N : Nat) : Int) := tmod_nat y N
            have hyN : y % N < N := Nat.mod_lt _ (by have := HNB.out; omega)
            obtain ⟨z, hz⟩ : ∃ z, y % N = z := ⟨_, rfl⟩
            rw [hz] at hmod hbt hyN
            have hlt2 : (j : Int) < (t.length : Int) := by omega
            have i0 : (0 : Int) ≤ (j : Int) := by omega
            have c0 := ((RLt.out.ext E6.out).ext E7.out).at0 j (show (Is t)[j]? = some (.int .i64 (y : Int)) by rw [List.getElem?_map, hp]; rfl)
            have c1 := (HROW.out.ext E7.out).cell z
            rw [show (Bs bs)[z]? = some (.bool true) by simp [Bs, hbt]] at c1
            have q1 : ¬ ((y : Int) < 0) := by omega
            have q0 : IntKind.i64.wrap (2 * (N : Int)) = 2 * (N : Int) := IntWalk.i64_in _ (by have := HN2.out; omega)
            have q2 : ¬ (2 * (N : Int) ≤ (y : Int)) := by omega
            have q3 : (0 : Int) ≤ (z : Int) := by omega
            have q4 : (z : Int) < (N : Int) := by omega
            have q5 : ((N : Int) == 0) = false := beq_eq_false_iff_ne.2 (by have := HNB.out; omega)
            have q6 : ¬ ((N : Int) = 0) := by have := HNB.out; omega
            clear hp hy1 hy2 hbt hz hyN
            go_wp2_with fail
            go_roundw
            case rel => exact ⟨j + 1, by omega, by simp, E7.out⟩
            case measure => first | (simp [intOf]; done) | (simp [intOf]; omega)
          ·
            obtain rfl : j = t.length := by omega
            have hjl2 : ¬ (t.length : Int) < (t.length : Int) := by omega
            have HTE := hid ((HT6.out.ext E66.out).ext E7.out)
            have EXE := hid ((EX.out.step E66.out).step E7.out)
            go_wp2_with fail
            refine (awake4_any _ HTE.out).mono ?_
            rintro e wL ⟨rfl, hx⟩
            have EL := hid (EXE.out.step hx)
            go_wp2
            go_ret
            exact ⟨rfl, EL.out⟩
/-- the law -/
theorem law_SieveCollatz (k : Int) (w : World) (hk : -9223372036854775808 ≤ k) (hk2 : k ≤ 9223372036854775807) (ht : Tab w) :
    Calls Tryd.prog 3 #[.int .i64 k] w (TruePost w) := by
  by_cases h : 1 ≤ k ∧ (2 : Int) ^ k.toNat ≤ 65536
  · obtain ⟨q, rfl⟩ : ∃ q : Nat, k = (q : Int) := ⟨k.toNat, by omega⟩
    rw [Int.toNat_natCast] at h
    have h16 : q ≤ 16 := by
      rcases Nat.lt_or_ge 16 q with h2 | h2
      · exfalso
        have h3 : (2 : Int) ^ 17 ≤ 2 ^ q := pow_grow (by omega) h2
        have h4 : (2 : Int) ^ 17 = 131072 := by decide
        omega
      · exact h2
    have e : (((2 : Nat) ^ q : Nat) : Int) = (2 : Int) ^ q := by simp
    have hp : (0 : Int) < 2 ^ q := Int.pow_pos (by omega)
    exact coll_yes q _ _ (hid rfl) w (by omega) h16 (hid rfl) (hid ⟨by omega, by omega⟩) ht
  · exact coll_no k w hk hk2 ht (hid h)
end Go.Proofs.YtbmmilhinbfahaaDoor
