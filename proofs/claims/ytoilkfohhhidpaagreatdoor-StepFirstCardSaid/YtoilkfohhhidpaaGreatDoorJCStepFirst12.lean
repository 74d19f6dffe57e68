/- Joined texts: step.timesPlus, step.nextOfLong, step.next; step.next, step.after; step.after and what it hands on, round by round; step.Run, step.Step. -/
import Derived.Test.YtoilkfohhhidpaaGreatDoorJCStepFirst11
import Derived.Deep.RegionHeld3
import Derived.RangeFuncNested
import Derived.RangeFuncBound
import Derived.RangeFuncCalls
import Derived.RangeFuncLeaves
import Derived.RangeFuncFrom
import Derived.RangeFuncWrites
import Derived.Shelf.Abstract
import Derived.Shelf.RegionOpen
import Derived.WalkKit
import Derived.OwnWalkIn
import Derived.TacticsInMore
import Derived.LoopNIn
import Derived.LoopIn
/- step.timesPlus, step.nextOfLong, step.next -/
namespace Go.Proofs.YtoilkfohhhidpaaGreatDoor
open Go.RowKit
theorem fits_small {n : Int} (h : n.natAbs < 1000000000000000000) : K.fits n := by
  have h2 : (1000000000000000000 : Nat) ≤ K.LIM := by decide +kernel
  unfold K.fits
  omega
theorem valid_small {n : Int} (h : n.natAbs < 1000000000000000000) : K.validL (K.txt n) = true := K.valid_txt n (fits_small h)
theorem len_small {n : Int} (h : n.natAbs < 1000000000000000000) : (K.txt n).length ≤ 140737488351232 := len_of (K.txt_len n (fits_small h))
theorem fits_le {a b : Int} (h : a.natAbs ≤ b.natAbs) (hb : K.fits b) : K.fits a := by unfold K.fits at *; omega
set_option maxRecDepth 100000 in
set_option maxHeartbeats 1600000 in
theorem times_plus (u c : Int) (l : List UInt8) (w : World) (hl : Hid (K.validL l = true)) (hlen : l.length ≤ 140737488351232) (hu : 1 ≤ u) (hu2 : u ≤ 999) (c1 : -1000000000 ≤ c) (c2 : c ≤ 1000000000) (hq : 2 * c.natAbs ≤ (K.numL l).natAbs) (ht : Tab w) :
    Calls Tryz.prog 68 #[.int .i64 u, .string (Str l), .int .i64 c] w (ToldPost (u * K.numL l + c) w) := by
  have HT := hid ht
  obtain ⟨q, hqe⟩ : ∃ q, K.numL l = q := ⟨_, rfl⟩
  rw [hqe] at hq ⊢
  have HQ := hid hqe
  have hm := sum_mono hu hq
  have V1 := hid (valid_small (n := u - 1) (by omega))
  have L1 := hid (len_small (n := u - 1) (by omega))
  have V2 := hid (valid_small (n := c) (by omega))
  have L2 := hid (len_small (n := c) (by omega))
  have hub : -9223372036854775808 ≤ u - 1 := by omega
  have hub2 : u - 1 ≤ 9223372036854775807 := by omega
  have hcb : -9223372036854775808 ≤ c := by omega
  have hcb2 : c ≤ 9223372036854775807 := by omega
  have hsum : (u - 1) * q + c + q = u * q + c := by rw [Int.sub_mul]; omega
  have HSUM := hid hsum
  by_cases fp : K.fits ((u - 1) * q)
  · by_cases fs : K.fits ((u - 1) * q + c)
    · have FP := hid fp
      have FS := hid fs
      clear fp fs hm hqe hsum hq
      go_enter Tryz.func68, Tryz.ntmps68
      go_wp2_with fail
      refine (itoa_any (u - 1) w hub hub2 HT.out).mono ?_
      rintro e w1 ⟨rfl, hx1⟩
      have h1 : Ext w w1 := hx1
      clear hx1
      go_wp2_with fail
      refine (mul_ok (K.txt (u - 1)) l w1 L1.out hlen V1.out hl.out (HT.out.ext h1)).mono ?_
      intro e w2 h
      rw [K.numL_txt, HQ.out] at h
      obtain ⟨rfl, hx2⟩ : e = .returned (.tuple #[.string (Str (K.txt ((u - 1) * q))), .int .i64 0]) ∧ Ext w1 w2 := ⟨h.1 FP.out, h.2.2⟩
      have h2 : Ext w w2 := h1.step hx2
      clear h h1 hx2
      go_wp2_with fail
      refine (itoa_any c w2 hcb hcb2 (HT.out.ext h2)).mono ?_
      rintro e w3 ⟨rfl, hx3⟩
      have h3 : Ext w w3 := h2.step hx3
      clear h2 hx3
      go_wp2_with fail
      refine (add_ok (K.txt ((u - 1) * q)) (K.txt c) w3 (len_of (K.txt_len _ FP.out)) L2.out (K.valid_txt _ FP.out) V2.out (HT.out.ext h3)).mono ?_
      intro e w4 h
      rw [K.numL_txt, K.numL_txt] at h
      obtain ⟨rfl, hx4⟩ : e = .returned (.tuple #[.string (Str (K.txt ((u - 1) * q + c))), .int .i64 0]) ∧ Ext w3 w4 := ⟨h.1 FS.out, h.2.2⟩
      have h4 : Ext w w4 := h3.step hx4
      clear h h3 hx4
      go_wp2_with fail
      refine (add_ok (K.txt ((u - 1) * q + c)) l w4 (len_of (K.txt_len _ FS.out)) hlen (K.valid_txt _ FS.out) hl.out (HT.out.ext h4)).mono ?_
      intro e w5 h
      rw [K.numL_txt, HQ.out, HSUM.out] at h
      have hto := told_step h4 h
      obtain ⟨s5, c5, he5, -, -⟩ := told2_of h
      rw [he5] at hto
      have HTO := hid hto
      subst he5
      clear h hto h4
      go_wp2
      go_ret2
      exact HTO.out
    · have nf : ¬ K.fits (u * q + c) := fun h => fs (fits_le hm.2 h)
      have HFIN : Hid (∀ w', Ext w w' → ToldPost (u * q + c) w (.returned (.tuple #[.string ⟨#[]⟩, .int .i64 3])) w') := hid fun w' e => ⟨fun h => absurd h nf, fun _ => rfl, e⟩
      have FP := hid fp
      have FS := hid fs
      clear fp fs hm hqe hsum nf hq
      go_enter Tryz.func68, Tryz.ntmps68
      go_wp2_with fail
      refine (itoa_any (u - 1) w hub hub2 HT.out).mono ?_
      rintro e w1 ⟨rfl, hx1⟩
      have h1 : Ext w w1 := hx1
      clear hx1
      go_wp2_with fail
      refine (mul_ok (K.txt (u - 1)) l w1 L1.out hlen V1.out hl.out (HT.out.ext h1)).mono ?_
      intro e w2 h
      rw [K.numL_txt, HQ.out] at h
      obtain ⟨rfl, hx2⟩ : e = .returned (.tuple #[.string (Str (K.txt ((u - 1) * q))), .int .i64 0]) ∧ Ext w1 w2 := ⟨h.1 FP.out, h.2.2⟩
      have h2 : Ext w w2 := h1.step hx2
      clear h h1 hx2
      go_wp2_with fail
      refine (itoa_any c w2 hcb hcb2 (HT.out.ext h2)).mono ?_
      rintro e w3 ⟨rfl, hx3⟩
      have h3 : Ext w w3 := h2.step hx3
      clear h2 hx3
      go_wp2_with fail
      refine (add_ok (K.txt ((u - 1) * q)) (K.txt c) w3 (len_of (K.txt_len _ FP.out)) L2.out (K.valid_txt _ FP.out) V2.out (HT.out.ext h3)).mono ?_
      intro e w4 h
      rw [K.numL_txt, K.numL_txt] at h
      obtain ⟨rfl, hx4⟩ : e = .returned (.tuple #[.string ⟨#[]⟩, .int .i64 3]) ∧ Ext w3 w4 := ⟨h.2.1 FS.out, h.2.2⟩
      have HX := hid (HFIN.out _ (h3.step hx4))
      clear h h3 hx4
      go_wp2
      go_ret2
      exact HX.out
  · have nf : ¬ K.fits (u * q + c) := fun h => fp (fits_le hm.1 h)
    have HFIN : Hid (∀ w', Ext w w' → ToldPost (u * q + c) w (.returned (.tuple #[.string ⟨#[]⟩, .int .i64 3])) w') := hid fun w' e => ⟨fun h => absurd h nf, fun _ => rfl, e⟩
    have FP := hid fp
    clear fp hm hqe hsum nf hq
    go_enter Tryz.func68, Tryz.ntmps68
    go_wp2_with fail
    refine (itoa_any (u - 1) w hub hub2 HT.out).mono ?_
    rintro e w1 ⟨rfl, hx1⟩
    have h1 : Ext w w1 := hx1
    clear hx1
    go_wp2_with fail
    refine (mul_ok (K.txt (u - 1)) l w1 L1.out hlen V1.out hl.out (HT.out.ext h1)).mono ?_
    intro e w2 h
    rw [K.numL_txt, HQ.out] at h
    obtain ⟨rfl, hx2⟩ : e = .returned (.tuple #[.string ⟨#[]⟩, .int .i64 3]) ∧ Ext w1 w2 := ⟨h.2.1 FP.out, h.2.2⟩
    have HX := hid (HFIN.out _ (h1.step hx2))
    clear h h1 hx2
    go_wp2
    go_ret2
    exact HX.out
theorem long_ge {l : List UInt8} (h : K.validL l = true) (hl : 15 < l.length) : 100000000000000 ≤ (K.numL l).natAbs := by
  obtain ⟨hval, hll⟩ := body_val h
  have e := (K.txt_numL l h).1
  have hb : K.body l = K.dgs (K.numL l).natAbs := by conv => lhs; rw [← e, K.body_txt]
  rw [hb] at hll
  have h3 : (10 : Nat) ^ 14 = 100000000000000 := rfl
  rcases Nat.lt_or_ge (K.numL l).natAbs 100000000000000 with h4 | h4
  · have := (K.dgs_len (K.numL l).natAbs 14 (by omega)).2 (by rw [h3]; exact h4)
    split at hll <;> omega
  · exact h4
theorem quot_ge {x m : Int} (hm : 2 ≤ m) (hm2 : m ≤ 12) (hx : 100000000000000 ≤ x.natAbs) : 2000000000000 ≤ (x / m).natAbs := by
  have h1 := Int.mul_ediv_add_emod x m
  have h2 := Int.emod_nonneg x (show m ≠ 0 by omega)
  have h3 := Int.emod_lt_of_pos x (show 0 < m by omega)
  generalize x / m = q at *
  generalize x % m = r at *
  have h4 : (m * q).natAbs = m.natAbs * q.natAbs := Int.natAbs_mul m q
  have h5 : m.natAbs * q.natAbs ≤ 12 * q.natAbs := Nat.mul_le_mul_right _ (by omega)
  omega
set_option maxRecDepth 100000 in
set_option maxHeartbeats 1600000 in
theorem long_any (v : Value) (m : Int) (us ad : List Int) (l : List UInt8) (w : World) (hv : MapV w v m us ad) (hM : Hid (mapP m us ad)) (hl : Hid (K.validL l = true)) (hs : 15 < l.length) (ht : Tab w) :
    Calls Tryz.prog 59 #[v, .string (Str l)] w (ToldPost (stepI m us ad (K.numL l)) w) := by
  have HT := hid ht
  obtain ⟨A, n, cc, B, n2, d, rfl, hk, hkc, hl2, hld, ra, rb, bk, bl⟩ := hv
  have hx : Ext w (w.alloc (.cells #[.int .i64 m, .slice A n cc, .slice B n2 d] 24)) := (Ext.rfl' w).alloc' _
  have HX := hid hx
  have hk3 : ∀ w', Ext (w.alloc (.cells #[.int .i64 m, .slice A n cc, .slice B n2 d] 24)) w' → _ := fun w' e => three_facts e rfl
  obtain ⟨W1, hW1⟩ : ∃ W1, w.alloc (.cells #[.int .i64 m, .slice A n cc, .slice B n2 d] 24) = W1 := ⟨_, rfl⟩
  rw [hW1] at HX hk3
  have HK3 := hid hk3
  have HW1 := hid hW1
  have HRA := hid ra
  have HRB := hid rb
  have HK := hid hk
  have HL := hid hl2
  have hm2 : 2 ≤ m := hM.out.1
  have hm12 : m ≤ 12 := hM.out.2.1
  have hlen := len_of (valid_len hl.out)
  have hfx := (K.txt_numL l hl.out).2
  have hxl := long_ge hl.out hs
  obtain ⟨x, hxe⟩ : ∃ x, K.numL l = x := ⟨_, rfl⟩
  rw [hxe] at hxl hfx
  have hqg := quot_ge hm2 hm12 hxl
  have hpar := stepI_parts hM.out x
  have hrl := rOf_lt (m := m) (x := x) (by omega)
  have hrule := rule_at hM.out x
  have hfq : K.fits (x / m) := fits_le (Int.natAbs_ediv_le_natAbs x m) hfx
  obtain ⟨r, hr⟩ : ∃ r, rOf m x = r := ⟨_, rfl⟩
  obtain ⟨u, hu⟩ : ∃ u, us.getD r 0 = u := ⟨_, rfl⟩
  obtain ⟨a, ha⟩ : ∃ a, ad.getD r 0 = a := ⟨_, rfl⟩
  rw [hr] at hpar hrl hrule
  rw [hu, ha] at hpar hrule
  obtain ⟨r1, r2, a1, a2, r5⟩ := hrule
  obtain ⟨y, hy⟩ : ∃ y, stepI m us ad x = y := ⟨_, rfl⟩
  rw [hy] at hpar
  obtain ⟨qq, hqq⟩ : ∃ qq, x / m = qq := ⟨_, rfl⟩
  rw [hqq] at hqg hpar hfq
  have hp : 0 ≤ u * r ∧ u * r ≤ 10989 := by
    refine ⟨Int.mul_nonneg (by omega) (by omega), ?_⟩
    have := Int.mul_le_mul (show u ≤ 999 by omega) (show (r : Int) ≤ 11 by omega) (by omega) (by omega)
    omega
  obtain ⟨p, hpe⟩ : ∃ p, u * (r : Int) = p := ⟨_, rfl⟩
  rw [hpe] at hp hpar r5
  obtain ⟨c, hc⟩ : ∃ c, (p + a) / m = c := ⟨_, rfl⟩
  have hdiv : (p + a).tdiv m = c := by rw [← hc]; exact Int.tdiv_eq_ediv_of_dvd (Int.dvd_of_emod_eq_zero r5)
  have hcb := Int.natAbs_ediv_le_natAbs (p + a) m
  rw [hc] at hpar hcb
  have hcs : c.natAbs ≤ 1010988 := by omega
  have HPE := hid hpe
  have HDIV := hid hdiv
  have HY := hid hpar
  have HU := hid hu
  have HA := hid ha
  have HFQ := hid hfq
  have HQG := hid (show 2 * c.natAbs ≤ qq.natAbs by omega)
  have hrn : r < n := by have := hM.out.2.2.1; omega
  have hrn2 : r < n2 := by have := hM.out.2.2.2.1; omega
  have hrm : (r : Int) < m := hrl.1
  have HREST : Hid (x % m = (r : Int)) := hid hrl.2.symm
  have HNX := hid hxe
  have HQQ := hid hqq
  have p1 := hp.1
  have p2 := hp.2
  have c1 : -1010988 ≤ c := by omega
  have c2 : c ≤ 1010988 := by omega
  have VM := hid (valid_small (n := m) (by omega))
  have LM := hid (len_small (n := m) (by omega))
  have VR := hid (valid_small (n := (r : Int)) (by omega))
  have LR : Hid ((K.txt (r : Int)).length ≤ 17) := hid (by
    have h1 : ¬ (r : Int) < 0 := by omega
    unfold K.txt
    rw [if_neg h1, Int.natAbs_natCast]
    exact Nat.le_trans ((K.dgs_len r 17 (by omega)).2 (by omega)) (Nat.le_refl _))
  rw [hxe, hy]
  clear hx hk3 hW1 ra rb hk hl2 hpar hrl r5 hr hu ha hy hxe hqq hpe hc hdiv hcb hcs hp hqg hfq hfx hxl
  go_enter Tryz.func59, Tryz.ntmps59
  go_upto_region 1 with fail
  rw [HW1.out]
  obtain ⟨f0, f1, f2, -⟩ := HK3.out _ (Ext.rfl' _)
  go_wp2_with fail
  refine (itoa_any m W1 (by omega) (by omega) (HT.out.ext HX.out)).mono ?_
  rintro e w2 ⟨rfl, hx2⟩
  have h2 : Ext W1 w2 := hx2
  clear hx2 f0 f1 f2
  go_wp2_with fail
  refine (divide_ok l (K.txt m) w2 hlen LM.out hl.out VM.out (by rw [K.numL_txt]; omega) ((HT.out.ext HX.out).ext h2)).mono ?_
  rintro e w3 ⟨he, hx3⟩
  rw [K.numL_txt, HNX.out, HQQ.out, HREST.out] at he
  subst he
  have h3 : Ext W1 w3 := h2.step hx3
  clear hx3 h2
  go_wp2_with fail
  refine (atoi_any (K.txt (r : Int)) w3 VR.out LR.out).mono ?_
  rintro e w4 ⟨he, hx4⟩
  rw [K.numL_txt] at he
  subst he
  have h4 : Ext W1 w4 := h3.step hx4
  clear hx4 h3
  obtain ⟨f0, f1, f2, -⟩ := HK3.out _ h4
  obtain ⟨ba, oa, eA, hba, hca⟩ := ((HRA.out.ext HX.out).ext h4).atI (k := r) (by rw [HK.out]; exact hrn)
  obtain ⟨bb, ob, eB, hbb, hcb⟩ := ((HRB.out.ext HX.out).ext h4).atI (k := r) (by rw [HL.out]; exact hrn2)
  subst eA eB
  rw [HU.out] at hca
  rw [HA.out] at hcb
  clear hba hbb
  go_upto_region 7 with fail
  have q1 : IntKind.i64.wrap (u * (r : Int)) = p := by rw [HPE.out]; exact IntWalk.i64_in _ (by omega)
  have q2 : IntKind.i64.wrap (p + a) = p + a := IntWalk.i64_in _ (by omega)
  have q3 : IntKind.i64.wrap ((p + a).tdiv m) = c := by rw [HDIV.out]; exact IntWalk.i64_in _ (by omega)
  have m0 : ¬ m = 0 := by omega
  have m1 : (m == 0) = false := by rw [beq_eq_false_iff_ne]; omega
  have HC : Hid (∀ w', Ext w4 w' → w'.cell? ⟨w.heap.size, 0, none⟩ = some (.int .i64 m) ∧ w'.cell? ⟨w.heap.size, 1, none⟩ = some (.slice (some ⟨ba, oa, none⟩) n cc) ∧ w'.cell? ⟨w.heap.size, 2, none⟩ = some (.slice (some ⟨bb, ob, none⟩) n2 d) ∧ w'.cell? ⟨ba, oa + r, none⟩ = some (.int .i64 u) ∧ w'.cell? ⟨bb, ob + r, none⟩ = some (.int .i64 a)) := hid (by
    intro w' e
    obtain ⟨g0, g1, g2, -⟩ := HK3.out _ (h4.step e)
    obtain ⟨b1, o1, e1, -, hc1⟩ := ((HRA.out.ext HX.out).ext (h4.step e)).atI (k := r) (by rw [HK.out]; exact hrn)
    obtain ⟨b2, o2, e2, -, hc2⟩ := ((HRB.out.ext HX.out).ext (h4.step e)).atI (k := r) (by rw [HL.out]; exact hrn2)
    cases e1
    cases e2
    rw [HU.out] at hc1
    rw [HA.out] at hc2
    exact ⟨g0, g1, g2, hc1, hc2⟩)
  have H4 := hid h4
  clear h4
  go_region_held3 (fun w' => w'.cell? ⟨w.heap.size, 0, none⟩ = some (.int .i64 m) ∧ w'.cell? ⟨w.heap.size, 1, none⟩ = some (.slice (some ⟨ba, oa, none⟩) n cc) ∧ w'.cell? ⟨w.heap.size, 2, none⟩ = some (.slice (some ⟨bb, ob, none⟩) n2 d) ∧ w'.cell? ⟨ba, oa + r, none⟩ = some (.int .i64 u) ∧ w'.cell? ⟨bb, ob + r, none⟩ = some (.int .i64 a))
    (first | exact HC.out _ hx5 | go_keep)
    (first | (go_at_call 68; refine (times_plus u c (K.txt qq) _ (hid (K.valid_txt _ HFQ.out)) (len_of (K.txt_len _ HFQ.out)) r1 r2 (by omega) (by omega) (by rw [K.numL_txt]; exact HQG.out) ?_).mono ?_; (first | exact (HT.out.ext HX.out).ext H4.out | exact (HT.out.ext HX.out).ext H4.out.drew'); intro e w5 h5; rw [K.numL_txt, ← HY.out] at h5; obtain ⟨s5, c5, rfl, -, hx5⟩ := told2_of h5; have hx5 := (show Ext w4 w5 by first | exact hx5 | exact Ext.undrew hx5); have H5 := hid h5; clear h5))
  all_goals
    have hfin : ToldPost y w (.returned (.tuple #[.string s5, .int .i64 c5])) w5 := ⟨H5.out.1, H5.out.2.1, (HX.out.step H4.out).step hx5⟩
    have HFIN := hid hfin
    clear hfin hx5
    go_wp2
    go_ret2
    exact HFIN.out
end Go.Proofs.YtoilkfohhhidpaaGreatDoor
/- step.next, step.after -/
namespace Go.Proofs.YtoilkfohhhidpaaGreatDoor
open Go.RowKit
set_option maxRecDepth 100000 in
set_option maxHeartbeats 800000 in
theorem next_any (v : Value) (m : Int) (us ad : List Int) (l : List UInt8) (w : World) (hv : MapV w v m us ad) (hM : Hid (mapP m us ad)) (hl : Hid (K.validL l = true)) (ht : Tab w) :
    Calls Tryz.prog 52 #[v, .string (Str l)] w (ToldPost (stepI m us ad (K.numL l)) w) := by
  have HT := hid ht
  have HV := hid hv
  obtain ⟨A, n, cc, B, n2, d, rfl, -⟩ := hv
  have hx : Ext w (w.alloc (.cells #[.int .i64 m, .slice A n cc, .slice B n2 d] 24)) := (Ext.rfl' w).alloc' _
  obtain ⟨f0, f1, f2, -⟩ := three_facts (Ext.rfl' (w.alloc (.cells #[.int .i64 m, .slice A n cc, .slice B n2 d] 24))) rfl
  obtain ⟨W1, hW1⟩ : ∃ W1, w.alloc (.cells #[.int .i64 m, .slice A n cc, .slice B n2 d] 24) = W1 := ⟨_, rfl⟩
  rw [hW1] at hx f0 f1 f2
  have HX := hid hx
  have HW1 := hid hW1
  have hsz := Str_size l
  obtain ⟨y, hy⟩ : ∃ y, stepI m us ad (K.numL l) = y := ⟨_, rfl⟩
  rw [hy]
  have HY := hid hy
  clear hW1 hx hy
  by_cases hs : l.length ≤ 15
  · have hs2 : (Str l).size ≤ 15 := by omega
    have hyf := (step_small hM.out (short_lt hl.out hs)).2.2
    rw [HY.out] at hyf
    have HF := hid (fits_small hyf)
    have HS := hid hs
    clear hs hsz hyf
    go_enter Tryz.func52, Tryz.ntmps52
    go_upto_region 1 with fail
    rw [HW1.out]
    go_wp2_with fail
    refine (short_any _ m us ad l W1 (HV.out.ext HX.out) hM hl HS.out (HT.out.ext HX.out)).mono ?_
    rintro e w2 ⟨he, hx2⟩
    rw [HY.out] at he
    subst he
    have hfin : ToldPost y w (.returned (.tuple #[.string (Str (K.txt y)), .int .i64 0])) w2 := ⟨fun _ => rfl, fun h => absurd HF.out h, HX.out.step hx2⟩
    have HFIN := hid hfin
    clear hfin hx2
    go_wp2
    go_ret2
    exact HFIN.out
  · have hs2 : ¬ (Str l).size ≤ 15 := by omega
    have HS := hid (show 15 < l.length by omega)
    clear hs hsz
    go_enter Tryz.func52, Tryz.ntmps52
    go_upto_region 1 with fail
    rw [HW1.out]
    go_wp2_with fail
    refine (long_any _ m us ad l W1 (HV.out.ext HX.out) hM hl HS.out (HT.out.ext HX.out)).mono ?_
    intro e w2 h
    rw [HY.out] at h
    obtain ⟨s5, c5, rfl, -, -⟩ := told2_of h
    have HFIN := hid (told_step HX.out h)
    clear h
    go_wp2
    go_ret2
    exact HFIN.out
end Go.Proofs.YtoilkfohhhidpaaGreatDoor
/- step.after and what it hands on, round by round -/
namespace Go.Proofs.YtoilkfohhhidpaaGreatDoor
open Go.RowKit Go.Proofs
attribute [local go_sem] Oper.semAt_some
/-- what a round is handed: a number that fits, or nothing -/
def Item : Type := { t : Option Int // ∀ y, t = some y → K.fits y }
def strO : Option Int → ByteArray
  | some y => Str (K.txt y)
  | none => ⟨#[]⟩
def codeO : Option Int → Int
  | some _ => 0
  | none => 3
def encI (t : Item) : Array Value := #[.string (strO t.1), .int .i64 (codeO t.1)]
def seqO (m : Int) (us ad : List Int) : Nat → Int → List (Option Int)
  | 0, _ => []
  | k + 1, x => if fitsB (stepI m us ad x) = true then some (stepI m us ad x) :: seqO m us ad k (stepI m us ad x) else [none]
theorem grown_of_ext {w w' : World} (h : Ext w w') : w.grownBy w' none := ⟨h.os, h.tape, h.output, h.size, fun k hk _ => h.block k hk⟩
theorem AbidesFrom.ext {β : Type} {B : Nat} {J : β → World → Prop} (h : AbidesFrom B J) {s : β} {w w' : World} (hs : J s w) (e : Ext w w') : J s w' :=
  h s w w' none hs (grown_of_ext e) (fun r e => by cases e)
set_option maxHeartbeats 1000000 in
theorem after_any (A : Option Addr) (n c : Nat) (B : Option Addr) (n2 d : Nat) (m : Int) (s : ByteArray) (k : Int) (w : World) :
    Calls Tryz.prog 32 #[.agg #[.int .i64 m, .slice A n c, .slice B n2 d], .string s, .int .i64 k] w (fun e w' => e = .returned (.func (.func 51) #[] #[.pointer (some ⟨w.heap.size + 1, 0, none⟩), .pointer (some ⟨w.heap.size + 1 + 1, 0, none⟩), .pointer (some ⟨w.heap.size, 0, none⟩)]) ∧
      w' = ((w.alloc (.cells #[.int .i64 m, .slice A n c, .slice B n2 d] 24)).alloc (.cells #[.string s] 9)).alloc (.cells #[.int .i64 k] 3)) := by
  go_enter Tryz.func32, Tryz.ntmps32
  go_wp2
  go_ret
  exact ⟨rfl, rfl⟩
/-- what lay below n₀ stands, and block Bm -/
def KeptM (n₀ Bm : Nat) (W W' : World) : Prop := Below n₀ W W' ∧ W'.heap[Bm]? = W.heap[Bm]?
theorem KeptM.t {n₀ Bm : Nat} {A B C : World} (h : KeptM n₀ Bm A B) (k : KeptM n₀ Bm B C) : KeptM n₀ Bm A C := ⟨h.1.trans k.1, k.2.trans h.2⟩
theorem KeptM.row {n₀ Bm : Nat} {W W' : World} {t : TypeId} {vs : List Value} (h : KeptM n₀ Bm W W') (r : Row W Bm t vs) : Row W' Bm t vs := h.2.trans r
set_option maxRecDepth 100000 in
set_option maxHeartbeats 2000000 in
theorem after1_in (n : Nat) (hn : 1 ≤ n) (l Bn Bk Bm n₀ k : Nat) (x : Int) (v : Value) (m : Int) (us ad : List Int) (w0 : World) (hn0 : w0.heap.size = n₀) (hv : MapV w0 v m us ad) (hM : Hid (mapP m us ad)) (hfx : K.fits x) (ht : Tab w0)
    (J Jx : List Item → World → Prop) (W : World) (hJa : AbidesFrom W.heap.size J) (hJxa : AbidesFrom W.heap.size Jx) (hW : Below n₀ w0 W) (hsz : k ≤ 20000)
    (A : Option Addr) (nn c : Nat) (B : Option Addr) (n2 d : Nat) (ev : v = .agg #[.int .i64 m, .slice A nn c, .slice B n2 d])
    (hBn : W.cell? ⟨Bn, 0, none⟩ = some (.string (Str (K.txt x)))) (hBk : W.cell? ⟨Bk, 0, none⟩ = some (.int .i64 (k : Int)))
    (hBm : Row W Bm 24 [.int .i64 m, .slice A nn c, .slice B n2 d])
    (hY : ∀ pre t W1, J pre W1 → pre.length < k → YieldAt Fence.wide (n - 1) Tryz.prog l (encI t) W1 fun e W' =>
      (e = .returned (.bool true) ∧ J (pre ++ [t]) W' ∧ KeptM n₀ Bm W1 W') ∨ (e = .returned (.bool false) ∧ Jx (pre ++ [t]) W')) (h0 : J [] W) :
    CallsIn Fence.wide n Tryz.prog 51 #[.func (.yield l) #[] #[], .pointer (some ⟨Bn, 0, none⟩), .pointer (some ⟨Bk, 0, none⟩), .pointer (some ⟨Bm, 0, none⟩)] W fun e W' => (∃ v, e = .returned v) ∧
      ((∃ xs : List Item, xs.map (·.1) = seqO m us ad k x ∧ J xs W') ∨ (∃ pre : List Item, pre.map (·.1) <+: seqO m us ad k x ∧ Jx pre W')) := by
  subst ev
  have HV := hid hv
  have HT := hid ht
  have HBM := hid hBm
  have HJA := hid hJa
  have HJXA := hid hJxa
  have HFX := hid hfx
  have HN0 := hid hn0
  clear hv ht hBm hJa hJxa hfx hn0
  refine callsIn_of_wp Tryz.func51 rfl trivial ?_ rfl
  simp only [Tryz.ntmps51, List.size_toArray, List.length_cons, List.length_nil, Nat.reduceAdd, Nat.reduceSub, Array.replicate_succ, Array.replicate_zero, List.push_toArray, List.append_toArray, List.nil_append, List.cons_append]
  gi_wp2
  gi_loopw [5, 6, 7, 10] (fun xz _ _ iz wr => ∃ (j : Nat) (cur : Int) (pre : List Item), j ≤ k ∧ iz = .int .i64 (j : Int) ∧ xz = .string (Str (K.txt cur)) ∧ Hid (K.fits cur) ∧ Hid (pre.map (·.1) ++ seqO m us ad (k - j) cur = seqO m us ad k x) ∧ Hid (pre.length = j) ∧ Hid (J pre wr) ∧ Hid (Row wr Bm 24 [.int .i64 m, .slice A nn c, .slice B n2 d]) ∧ Below n₀ W wr) (fun _ _ _ iz _ => k - (intOf iz).toNat)
  case atStart => exact ⟨0, x, [], Nat.zero_le _, rfl, rfl, HFX, hid rfl, hid rfl, hid h0, HBM, Below.refl _ _⟩
  case round =>
    obtain ⟨j, cur, pre, hj, rfl, rfl, HF, HS, HL, HJ, HR0, hnx⟩ := hrel
    have f0 : wr.cell? ⟨Bm, 0, none⟩ = some (.int .i64 m) := by rw [HR0.out.cell]; rfl
    have f1 : wr.cell? ⟨Bm, 1, none⟩ = some (.slice A nn c) := by rw [HR0.out.cell]; rfl
    have f2 : wr.cell? ⟨Bm, 2, none⟩ = some (.slice B n2 d) := by rw [HR0.out.cell]; rfl
    by_cases hlt : j < k
    · have hw : Ext w0 wr := by have h := hW.trans hnx; rw [← HN0.out] at h; exact h
      have HW := hid hw
      have HSQ : Hid (pre.map (·.1) ++ (if fitsB (stepI m us ad cur) = true then some (stepI m us ad cur) :: seqO m us ad (k - (j + 1)) (stepI m us ad cur) else [none]) = seqO m us ad k x) := hid (by
        rw [← HS.out, show k - j = (k - (j + 1)) + 1 by omega]; rfl)
      have HVAL : Hid (K.validL (K.txt cur) = true) := hid (K.valid_txt _ HF.out)
      obtain ⟨y, hy⟩ : ∃ y, stepI m us ad cur = y := ⟨_, rfl⟩
      have HY := hid hy
      rw [hy] at HSQ
      clear hy hw
      gi_wp2_with fail
      refine ⟨trivial, callsIn_wide.2 ((next_any _ m us ad (K.txt cur) wr (HV.out.ext HW.out) hM HVAL (HT.out.ext HW.out)).mono ?_)⟩
      intro e w2 h
      rw [K.numL_txt, HY.out] at h
      by_cases hf : K.fits y
      · obtain ⟨rfl, hx2⟩ : e = .returned (.tuple #[.string (Str (K.txt y)), .int .i64 0]) ∧ Ext wr w2 := ⟨h.1 hf, h.2.2⟩
        have hJ2 := AbidesFrom.ext HJA.out HJ.out hx2
        obtain ⟨it, hit⟩ : ∃ it : Item, it.1 = some y := ⟨⟨some y, fun z hz => by cases hz; exact hf⟩, rfl⟩
        have henc : encI it = #[.string (Str (K.txt y)), .int .i64 0] := by show #[Value.string (strO it.1), Value.int .i64 (codeO it.1)] = _; rw [hit]; rfl
        obtain ⟨fn, tmps, assign, body, hyy, hR⟩ := hY pre it w2 hJ2 (by rw [HL.out]; exact hlt)
        rw [henc] at hyy
        have HIT := hid hit
        have hsq := HSQ.out
        rw [if_pos (fitsB_yes hf)] at hsq
        have HSQ2 := hid hsq
        have HFY := hid hf
        have hb2 : Below n₀ wr w2 := hx2.mono (by have := HW.out.size; rw [← HN0.out]; exact this)
        have hnx2 := hnx.trans hb2
        have HR2 := hid (HR0.out.ext hx2)
        have HR := hid hR
        clear h hJ2 hsq hf hR f0 f1 f2 hnx hb2 hx2 hit henc
        gi_wp2
        refine HR.out.mono ?_
        rintro e W3 (⟨rfl, hJ3, hk3⟩ | ⟨rfl, hJx3⟩)
        · have hnx3 := hnx2.trans hk3.1
          have HR3 := hid (hk3.row HR2.out)
          have HJ3 := hid hJ3
          clear hJ3 hk3 hnx2
          gi_wp2
          go_roundw
          case rel => exact ⟨j + 1, y, pre ++ [it], by omega, by simp, rfl, HFY, hid (by rw [← HSQ2.out, List.map_append, List.append_assoc]; simp [HIT.out]), hid (by rw [List.length_append, HL.out]; rfl), HJ3, HR3, hnx3⟩
          case measure => simp [intOf]; omega
        · have HFIN : Hid (∃ pre : List Item, pre.map (·.1) <+: seqO m us ad k x ∧ Jx pre W3) := hid ⟨_, by rw [← HSQ2.out, List.map_append]; exact (List.prefix_append_right_inj _).2 (by simp [HIT.out]), hJx3⟩
          clear hJx3
          gi_wp2
          refine bodyPost_ret (results_none rfl _ _ _) rfl ?_
          exact ⟨⟨_, rfl⟩, .inr HFIN.out⟩
      · obtain ⟨rfl, hx2⟩ : e = .returned (.tuple #[.string ⟨#[]⟩, .int .i64 3]) ∧ Ext wr w2 := ⟨h.2.1 hf, h.2.2⟩
        have hJ2 := AbidesFrom.ext HJA.out HJ.out hx2
        obtain ⟨it, hit⟩ : ∃ it : Item, it.1 = none := ⟨⟨none, fun z hz => by cases hz⟩, rfl⟩
        have henc : encI it = #[.string ⟨#[]⟩, .int .i64 3] := by show #[Value.string (strO it.1), Value.int .i64 (codeO it.1)] = _; rw [hit]; rfl
        obtain ⟨fn, tmps, assign, body, hyy, hR⟩ := hY pre it w2 hJ2 (by rw [HL.out]; exact hlt)
        rw [henc] at hyy
        have HIT := hid hit
        have hsq := HSQ.out
        rw [if_neg (by rw [fitsB_no hf]; simp)] at hsq
        have HSQ2 := hid hsq
        have HR := hid hR
        clear h hJ2 hsq hf hR f0 f1 f2 hnx hx2 hit henc
        gi_wp2
        refine HR.out.mono ?_
        rintro e W3 (⟨rfl, hJ3, hk3⟩ | ⟨rfl, hJx3⟩)
        · have HFIN : Hid (∃ xs : List Item, xs.map (·.1) = seqO m us ad k x ∧ J xs W3) := hid ⟨_, by rw [← HSQ2.out, List.map_append]; simp [HIT.out], hJ3⟩
          clear hJ3 hk3
          gi_wp2
          refine bodyPost_ret (results_none rfl _ _ _) rfl ?_
          exact ⟨⟨_, rfl⟩, .inl HFIN.out⟩
        · have HFIN : Hid (∃ pre : List Item, pre.map (·.1) <+: seqO m us ad k x ∧ Jx pre W3) := hid ⟨_, by rw [← HSQ2.out, List.map_append]; exact (List.prefix_append_right_inj _).2 (by simp [HIT.out]), hJx3⟩
          clear hJx3
          gi_wp2
          refine bodyPost_ret (results_none rfl _ _ _) rfl ?_
          exact ⟨⟨_, rfl⟩, .inr HFIN.out⟩
    · obtain rfl : j = k := by omega
      have HFIN : Hid (∃ xs : List Item, xs.map (·.1) = seqO m us ad j x ∧ J xs wr) := hid ⟨pre, by rw [← HS.out, Nat.sub_self]; simp [seqO], HJ.out⟩
      gi_wp2
      go_end0
      exact ⟨⟨_, rfl⟩, .inl HFIN.out⟩
theorem after_stops (n : Nat) (hn : 1 ≤ n) (Bn Bk Bm k : Nat) (x : Int) (m : Int) (us ad : List Int) (A : Option Addr) (nn c : Nat) (B : Option Addr) (n2 d : Nat) (wc w : World)
    (hv : MapV wc (.agg #[.int .i64 m, .slice A nn c, .slice B n2 d]) m us ad) (hM : Hid (mapP m us ad)) (hfx : K.fits x) (ht : Tab wc) (hsz : k ≤ 20000) (hw : Ext wc w)
    (hBn : w.cell? ⟨Bn, 0, none⟩ = some (.string (Str (K.txt x)))) (hBk : w.cell? ⟨Bk, 0, none⟩ = some (.int .i64 (k : Int))) (hBm : Row w Bm 24 [.int .i64 m, .slice A nn c, .slice B n2 d]) (b1 : Bn < w.heap.size) (b2 : Bk < w.heap.size) :
    SeqStopsK Fence.wide n Tryz.prog 51 #[.pointer (some ⟨Bn, 0, none⟩), .pointer (some ⟨Bk, 0, none⟩), .pointer (some ⟨Bm, 0, none⟩)] encI (KeptM wc.heap.size Bm) (fun xs => xs.map (·.1) = seqO m us ad k x) (fun pre => pre.map (·.1) <+: seqO m us ad k x) k w :=
  fun l J Jx W hW hJ hJx hY h0 => after1_in n hn l Bn Bk Bm wc.heap.size k x _ m us ad wc rfl hv hM hfx ht J Jx W hJ hJx (hw.trans (hW.mono hw.size)) hsz A nn c B n2 d rfl
    ((hW.cell (p := ⟨Bn, 0, none⟩) b1).trans hBn) ((hW.cell (p := ⟨Bk, 0, none⟩) b2).trans hBk) (hBm.ext hW) hY h0
end Go.Proofs.YtoilkfohhhidpaaGreatDoor
/- step.Run, step.Step -/
namespace Go.Proofs.YtoilkfohhhidpaaGreatDoor
open Go.RowKit Go.Proofs
attribute [local go_sem] Oper.semAt_some
def lastO (x : Int) (l : List (Option Int)) : Int := l.foldl (fun a o => o.getD a) x
theorem seq_run (m : Int) (us ad : List Int) : ∀ (k : Nat) (x : Int), (none ∉ seqO m us ad k x → runO m us ad k x = some (lastO x (seqO m us ad k x))) ∧ (none ∈ seqO m us ad k x → runO m us ad k x = none)
  | 0, x => ⟨fun _ => rfl, fun h => by simp [seqO] at h⟩
  | k + 1, x => by
    have ih := seq_run m us ad k (stepI m us ad x)
    rw [seqO, runO_succ]
    by_cases hf : fitsB (stepI m us ad x) = true
    · rw [if_pos hf, if_pos hf]
      refine ⟨fun h => ?_, fun h => ?_⟩
      · rw [ih.1 (fun h2 => h (List.mem_cons_of_mem _ h2))]; rfl
      · exact ih.2 (by simpa using h)
    · rw [if_neg hf, if_neg hf]
      exact ⟨fun h => absurd (List.mem_singleton.2 rfl) h, fun _ => rfl⟩
theorem lastO_snoc (x : Int) (l : List (Option Int)) (y : Int) : lastO x (l ++ [some y]) = y := by simp [lastO]
/-- a result, or ErrSize -/
def OptPost (o : Option Int) (w : World) (e : Ending) (w' : World) : Prop := e = .returned (.tuple #[.string (strO o), .int .i64 (codeO o)]) ∧ Ext w w'
theorem one_facts {W w' : World} {a : Value} {t : TypeId} {H : Nat} (e : Ext (W.alloc (.cells #[a] t)) w') (hH : W.heap.size = H) : Row w' H t [a] := by
  subst hH; exact (Row.new W t [a]).ext e
theorem Row.grown {W W' : World} {B g : Nat} {t : TypeId} {vs : List Value} {row : Option Nat} (h : Row W g t vs) (hg : W.grownBy W' row) (hr : ∀ r, row = some r → B ≤ r ∧ ∃ o : Obj, W.heap[r]? = some o ∧ o.isCells = false) : Row W' g t vs := by
  refine (hg.block g h.lt ?_).trans h
  intro e
  obtain ⟨-, o, ho, hc⟩ := hr g e.symm
  have h' : W.heap[g]? = some (.cells vs.toArray t (0, 0)) := h
  rw [h'] at ho
  cases ho
  simp [Obj.isCells] at hc
theorem ext_grown {w W W' : World} {B : Nat} {row : Option Nat} (h : Ext w W) (hB : w.heap.size ≤ B) (hg : W.grownBy W' row) (hr : ∀ r, row = some r → B ≤ r ∧ ∃ o : Obj, W.heap[r]? = some o ∧ o.isCells = false) : Ext w W' :=
  h.grown hg h.size (fun k e => Nat.le_trans hB (hr k e).1)
set_option maxRecDepth 100000 in
set_option maxHeartbeats 3200000 in
theorem runIn_ok (v : Value) (m : Int) (us ad : List Int) (l : List UInt8) (k : Nat) (w : World) (hv : MapV w v m us ad) (hM : Hid (mapP m us ad)) (hl : Hid (K.validL l = true)) (hk : k ≤ 20000) (ht : Tab w) :
    CallsIn Fence.wide 9 Tryz.prog 10 #[v, .string (Str l), .int .i64 (k : Int)] w (OptPost (runO m us ad k (K.numL l)) w) := by
  have HT := hid ht
  have HV := hid hv
  have hlen := len_of (valid_len hl.out)
  obtain ⟨A, n, c, B, n2, d, rfl, -⟩ := hv
  have hx3 : Ext w (((w.alloc (.cells #[.int .i64 m, .slice A n c, .slice B n2 d] 24)).alloc (.cells #[.string ⟨#[]⟩] 9)).alloc (.cells #[.int .i64 0] 26)) := (((Ext.rfl' w).alloc' _).alloc' _).alloc' _
  have h0 : Row (((w.alloc (.cells #[.int .i64 m, .slice A n c, .slice B n2 d] 24)).alloc (.cells #[.string ⟨#[]⟩] 9)).alloc (.cells #[.int .i64 0] 26)) w.heap.size 24 [.int .i64 m, .slice A n c, .slice B n2 d] := ((Row.new w _ _).alloc _).alloc _
  have h1 : Row (((w.alloc (.cells #[.int .i64 m, .slice A n c, .slice B n2 d] 24)).alloc (.cells #[.string ⟨#[]⟩] 9)).alloc (.cells #[.int .i64 0] 26)) (w.heap.size + 1) 9 [.string ⟨#[]⟩] := by
    have := (Row.new (w.alloc (.cells #[.int .i64 m, .slice A n c, .slice B n2 d] 24)) 9 [.string ⟨#[]⟩]).alloc (.cells #[.int .i64 0] 26)
    rwa [World.size_alloc] at this
  have h2 : Row (((w.alloc (.cells #[.int .i64 m, .slice A n c, .slice B n2 d] 24)).alloc (.cells #[.string ⟨#[]⟩] 9)).alloc (.cells #[.int .i64 0] 26)) (w.heap.size + 1 + 1) 26 [.int .i64 0] := by
    have := Row.new ((w.alloc (.cells #[.int .i64 m, .slice A n c, .slice B n2 d] 24)).alloc (.cells #[.string ⟨#[]⟩] 9)) 26 [.int .i64 0]
    rwa [World.size_alloc, World.size_alloc] at this
  obtain ⟨W3, hW3⟩ : ∃ W3, (((w.alloc (.cells #[.int .i64 m, .slice A n c, .slice B n2 d] 24)).alloc (.cells #[.string ⟨#[]⟩] 9)).alloc (.cells #[.int .i64 0] 26)) = W3 := ⟨_, rfl⟩
  rw [hW3] at hx3 h0 h1 h2
  have HW3 := hid hW3
  have HX3 := hid hx3
  have H0 := hid h0
  have H1 := hid h1
  have H2 := hid h2
  clear hW3 hx3 h0 h1 h2
  refine callsIn_of_wp_marks Tryz.func10 rfl trivial ?_ rfl
  simp only [Tryz.ntmps10, List.size_toArray, List.length_cons, List.length_nil, Nat.reduceAdd, Nat.reduceSub, Array.replicate_succ, Array.replicate_zero, List.push_toArray, List.append_toArray, List.nil_append, List.cons_append]
  gi_wp2_with fail
  rw [HW3.out]
  refine ⟨trivial, callsIn_wide.2 ((check_any _ m us ad l (k : Int) 0 20000 W3 (HV.out.ext HX3.out) hlen (hid ((mapB_iff m us ad).2 hM.out)) hl (hid (show (0 : Int) = _ by rw [if_pos (by simp), if_neg (by omega)]))).mono ?_)⟩
  rintro e w4 ⟨rfl, hx4⟩
  have R0 := hid (H0.out.ext hx4)
  have R1 := hid (H1.out.ext hx4)
  have R2 := hid (H2.out.ext hx4)
  have HX4 := hid (HX3.out.step hx4)
  clear hx4
  have f0 : w4.cell? ⟨w.heap.size, 0, none⟩ = some (.int .i64 m) := by rw [R0.out.cell]; rfl
  have f1 : w4.cell? ⟨w.heap.size, 1, none⟩ = some (.slice A n c) := by rw [R0.out.cell]; rfl
  have f2 : w4.cell? ⟨w.heap.size, 2, none⟩ = some (.slice B n2 d) := by rw [R0.out.cell]; rfl
  have hlt4 : w.heap.size + 1 + 1 < w4.heap.size := R2.out.lt
  have R0a := R0.out.alloc (.cells #[.string (Str l)] 9)
  have g0 : (w4.alloc (.cells #[.string (Str l)] 9)).cell? ⟨w.heap.size, 0, none⟩ = some (.int .i64 m) := by rw [R0a.cell]; rfl
  have g1 : (w4.alloc (.cells #[.string (Str l)] 9)).cell? ⟨w.heap.size, 1, none⟩ = some (.slice A n c) := by rw [R0a.cell]; rfl
  have g2 : (w4.alloc (.cells #[.string (Str l)] 9)).cell? ⟨w.heap.size, 2, none⟩ = some (.slice B n2 d) := by rw [R0a.cell]; rfl
  clear R0a f0 f1 f2
  gi_wp2_with fail
  refine ⟨trivial, callsIn_wide.2 ((after_any A n c B n2 d m (Str l) (k : Int) _).mono ?_)⟩
  rintro e w5 ⟨rfl, rfl⟩
  gi_wp2_with fail
  have L0 : Row ((((w4.alloc (.cells #[.string (Str l)] 9)).alloc (.cells #[.int .i64 m, .slice A n c, .slice B n2 d] 24)).alloc (.cells #[.string (Str l)] 9)).alloc (.cells #[.int .i64 (k : Int)] 3)) w4.heap.size 9 [.string (Str l)] := (((Row.new w4 _ _).alloc _).alloc _).alloc _
  have L1 : Row ((((w4.alloc (.cells #[.string (Str l)] 9)).alloc (.cells #[.int .i64 m, .slice A n c, .slice B n2 d] 24)).alloc (.cells #[.string (Str l)] 9)).alloc (.cells #[.int .i64 (k : Int)] 3)) (w4.heap.size + 1) 24 [.int .i64 m, .slice A n c, .slice B n2 d] := by
    have := ((Row.new (w4.alloc (.cells #[.string (Str l)] 9)) 24 [.int .i64 m, .slice A n c, .slice B n2 d]).alloc (.cells #[.string (Str l)] 9)).alloc (.cells #[.int .i64 (k : Int)] 3)
    rwa [World.size_alloc] at this
  have L2 : Row ((((w4.alloc (.cells #[.string (Str l)] 9)).alloc (.cells #[.int .i64 m, .slice A n c, .slice B n2 d] 24)).alloc (.cells #[.string (Str l)] 9)).alloc (.cells #[.int .i64 (k : Int)] 3)) (w4.heap.size + 1 + 1) 9 [.string (Str l)] := by
    have := (Row.new ((w4.alloc (.cells #[.string (Str l)] 9)).alloc (.cells #[.int .i64 m, .slice A n c, .slice B n2 d] 24)) 9 [.string (Str l)]).alloc (.cells #[.int .i64 (k : Int)] 3)
    rwa [World.size_alloc, World.size_alloc] at this
  have L3 : Row ((((w4.alloc (.cells #[.string (Str l)] 9)).alloc (.cells #[.int .i64 m, .slice A n c, .slice B n2 d] 24)).alloc (.cells #[.string (Str l)] 9)).alloc (.cells #[.int .i64 (k : Int)] 3)) (w4.heap.size + 1 + 1 + 1) 3 [.int .i64 (k : Int)] := by
    have := Row.new (((w4.alloc (.cells #[.string (Str l)] 9)).alloc (.cells #[.int .i64 m, .slice A n c, .slice B n2 d] 24)).alloc (.cells #[.string (Str l)] 9)) 3 [.int .i64 (k : Int)]
    rwa [World.size_alloc, World.size_alloc, World.size_alloc] at this
  have hx5 : Ext w4 ((((w4.alloc (.cells #[.string (Str l)] 9)).alloc (.cells #[.int .i64 m, .slice A n c, .slice B n2 d] 24)).alloc (.cells #[.string (Str l)] 9)).alloc (.cells #[.int .i64 (k : Int)] 3)) := ((((Ext.rfl' w4).alloc' _).alloc' _).alloc' _).alloc' _
  obtain ⟨W5, hW5⟩ : ∃ W5, ((((w4.alloc (.cells #[.string (Str l)] 9)).alloc (.cells #[.int .i64 m, .slice A n c, .slice B n2 d] 24)).alloc (.cells #[.string (Str l)] 9)).alloc (.cells #[.int .i64 (k : Int)] 3)) = W5 := ⟨_, rfl⟩
  have hsz5 : W5.heap.size = w4.heap.size + 1 + 1 + 1 + 1 := by rw [← hW5]; simp
  rw [hW5] at L0 L1 L2 L3 hx5
  rw [hW5]
  have HX5 := HX4.out.step hx5
  have R15 := R1.out.ext hx5
  have R25 := R2.out.ext hx5
  have htx : K.txt (K.numL l) = l := (K.txt_numL l hl.out).1
  have hfx : K.fits (K.numL l) := (K.txt_numL l hl.out).2
  obtain ⟨x, hxe⟩ : ∃ x, K.numL l = x := ⟨_, rfl⟩
  rw [hxe] at htx hfx
  clear g0 g1 g2 hW5
  refine wpIn_rangeFunc_ownF (F := Fence.wide) rfl (by omega) (gf := 51) (lb := #[.pointer (some ⟨w4.heap.size + 1 + 1, 0, none⟩), .pointer (some ⟨w4.heap.size + 1 + 1 + 1, 0, none⟩), .pointer (some ⟨w4.heap.size + 1, 0, none⟩)]) rfl trivial (enters_of Tryz.func51 (by kernel_rfl) rfl)
    (after_stops 8 (by omega) (w4.heap.size + 1 + 1) (w4.heap.size + 1 + 1 + 1) (w4.heap.size + 1) k x m us ad A n c B n2 d w W5 HV.out hM hfx HT.out hk HX5 (by rw [L2.cell, htx]; rfl) (by rw [L3.cell]; rfl) L1 L2.lt L3.lt)
    KeptM.t (fun W l o o' h1 h2 h3 h4 => ⟨belowK_b (w := W5) HX5.size W l o o' h1 h2 h3 h4, (grownBy_putObj' W l o').block _ (by have := HX5.size; have := (Array.getElem?_eq_some_iff.1 h2).1; omega) (by intro e; cases e; omega)⟩) (Below.refl _ _) (fun _ => rfl)
    (fun pre W => (∀ t ∈ pre, t.1 ≠ none) ∧ Row W w4.heap.size 9 [.string (Str (K.txt (lastO x (pre.map (·.1)))))] ∧ Row W (w.heap.size + 1) 9 [.string ⟨#[]⟩] ∧ Row W (w.heap.size + 1 + 1) 26 [.int .i64 0] ∧ Ext w W)
    (fun c pre W => c = .ret ∧ (∃ t ∈ pre, t.1 = none) ∧ Row W (w.heap.size + 1) 9 [.string ⟨#[]⟩] ∧ Row W (w.heap.size + 1 + 1) 26 [.int .i64 3] ∧ Ext w W)
    (fun s W W' row hs hg hr => ⟨hs.1, hs.2.1.grown hg hr, hs.2.2.1.grown hg hr, hs.2.2.2.1.grown hg hr, ext_grown hs.2.2.2.2 HX5.size hg hr⟩)
    (fun c s W W' row hs hg hr => ⟨hs.1, hs.2.1, hs.2.2.1.grown hg hr, hs.2.2.2.1.grown hg hr, ext_grown hs.2.2.2.2 HX5.size hg hr⟩)
    ⟨by simp, by rw [show lastO x (List.map (fun (x : Item) => x.1) []) = x from rfl, htx]; exact L0, R15, R25, HX5⟩
    (fun t => { tmps := #[.agg #[.int .i64 m, .slice A n c, .slice B n2 d], .string (Str l), .int .i64 (k : Int), .pointer (some ⟨w.heap.size, 0, none⟩), undef, undef, .pointer (some ⟨w.heap.size + 1, 0, none⟩), .pointer (some ⟨w.heap.size + 1 + 1, 0, none⟩), .int .i64 0, .pointer (some ⟨w4.heap.size, 0, none⟩), .string (strO t.1), .int .i64 (codeO t.1), .agg #[.int .i64 m, .slice A n c, .slice B n2 d], .string (Str l), .int .i64 (k : Int), .int .i64 0, .int .i64 0, .bool false, undef, .string (Str l), .agg #[.int .i64 m, .slice A n c, .slice B n2 d], .string (Str l), .int .i64 (k : Int), .func (.func 51) #[] #[.pointer (some ⟨w4.heap.size + 1 + 1, 0, none⟩), .pointer (some ⟨w4.heap.size + 1 + 1 + 1, 0, none⟩), .pointer (some ⟨w4.heap.size + 1, 0, none⟩)], .string (strO t.1), .int .i64 (codeO t.1), undef, undef, undef, undef, undef], defers := [] }) ?assign ?body ?done ?stop
  case assign =>
    intro l x W K hK
    dsimp only [encI]
    gi_wp2
    exact hK
  case body =>
    rintro lp pre t W ⟨hno, rL, rs, re, hex⟩ _
    have cL : W.cell? ⟨w4.heap.size, 0, none⟩ = some _ := rL.cell 0
    have fL := rL.free 0
    have cs : W.cell? ⟨w.heap.size + 1, 0, none⟩ = some _ := rs.cell 0
    have fs := rs.free 0
    have ce : W.cell? ⟨w.heap.size + 1 + 1, 0, none⟩ = some _ := re.cell 0
    have fe := re.free 0
    have HNO := hid hno
    have RL := hid rL
    have RS := hid rs
    have RE := hid re
    have HEX := hid hex
    have HX5' := HX5.size
    clear hno rL rs re hex
    rcases h : t.1 with _ | y
    · rw [show strO none = ⟨#[]⟩ from rfl, show codeO none = 3 from rfl]
      have HT1 := hid h
      clear h
      gi_wp2
      refine ⟨(KeepsOthers.setCell _ _ _).trans (KeepsOthers.setCell _ _ _), rfl, ⟨t, by simp, HT1.out⟩, ?_, ?_, ?_⟩
      · exact Row.far (RS.out.set 0 _) (by show w.heap.size + 1 ≠ w.heap.size + 1 + 1; omega) _
      · exact (RE.out.far (by show w.heap.size + 1 + 1 ≠ w.heap.size + 1; omega) _).set 0 _
      · exact (HEX.out.set' (by show w.heap.size ≤ w.heap.size + 1; omega) _).set' (by show w.heap.size ≤ w.heap.size + 1 + 1; omega) _
    · rw [show strO (some y) = Str (K.txt y) from rfl, show codeO (some y) = 0 from rfl]
      have HT1 := hid h
      clear h
      gi_wp2
      refine ⟨KeepsOthers.setCell _ _ _, ⟨(Below.refl w.heap.size W).setCell (p := ⟨w4.heap.size, 0, none⟩) (by show w.heap.size ≤ w4.heap.size; omega) _, ?_⟩, ?_, ?_, ?_, ?_, ?_⟩
      · exact Below.heap_setCell W ⟨w4.heap.size, 0, none⟩ _ _ (by show w4.heap.size + 1 ≠ w4.heap.size; omega)
      · intro u hu
        rcases List.mem_append.1 hu with h | h
        · exact HNO.out u h
        · rw [List.mem_singleton.1 h, HT1.out]; simp
      · rw [List.map_append]
        show Row _ _ _ [.string (Str (K.txt (lastO x (List.map (fun (x : Item) => x.1) pre ++ [t.1]))))]
        rw [HT1.out, lastO_snoc]
        exact RL.out.set 0 _
      · exact RS.out.far (by show w.heap.size + 1 ≠ w4.heap.size; omega) _
      · exact RE.out.far (by show w.heap.size + 1 + 1 ≠ w4.heap.size; omega) _
      · exact HEX.out.set' (by show w.heap.size ≤ w4.heap.size; omega) _
  case done =>
    rintro D xs W hD hS ⟨hno, rL, rs, re, hex⟩ hK
    have hno2 : none ∉ seqO m us ad k x := by
      rw [← hS]
      intro h
      obtain ⟨t, ht, e⟩ := List.mem_map.1 h
      exact hno t ht e
    have hrun := (seq_run m us ad k x).1 hno2
    rw [← hS] at hrun
    obtain ⟨z, hz⟩ : ∃ z, lastO x (xs.map (·.1)) = z := ⟨_, rfl⟩
    rw [hz] at hrun rL
    have HRUN := hid hrun
    have cL : W.cell? ⟨w4.heap.size, 0, none⟩ = some (.string (Str (K.txt z))) := rL.cell 0
    have cs : W.cell? ⟨w.heap.size + 1, 0, none⟩ = some (.string ⟨#[]⟩) := rs.cell 0
    have fs := rs.free 0
    have ce : W.cell? ⟨w.heap.size + 1 + 1, 0, none⟩ = some (.int .i64 0) := re.cell 0
    have fe := re.free 0
    have RS := hid rs
    have RE := hid re
    have HEX := hid hex
    have HXS := HX5.size
    clear hno hno2 rL rs re hex hrun hz hS
    gi_wp2
    have hK' := ((KeepsOthers.setCell W ⟨w.heap.size + 1, 0, none⟩ (.string (Str (K.txt z)))).trans (KeepsOthers.setCell _ ⟨w.heap.size + 1 + 1, 0, none⟩ (.int .i64 0))).same D _ hK rfl
    have r1 : Row ((W.setCell ⟨w.heap.size + 1, 0, none⟩ (.string (Str (K.txt z)))).setCell ⟨w.heap.size + 1 + 1, 0, none⟩ (.int .i64 0)) (w.heap.size + 1) 9 [.string (Str (K.txt z))] := Row.far (RS.out.set 0 _) (by show w.heap.size + 1 ≠ w.heap.size + 1 + 1; omega) _
    have r2 : Row ((W.setCell ⟨w.heap.size + 1, 0, none⟩ (.string (Str (K.txt z)))).setCell ⟨w.heap.size + 1 + 1, 0, none⟩ (.int .i64 0)) (w.heap.size + 1 + 1) 26 [.int .i64 0] := (RE.out.far (by show w.heap.size + 1 + 1 ≠ w.heap.size + 1; omega) _).set 0 _
    refine ⟨by simp, .inl ⟨_, _, rfl, run_takeDeferred hK', ?_⟩⟩
    have hc1 := cell_kept (r1.cell 0) (grownBy_putObj' _ D (.deferred none)) (fun r e => by cases e; exact ⟨_, hK', rfl⟩)
    have hc2 := cell_kept (r2.cell 0) (grownBy_putObj' _ D (.deferred none)) (fun r e => by cases e; exact ⟨_, hK', rfl⟩)
    refine ⟨.tuple #[.string (Str (K.txt z)), .int .i64 0], ?_, ?_, ?_⟩
    · simp [results, Tryz.f10, go_sem, hc1, hc2]
    · rw [hxe, HRUN.out]; rfl
    · exact ((HEX.out.set' (by show w.heap.size ≤ w.heap.size + 1; omega) _).set' (by show w.heap.size ≤ w.heap.size + 1 + 1; omega) _).trans (belowK_b (w := W5) HXS _ D _ _ hD hK' rfl rfl)
  case stop =>
    rintro D c pre W hD hS ⟨rfl, ⟨t, htm, hte⟩, rs, re, hex⟩ hK
    have hin : none ∈ seqO m us ad k x := hS.subset (by rw [← hte]; exact List.mem_map_of_mem htm)
    have hrun := (seq_run m us ad k x).2 hin
    have HRUN := hid hrun
    have cs : W.cell? ⟨w.heap.size + 1, 0, none⟩ = some (.string ⟨#[]⟩) := rs.cell 0
    have ce : W.cell? ⟨w.heap.size + 1 + 1, 0, none⟩ = some (.int .i64 3) := re.cell 0
    have HEX := hid hex
    have HXS := HX5.size
    clear hrun hin hte htm hS rs re hex
    gi_wp2
    refine ⟨by simp, .inl ⟨_, _, rfl, run_takeDeferred hK, ?_⟩⟩
    have hc1 := cell_kept cs (grownBy_putObj' _ D (.deferred none)) (fun r e => by cases e; exact ⟨_, hK, rfl⟩)
    have hc2 := cell_kept ce (grownBy_putObj' _ D (.deferred none)) (fun r e => by cases e; exact ⟨_, hK, rfl⟩)
    refine ⟨.tuple #[.string ⟨#[]⟩, .int .i64 3], ?_, ?_, ?_⟩
    · simp [results, Tryz.f10, go_sem, hc1, hc2]
    · rw [hxe, HRUN.out]; rfl
    · exact HEX.out.trans (belowK_b (w := W5) HXS _ D _ _ hD hK rfl rfl)
theorem run_ok (v : Value) (m : Int) (us ad : List Int) (l : List UInt8) (k : Nat) (w : World) (hv : MapV w v m us ad) (hM : Hid (mapP m us ad)) (hl : Hid (K.validL l = true)) (hk : k ≤ 20000) (ht : Tab w) :
    Calls Tryz.prog 10 #[v, .string (Str l), .int .i64 (k : Int)] w (OptPost (runO m us ad k (K.numL l)) w) :=
  callsIn_wide.1 (runIn_ok v m us ad l k w hv hM hl hk ht)
set_option maxRecDepth 100000 in
set_option maxHeartbeats 1600000 in
theorem run_bad (v : Value) (m : Int) (us ad : List Int) (l : List UInt8) (k : Int) (w : World) (hv : MapV w v m us ad) (hlen : l.length ≤ 140737488351232) {b1 b2 : Bool} (hb1 : Hid (mapB m us ad = b1)) (hb2 : Hid (K.validL l = b2))
    {c : Int} (hc : Hid (c = if b1 = true ∧ b2 = true then (if k < 0 ∨ 20000 < k then 2 else 0) else 1)) (hc0 : (c == 0) = false) :
    Calls Tryz.prog 10 #[v, .string (Str l), .int .i64 k] w (fun e w' => e = .returned (.tuple #[.string ⟨#[]⟩, .int .i64 c]) ∧ Ext w w') := by
  have HV := hid hv
  obtain ⟨A, n, c', B, n2, d, rfl, -⟩ := hv
  have hx3 : Ext w (((w.alloc (.cells #[.int .i64 m, .slice A n c', .slice B n2 d] 24)).alloc (.cells #[.string ⟨#[]⟩] 9)).alloc (.cells #[.int .i64 0] 26)) := (((Ext.rfl' w).alloc' _).alloc' _).alloc' _
  have h0 : Row (((w.alloc (.cells #[.int .i64 m, .slice A n c', .slice B n2 d] 24)).alloc (.cells #[.string ⟨#[]⟩] 9)).alloc (.cells #[.int .i64 0] 26)) w.heap.size 24 [.int .i64 m, .slice A n c', .slice B n2 d] := ((Row.new w _ _).alloc _).alloc _
  have h1 : Row (((w.alloc (.cells #[.int .i64 m, .slice A n c', .slice B n2 d] 24)).alloc (.cells #[.string ⟨#[]⟩] 9)).alloc (.cells #[.int .i64 0] 26)) (w.heap.size + 1) 9 [.string ⟨#[]⟩] := by
    have := (Row.new (w.alloc (.cells #[.int .i64 m, .slice A n c', .slice B n2 d] 24)) 9 [.string ⟨#[]⟩]).alloc (.cells #[.int .i64 0] 26)
    rwa [World.size_alloc] at this
  have h2 : Row (((w.alloc (.cells #[.int .i64 m, .slice A n c', .slice B n2 d] 24)).alloc (.cells #[.string ⟨#[]⟩] 9)).alloc (.cells #[.int .i64 0] 26)) (w.heap.size + 1 + 1) 26 [.int .i64 0] := by
    have := Row.new ((w.alloc (.cells #[.int .i64 m, .slice A n c', .slice B n2 d] 24)).alloc (.cells #[.string ⟨#[]⟩] 9)) 26 [.int .i64 0]
    rwa [World.size_alloc, World.size_alloc] at this
  obtain ⟨W3, hW3⟩ : ∃ W3, (((w.alloc (.cells #[.int .i64 m, .slice A n c', .slice B n2 d] 24)).alloc (.cells #[.string ⟨#[]⟩] 9)).alloc (.cells #[.int .i64 0] 26)) = W3 := ⟨_, rfl⟩
  rw [hW3] at hx3 h0 h1 h2
  have HW3 := hid hW3
  have HX3 := hid hx3
  have H1 := hid h1
  have H2 := hid h2
  have f0 : W3.cell? ⟨w.heap.size, 0, none⟩ = some (.int .i64 m) := by rw [h0.cell]; rfl
  have f1 : W3.cell? ⟨w.heap.size, 1, none⟩ = some (.slice A n c') := by rw [h0.cell]; rfl
  have f2 : W3.cell? ⟨w.heap.size, 2, none⟩ = some (.slice B n2 d) := by rw [h0.cell]; rfl
  clear hW3 hx3 h0 h1 h2
  have hcn : (c != 0) = true := by rw [bne_iff_ne]; exact beq_eq_false_iff_ne.1 hc0
  go_enter Tryz.func10, Tryz.ntmps10
  go_upto_region 1 with fail
  rw [HW3.out]
  go_wp2_with fail
  refine (check_any _ m us ad l k 0 20000 W3 (HV.out.ext HX3.out) hlen hb1 hb2 hc).mono ?_
  rintro e w4 ⟨rfl, hx4⟩
  have R1 := hid (H1.out.ext hx4)
  have R2 := hid (H2.out.ext hx4)
  have HX4 := hid (HX3.out.step hx4)
  clear hx4 f0 f1 f2
  have cs : w4.cell? ⟨w.heap.size + 1, 0, none⟩ = some (.string ⟨#[]⟩) := R1.out.cell 0
  have fs := R1.out.free 0
  have ce : w4.cell? ⟨w.heap.size + 1 + 1, 0, none⟩ = some (.int .i64 0) := R2.out.cell 0
  have fe := R2.out.free 0
  have hfin : Hid (Ext w ((w4.setCell ⟨w.heap.size + 1, 0, none⟩ (.string ⟨#[]⟩)).setCell ⟨w.heap.size + 1 + 1, 0, none⟩ (.int .i64 c))) := hid ((HX4.out.set' (by show w.heap.size ≤ w.heap.size + 1; omega) _).set' (by show w.heap.size ≤ w.heap.size + 1 + 1; omega) _)
  go_wp2
  refine bodyPost_ret (v := .tuple #[.string ⟨#[]⟩, .int .i64 c]) (by simp [results, Tryz.results10, go_sem, cs, ce]) rfl ⟨rfl, hfin.out⟩
set_option maxRecDepth 100000 in
set_option maxHeartbeats 800000 in
theorem step_ok (v : Value) (m : Int) (us ad : List Int) (l : List UInt8) (w : World) (hv : MapV w v m us ad) (hM : Hid (mapP m us ad)) (hl : Hid (K.validL l = true)) (ht : Tab w) :
    Calls Tryz.prog 9 #[v, .string (Str l)] w (OptPost (runO m us ad 1 (K.numL l)) w) := by
  have HV := hid hv
  obtain ⟨A, n, cc, B, n2, d, rfl, -⟩ := hv
  have hx : Ext w (w.alloc (.cells #[.int .i64 m, .slice A n cc, .slice B n2 d] 24)) := (Ext.rfl' w).alloc' _
  obtain ⟨f0, f1, f2, -⟩ := three_facts (Ext.rfl' (w.alloc (.cells #[.int .i64 m, .slice A n cc, .slice B n2 d] 24))) rfl
  obtain ⟨W1, hW1⟩ : ∃ W1, w.alloc (.cells #[.int .i64 m, .slice A n cc, .slice B n2 d] 24) = W1 := ⟨_, rfl⟩
  rw [hW1] at hx f0 f1 f2
  have HX := hid hx
  have HW1 := hid hW1
  have hr := run_ok _ m us ad l 1 W1 (HV.out.ext hx) hM hl (by omega) (ht.ext hx)
  obtain ⟨o, ho⟩ : ∃ o, runO m us ad 1 (K.numL l) = o := ⟨_, rfl⟩
  rw [ho] at hr ⊢
  have HR := hid hr
  clear hW1 hx hr ho
  go_enter Tryz.func9, Tryz.ntmps9
  go_upto_region 1 with fail
  rw [HW1.out]
  go_wp2_with fail
  refine HR.out.mono ?_
  rintro e w2 ⟨rfl, hx2⟩
  have HY := hid (HX.out.step hx2)
  clear hx2
  go_wp2
  go_ret2
  exact ⟨rfl, HY.out⟩
end Go.Proofs.YtoilkfohhhidpaaGreatDoor
