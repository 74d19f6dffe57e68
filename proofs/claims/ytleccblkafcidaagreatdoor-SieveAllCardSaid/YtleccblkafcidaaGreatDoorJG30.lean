/- the law SieveAll -/
import Derived.Deep.QuietTactic
import Derived.BigQuiet
import Derived.Test.YtleccblkafcidaaGreatDoorJG29
import Derived.Test.YtleccblkafcidaaGreatDoorJG27
set_option linter.unusedSimpArgs false
set_option linter.unusedVariables false
namespace Go.Proofs.YtleccblkafcidaaGreatDoor
open Go.RowKit
set_option maxRecDepth 100000 in
set_option maxHeartbeats 3200000 in
theorem all_no (v : Value) (m : Int) (us ad : List Int) (l : List UInt8) (k : Int) (w : World) (hv : MapV w v m us ad) (hlen : l.length ≤ 140737488351232) (hk : -9223372036854775808 ≤ k) (hk2 : k ≤ 9223372036854775807) (ht : Tab w) (x1 x2 : Bool) (hb1 : Hid (x1 = true ↔ (mapP m us ad ∧ SuitP m us k))) (hb2 : Hid (K.validL l = x2)) (HN : Hid (¬ (x1 = true ∧ x2 = true))) :
    Calls Tryz.prog 5 #[v, .string (Str l), .int .i64 k] w (TruePost w) := by
  have HV := hid hv
  have HT := hid ht
  obtain ⟨A, n, cc, B, n2, d2, rfl, -⟩ := hv
  have hx : Ext w (w.alloc (.cells #[.int .i64 m, .slice A n cc, .slice B n2 d2] 24)) := (Ext.rfl' w).alloc' _
  have hr1 : Row (w.alloc (.cells #[.int .i64 m, .slice A n cc, .slice B n2 d2] 24)) w.heap.size 24 [.int .i64 m, .slice A n cc, .slice B n2 d2] := Row.new w _ _
  obtain ⟨w1, hw1⟩ : ∃ w1, w.alloc (.cells #[.int .i64 m, .slice A n cc, .slice B n2 d2] 24) = w1 := ⟨_, rfl⟩
  rw [hw1] at hx hr1
  have HW1 := hid hw1
  have EX := hid hx
  have RM := hid hr1
  replace HV := hid (HV.out.ext hx)
  replace HT := hid (HT.out.ext hx)
  clear hw1 hx hr1
  go_enter Tryz.func5, Tryz.ntmps5
  go_upto_region 1 with fail
  rw [HW1.out]
  obtain ⟨f0, f1, f2, -, -, -⟩ := row_facts3 RM.out
  go_wp2_with fail
  refine (may_any _ m us ad k w1 HV.out hk hk2 hb1).mono ?_
  rintro e w2 ⟨rfl, hx⟩
  replace HV := hid (HV.out.ext hx)
  replace RM := hid (RM.out.ext hx)
  replace HT := hid (HT.out.ext hx)
  replace EX := hid (EX.out.step hx)
  clear hx f0 f1 f2
  cases x1 with
  | false =>
    go_wp2_with fail
    refine (awake4_any w2 HT.out).mono ?_
    rintro e wL ⟨rfl, hx⟩
    have EL := hid (EX.out.step hx)
    go_wp2
    go_ret
    exact ⟨rfl, EL.out⟩
  | true =>
    go_wp2_with fail
    refine (rvalid_at l w2 hb2 hlen).mono ?_
    rintro e wz ⟨rfl, rfl⟩
    cases x2 with
    | false =>
      go_wp2_with fail
      refine (awake4_any w2 HT.out).mono ?_
      rintro e wL ⟨rfl, hx⟩
      have EL := hid (EX.out.step hx)
      go_wp2
      go_ret
      exact ⟨rfl, EL.out⟩
    | true => exact (HN.out (by simp)).elim
set_option maxRecDepth 100000 in
set_option maxHeartbeats 25600000 in
theorem all_yes (v : Value) (m : Int) (us ad : List Int) (l : List UInt8) (q : Nat) (w : World) (hv : MapV w v m us ad) (hlen : l.length ≤ 140737488351232) (hqq : (q : Int) ≤ 9223372036854775807) (ht : Tab w) (M : Nat) (hmM : Hid (m = (M : Int))) (hM : Hid (mapP m us ad)) (hS : Hid (SuitP m us (q : Int))) (hb2 : Hid (K.validL l = true)) :
    Calls Tryz.prog 5 #[v, .string (Str l), .int .i64 (q : Int)] w (TruePost w) := by
  obtain ⟨X, hX⟩ : ∃ X, K.numL l = X := ⟨_, rfl⟩
  have HX := hid hX
  have HXB : Hid (X.natAbs ≤ BIG) := hid (by rw [← hX]; exact fits_big (K.txt_numL l hb2.out).2)
  have hm0 : 0 < m := by have := hM.out.1; omega
  have hM2 : mapP (M : Int) us ad := by rw [← hmM.out]; exact hM.out
  have HM2 := hid hM2
  have hkq : m ^ q ≤ 65536 := by have := hS.out.2.2; rwa [Int.toNat_natCast] at this
  obtain ⟨W, hW⟩ : ∃ W, m ^ q = W := ⟨_, rfl⟩
  obtain ⟨R, hR⟩ : ∃ R, X % m ^ q = R := ⟨_, rfl⟩
  have HW : Hid (1 ≤ W ∧ W ≤ 65536) := hid (by have : 0 < m ^ q := Int.pow_pos hm0; omega)
  have HWE := hid hW
  have HRW : Hid (X % W = R) := hid (by rw [← hW]; exact hR)
  have HPW : Hid (∀ i : Nat, i ≤ q → 1 ≤ m ^ i ∧ m ^ i ≤ 65536) := hid (fun i hi => ⟨Int.pow_pos hm0, Int.le_trans (pow_grow hM.out.1 hi) hkq⟩)
  have HQ : Hid (q ≤ 16) := hid (by
    rcases Nat.lt_or_ge 16 q with h | h
    · exfalso
      have h2 : m ^ 17 ≤ m ^ q := pow_grow hM.out.1 h
      have h3 : (2 : Int) ^ 17 ≤ m ^ 17 := two_pow hM.out.1 17
      have h4 : (2 : Int) ^ 17 = 131072 := by decide
      omega
    · exact h)
  have HRE : Hid (X % (M : Int) ^ q = R) := hid (by rw [← hmM.out]; exact hR)
  clear hX hW hR hkq
  have HV := hid hv
  have HT := hid ht
  obtain ⟨A, n, cc, B, n2, d2, rfl, -⟩ := hv
  have hx : Ext w (w.alloc (.cells #[.int .i64 m, .slice A n cc, .slice B n2 d2] 24)) := (Ext.rfl' w).alloc' _
  have hr1 : Row (w.alloc (.cells #[.int .i64 m, .slice A n cc, .slice B n2 d2] 24)) w.heap.size 24 [.int .i64 m, .slice A n cc, .slice B n2 d2] := Row.new w _ _
  obtain ⟨w1, hw1⟩ : ∃ w1, w.alloc (.cells #[.int .i64 m, .slice A n cc, .slice B n2 d2] 24) = w1 := ⟨_, rfl⟩
  rw [hw1] at hx hr1
  have HW1 := hid hw1
  have EX := hid hx
  have RM := hid hr1
  replace HV := hid (HV.out.ext hx)
  replace HT := hid (HT.out.ext hx)
  clear hw1 hx hr1
  go_enter Tryz.func5, Tryz.ntmps5
  go_upto_region 1 with fail
  rw [HW1.out]
  obtain ⟨f0, f1, f2, -, -, -⟩ := row_facts3 RM.out
  go_wp2_with fail
  refine (may_any _ m us ad (q : Int) w1 HV.out (by omega) hqq (b := true) (hid ⟨fun _ => ⟨hM.out, hS.out⟩, fun _ => rfl⟩)).mono ?_
  rintro e w2 ⟨rfl, hx⟩
  replace HV := hid (HV.out.ext hx)
  replace RM := hid (RM.out.ext hx)
  replace HT := hid (HT.out.ext hx)
  replace EX := hid (EX.out.step hx)
  clear hx f0 f1 f2
  go_wp2_with fail
  refine (rvalid_at l w2 hb2 hlen).mono ?_
  rintro e wz ⟨rfl, rfl⟩
  obtain ⟨f0, f1, f2, -, -, -⟩ := row_facts3 RM.out
  go_wp2_with fail
  refine (sieve_ok _ m us ad q M w2 HV.out hM hS hqq hmM HT.out).mono ?_
  rintro e w3 ⟨vF, vL, base, nF, nL, rfl, -, hF, hL, hx⟩
  replace HV := hid (HV.out.ext hx)
  replace RM := hid (RM.out.ext hx)
  replace HT := hid (HT.out.ext hx)
  replace EX := hid (EX.out.step hx)
  clear hx f0 f1 f2
  obtain ⟨F, hFe⟩ : ∃ F, srtF (vis M us ad q q 0 0).1 = F := ⟨_, rfl⟩
  obtain ⟨Ls, hLe⟩ : ∃ Ls, srtI (vis M us ad q q 0 0).2 = Ls := ⟨_, rfl⟩
  rw [hFe] at hF
  rw [hLe] at hL
  have hnF : nF = F.length := by
    have h := hF.1
    rw [show (F.flatMap (encF (fTxt m us ad))).length = F.length * 6 by rw [List.length_flatMap]; simp [encF, List.map_const', List.sum_replicate_nat]] at h
    omega
  have hnL : nL = Ls.length := by have h := hL.1; simp at h; omega
  subst hnF hnL
  obtain ⟨AF, cF, rfl, hrF, hgF⟩ := own_rd hF
  obtain ⟨AL, cL, rfl, hrL, hgL⟩ := own_rd hL
  have RF := hid hrF
  have RL := hid hrL
  have HGF := hid hgF
  have HGL := hid hgL
  have hvl := vis_len (M := M) (by have := hM2.1; omega) us ad q q 0 0
  have hMq : M ^ q ≤ 65536 := by
    have h : ((M ^ q : Nat) : Int) = W := by rw [Int.natCast_pow, ← hmM.out]; exact HWE.out
    have := HW.out
    omega
  have hlF : F.length ≤ 65536 := by rw [← hFe]; unfold srtF; rw [List.length_mergeSort]; exact Nat.le_trans hvl.1 hMq
  have hlL : Ls.length ≤ 65536 := by rw [← hLe]; unfold srtI; rw [List.length_mergeSort]; exact Nat.le_trans hvl.2 hMq
  clear hvl hMq
  have HFE := hid hFe
  have HLE := hid hLe
  clear hF hL hrF hrL hgF hgL hFe hLe
  obtain ⟨f0, f1, f2, -, -, -⟩ := row_facts3 RM.out
  go_wp2_with fail
  refine (find_ok _ m us ad l X q w3 HV.out hM hlen hb2 HX hS hqq HT.out).mono ?_
  rintro e w4 ⟨fv, b, rfl, hfc, hx⟩
  replace HV := hid (HV.out.ext hx)
  replace RM := hid (RM.out.ext hx)
  replace HT := hid (HT.out.ext hx)
  replace RF := hid (RF.out.ext hx)
  replace RL := hid (RL.out.ext hx)
  replace EX := hid (EX.out.step hx)
  clear hx f0 f1 f2
  obtain ⟨fs, fr, su, sa, sd, sb, rfl⟩ := findC_form hfc
  rw [hmM.out] at hfc
  have HFC := hid hfc
  have hcn := all_count hM2 hfc
  rw [HFE.out, HLE.out, HRE.out] at hcn
  have HCN := hid hcn
  have HHIT : Hid (∀ (j : Nat) (p : Int × Int), F[j]? = some p → hitP m X p = true → b = true ∧ p.1 = fs ∧ p.2 = fr ∧ fTxt m us ad p = (su, sa, sd, sb)) := hid (fun j p hj hh => by
    rw [hmM.out] at hh ⊢
    exact all_hit HM2.out HFC.out (by rw [HFE.out]; exact List.mem_of_getElem? hj) hh)
  have HAT : Hid (∀ (j : Nat) (p : Int × Int), F[j]? = some p → (∃ i : Nat, p.1 = (i : Int) ∧ 1 ≤ i ∧ i ≤ q) ∧ ∀ p', j ≠ 0 → F[j - 1]? = some p' → (p'.1 < p.1 ∨ p'.1 = p.1 ∧ p'.2 < p.2)) := hid (fun j p hj => by
    have h := all_at HM2.out (k := q) (j := j) (p := p) (by rw [HFE.out]; exact hj)
    rw [HFE.out] at h
    exact ⟨h.1, h.2.2⟩)
  have HLT : Hid (∀ (j : Nat) (x y : Int), j ≠ 0 → Ls[j]? = some x → Ls[j - 1]? = some y → y < x) := hid (fun j x y h0 hj hj' => by
    have h := (sieve_left HM2.out q).1
    rw [HLE.out] at h
    exact strict_at h (show j - 1 < j by omega) hj' hj)
  clear hfc hcn hM2
  unfold FaV
  have ha := (Ext.rfl' w4).alloc' (.cells #[.int .i64 fs, .int .i64 fr, .string su, .string sa, .string sd, .string sb] 40)
  have hq : Row (w4.alloc (.cells #[.int .i64 fs, .int .i64 fr, .string su, .string sa, .string sd, .string sb] 40)) w4.heap.size 40 [.int .i64 fs, .int .i64 fr, .string su, .string sa, .string sd, .string sb] := Row.new w4 _ _
  obtain ⟨w5, hw5⟩ : ∃ w5, w4.alloc (.cells #[.int .i64 fs, .int .i64 fr, .string su, .string sa, .string sd, .string sb] 40) = w5 := ⟨_, rfl⟩
  rw [hw5] at ha hq
  have Ew5 := hid hw5
  have B10 := hid hq
  replace HV := hid (HV.out.ext ha)
  replace RM := hid (RM.out.ext ha)
  replace HT := hid (HT.out.ext ha)
  replace RF := hid (RF.out.ext ha)
  replace RL := hid (RL.out.ext ha)
  replace EX := hid (EX.out.step ha)
  have ha10 := ha
  clear ha hq hw5
  go_upto_region 5 with fail
  rw [Ew5.out]
  clear Ew5
  obtain ⟨H10, hH10⟩ : ∃ H10, w4.heap.size = H10 := ⟨_, rfl⟩
  rw [hH10] at B10
  rw [hH10]
  have HH10 := hid hH10
  have HA10 := hid ha10
  clear hH10 ha10
  go_wp2_with fail
  refine (parse_any l w5 hb2.out).mono ?_
  rintro e w6 ⟨v13, rfl, hv13, hx⟩
  replace HV := hid (HV.out.ext hx)
  replace RM := hid (RM.out.ext hx)
  replace HT := hid (HT.out.ext hx)
  replace RF := hid (RF.out.ext hx)
  replace RL := hid (RL.out.ext hx)
  replace B10 := hid (B10.out.ext hx)
  replace EX := hid (EX.out.step hx)
  rw [HX.out] at hv13
  clear hx
  have HV13 := hid hv13
  obtain ⟨A13, k13, c13, xs13, b13, rfl, -⟩ := hv13
  have ha := (Ext.rfl' w6).alloc' (.cells #[.bool b13, .slice A13 k13 c13] 47)
  have hq : Row (w6.alloc (.cells #[.bool b13, .slice A13 k13 c13] 47)) w6.heap.size 47 [.bool b13, .slice A13 k13 c13] := Row.new w6 _ _
  obtain ⟨w7, hw7⟩ : ∃ w7, w6.alloc (.cells #[.bool b13, .slice A13 k13 c13] 47) = w7 := ⟨_, rfl⟩
  rw [hw7] at ha hq
  have Ew7 := hid hw7
  have B13 := hid hq
  replace HV := hid (HV.out.ext ha)
  replace RM := hid (RM.out.ext ha)
  replace HT := hid (HT.out.ext ha)
  replace RF := hid (RF.out.ext ha)
  replace RL := hid (RL.out.ext ha)
  replace B10 := hid (B10.out.ext ha)
  replace HV13 := hid (HV13.out.ext ha)
  replace EX := hid (EX.out.step ha)
  have ha13 := ha
  clear ha hq hw7
  go_upto_region 8 with fail
  rw [Ew7.out]
  clear Ew7
  obtain ⟨H13, hH13⟩ : ∃ H13, w6.heap.size = H13 := ⟨_, rfl⟩
  rw [hH13] at B13
  rw [hH13]
  have HH13 := hid hH13
  have HA13 := hid ha13
  clear hH13 ha13
  have E7 : Hid (Ext w7 w7) := hid (Ext.rfl' _)
  have HV7 := HV
  have HT7 := HT
  have RM7 := RM
  have RF7 := RF
  have RL7 := RL
  have B107 := B10
  have HV137 := HV13
  have B137 := B13
  have EX7 := EX
  go_wp2_with fail
  go_loopw [14, 15, 16, 17] (fun mn md sp iz wr => ∃ (j st : Nat), j ≤ F.length ∧ iz = .int .i64 (j : Int) ∧ mn = .int .i64 (((F.take j).countP (hitP m X) : Nat) : Int) ∧ sp = .int .i64 (st : Int) ∧ md = .int .i64 (m ^ st) ∧ st ≤ q ∧ (∀ p, F[j]? = some p → (st : Int) ≤ p.1) ∧ Ext w7 wr) (fun _ _ _ iz _ => F.length - (intOf iz).toNat)
  case atStart => exact ⟨0, 0, by omega, rfl, by simp, rfl, by rw [Int.pow_zero], by omega, fun p hp => by obtain ⟨⟨i, e, _⟩, _⟩ := HAT.out 0 p hp; omega, E7.out⟩
  case round =>
    clear HV HT RM RF RL B10 HV13 B13 EX E7
    obtain ⟨j, st, hj, rfl, rfl, rfl, rfl, hst, hsp, hex⟩ := hrel
    have E7 := hid hex
    have HV := hid (HV7.out.ext hex)
    have HT := hid (HT7.out.ext hex)
    have RM := hid (RM7.out.ext hex)
    have RF := hid (RF7.out.ext hex)
    have RL := hid (RL7.out.ext hex)
    have B10 := hid (B107.out.ext hex)
    have HV13 := hid (HV137.out.ext hex)
    have B13 := hid (B137.out.ext hex)
    have EX := hid (EX7.out.step hex)
    clear hex
    have HST := hid hst
    have HSP := hid hsp
    clear hst hsp
    by_cases hlt : j < F.length
    ·
      obtain ⟨gF, hgF⟩ := HGF.out (by omega)
      subst hgF
      obtain ⟨⟨s, r⟩, hp⟩ : ∃ p, F[j]? = some p := ⟨_, List.getElem?_eq_getElem hlt⟩
      have HP := hid hp
      have hlt2 : (j : Int) < (F.length : Int) := by omega
      obtain ⟨⟨i, hsi, hi1, hi2⟩, hprev⟩ := HAT.out j _ hp
      obtain rfl : s = (i : Int) := hsi
      have hsp := HSP.out _ hp
      have hcnt := take_count (p := hitP m X) hp
      have hcle := take_le (hitP m X) F j
      have hcle2 := take_le (hitP m X) F (j + 1)
      have hcb : F.countP (hitP m X) ≤ 1 := by rw [hmM.out, HCN.out.1]; split <;> omega
      obtain ⟨cn, hcn⟩ : ∃ c, (F.take j).countP (hitP m X) = c := ⟨_, rfl⟩
      have hcn1 : cn ≤ 1 := by omega
      rw [hcn]
      rw [hcn] at hcnt
      have HCT := hid hcnt
      obtain ⟨tu, ta, td, tb, htx⟩ : ∃ tu ta td tb, fTxt m us ad ((i : Int), r) = (tu, ta, td, tb) := ⟨_, _, _, _, rfl⟩
      have HTX := hid htx
      have HCELL : Hid (∀ W', Ext w7 W' → W'.cell? ⟨gF, j * 6, none⟩ = some (.int .i64 (i : Int)) ∧ W'.cell? ⟨gF, j * 6 + 1, none⟩ = some (.int .i64 r) ∧ W'.cell? ⟨gF, j * 6 + 2, none⟩ = some (.string tu) ∧ W'.cell? ⟨gF, j * 6 + 3, none⟩ = some (.string ta) ∧ W'.cell? ⟨gF, j * 6 + 4, none⟩ = some (.string td) ∧ W'.cell? ⟨gF, j * 6 + 5, none⟩ = some (.string tb)) := hid (fun W' e => by
        have h := (RF7.out.ext e).fall HP.out
        rw [HTX.out] at h
        exact h)
      have HPREV := hid hprev
      have n1 : ¬ (i : Int) < 1 := by omega
      have n2 : ¬ (q : Int) < (i : Int) := by omega
      have HCN1 := hid hcn1
      have HI := hid (show 1 ≤ i ∧ i ≤ q ∧ (st : Int) ≤ (i : Int) from ⟨hi1, hi2, hsp⟩)
      clear hp hprev hcnt hcn hcle hcle2 hcb htx hi1 hi2 hsp hcn1
      obtain ⟨c0, c1, c2, c3, c4, c5⟩ := HCELL.out _ E7.out
      have i0 : (0 : Int) ≤ (j : Int) := by omega
      go_upto_region 12 with fail
      go_cut [123] (fun sx wx => sx = .bool false ∧ Ext wr wx)
      case first => as_aux_lemma =>
        clear HV HT RM RF RL B10 HV13 B13 EX HV7 HT7 RM7 RL7 B107 HV137 B137 EX7 HCT HFC HCN HHIT HLT HRE HRW HPW HWE HW HST
        by_cases h0 : j = 0
        · subst h0
          have hz : ¬ (((0 : Nat) : Int) > 0) := by omega
          simp only [Nat.zero_mul, Nat.zero_add] at c0 c1 c2 c3 c4 c5
          go_quiet (fail)
          go_wp2_with fail
          go_meet
          exact ⟨rfl, Ext.of_drewN _ _⟩
        · obtain ⟨⟨s', r'⟩, hp'⟩ : ∃ p, F[j - 1]? = some p := ⟨_, List.getElem?_eq_getElem (by omega)⟩
          have hord := HPREV.out _ h0 hp'
          have hcell' := (RF7.out.ext E7.out).fall hp'
          obtain ⟨d0, d1, -, -, -, -⟩ := hcell'
          have hz : (0 : Int) < ((j : Nat) : Int) := by omega
          have hz0 : 0 < j := by omega
          have hm1 : IntKind.i64.wrap ((j : Int) - 1) = ((j - 1 : Nat) : Int) := by rw [IntWalk.i64_in _ (by omega)]; omega
          have i3 : (0 : Int) ≤ ((j - 1 : Nat) : Int) := by omega
          have i4 : ((j - 1 : Nat) : Int) < (F.length : Int) := by omega
          simp only at hord d0 d1
          rcases hord with ho | ⟨rfl, ho⟩
          · have q1 : ¬ ((i : Int) < s') := by omega
            have q2 : ((i : Int) == s') = false := beq_eq_false_iff_ne.2 (by omega)
            go_quiet (fail)
            go_wp2_with fail
            go_meet
            exact ⟨rfl, Ext.of_drewN _ _⟩
          · have q1 : ¬ ((i : Int) < (i : Int)) := by omega
            have q3 : ¬ (r ≤ r') := by omega
            go_quiet (fail)
            go_wp2_with fail
            go_meet
            exact ⟨rfl, Ext.of_drewN _ _⟩
      case rest => as_aux_lemma =>
        obtain ⟨rfl, hx⟩ := hcut
        replace HV := hid (HV.out.ext hx)
        replace RM := hid (RM.out.ext hx)
        replace HT := hid (HT.out.ext hx)
        replace RF := hid (RF.out.ext hx)
        replace RL := hid (RL.out.ext hx)
        replace B10 := hid (B10.out.ext hx)
        replace HV13 := hid (HV13.out.ext hx)
        replace B13 := hid (B13.out.ext hx)
        replace EX := hid (EX.out.step hx)
        replace E7 := hid (E7.out.step hx)
        clear hx c0 c1 c2 c3 c4 c5
        have HMP : Hid (∀ t : Nat, t < i → IntKind.i64.wrap (m ^ t * m) = m ^ (t + 1)) := hid (fun t ht => by
          have e : m ^ t * m = m ^ (t + 1) := (Int.pow_succ m t).symm
          have h5 := HPW.out (t + 1) (by have := HI.out; omega)
          rw [e]
          exact IntWalk.i64_in _ (by omega))
        obtain ⟨f0, f1, f2, -, -, -⟩ := row_facts3 RM.out
        obtain ⟨c0, c1, c2, c3, c4, c5⟩ := HCELL.out _ E7.out
        go_wp2_with fail
        go_loop [15, 16] (fun md sp => ∃ t : Nat, t ≤ i ∧ md = .int .i64 (m ^ t) ∧ sp = .int .i64 (t : Int)) (fun _ sp => i - (intOf sp).toNat)
        case atStart => exact ⟨st, by have := HI.out; omega, rfl, rfl⟩
        case round =>
          obtain ⟨t, ht, rfl, rfl⟩ := hrel
          by_cases hti : t < i
          · have hti2 : (t : Int) < (i : Int) := by omega
            have hwk := HMP.out t hti
            have hwi : IntKind.i64.wrap ((t : Int) + 1) = (t : Int) + 1 := IntWalk.i64_in _ (by have := HQ.out; have := HI.out; omega)
            go_wp2
            go_round
            case rel => exact ⟨t + 1, by omega, by first | rfl | rw [hwk] | simp [hwk], by simp⟩
            case measure => first | (simp [intOf]; done) | (simp [intOf]; omega)
          · obtain rfl : t = i := by omega
            have hti2 : ¬ (t : Int) < (t : Int) := by omega
            clear HMP
            obtain ⟨D, hD⟩ : ∃ D, m ^ t = D := ⟨_, rfl⟩
            obtain ⟨rr, hrr⟩ : ∃ rr, X % m ^ t = rr := ⟨_, rfl⟩
            have HD : Hid (1 ≤ D ∧ D ≤ 65536) := hid (by rw [← hD]; exact HPW.out t HI.out.2.1)
            have HRR : Hid (X % D = rr) := hid (by rw [← hD]; exact hrr)
            have HRT : Hid (X % m ^ t = rr) := hid hrr
            have HDE := hid hD
            rw [hD]
            clear hD hrr
            obtain ⟨p0, p1, -, -⟩ := row_facts B13.out
            go_wp2_with fail
            refine (rpart_w _ X D rr _ HV13.out HXB.out HD HRR).mono ?_
            rintro e w9 ⟨v18, rfl, hv18, hx⟩
            replace HV := hid (HV.out.ext hx)
            replace RM := hid (RM.out.ext hx)
            replace HT := hid (HT.out.ext hx)
            replace RF := hid (RF.out.ext hx)
            replace RL := hid (RL.out.ext hx)
            replace B10 := hid (B10.out.ext hx)
            replace HV13 := hid (HV13.out.ext hx)
            replace B13 := hid (B13.out.ext hx)
            replace EX := hid (EX.out.step hx)
            replace E7 := hid (E7.out.step hx)
            have HV18 := hid hv18
            obtain ⟨A18, k18, c18, xs18, b18, rfl, -⟩ := hv18
            clear hx p0 p1 c0 c1 c2 c3 c4 c5 f0 f1 f2
            have ha := (Ext.rfl' w9).alloc' (.cells #[.bool b18, .slice A18 k18 c18] 47)
            have hq : Row (w9.alloc (.cells #[.bool b18, .slice A18 k18 c18] 47)) w9.heap.size 47 [.bool b18, .slice A18 k18 c18] := Row.new w9 _ _
            obtain ⟨w10, hw10⟩ : ∃ w10, w9.alloc (.cells #[.bool b18, .slice A18 k18 c18] 47) = w10 := ⟨_, rfl⟩
            rw [hw10] at ha hq
            have Ew10 := hid hw10
            have B18 := hid hq
            replace HV := hid (HV.out.ext ha)
            replace RM := hid (RM.out.ext ha)
            replace HT := hid (HT.out.ext ha)
            replace RF := hid (RF.out.ext ha)
            replace RL := hid (RL.out.ext ha)
            replace B10 := hid (B10.out.ext ha)
            replace HV13 := hid (HV13.out.ext ha)
            replace B13 := hid (B13.out.ext ha)
            replace EX := hid (EX.out.step ha)
            replace E7 := hid (E7.out.step ha)
            have ha18 := ha
            clear ha hq hw10
            go_upto_region 18 with fail
            rw [Ew10.out]
            clear Ew10
            obtain ⟨H18, hH18⟩ : ∃ H18, w9.heap.size = H18 := ⟨_, rfl⟩
            rw [hH18] at B18
            rw [hH18]
            have HH18 := hid hH18
            have HA18 := hid ha18
            clear hH18 ha18
            obtain ⟨c0, c1, c2, c3, c4, c5⟩ := HCELL.out _ E7.out
            by_cases hhit : rr = r
            ·
              subst hhit
              have hh : hitP m X ((t : Int), rr) = true := by
                unfold hitP
                rw [decide_eq_true_iff, Int.toNat_natCast]
                exact HRT.out
              have HH := hid hh
              obtain ⟨hb, h1, h2, h3⟩ := HHIT.out j _ HP.out hh
              rw [HTX.out] at h3
              simp only at h1 h2
              injection h3 with e1 h3
              injection h3 with e2 h3
              injection h3 with e3 e4
              subst e1 e2 e3 e4 h1 h2 hb
              clear hh
              have HFIN : Hid (∃ (j' st' : Nat), j' ≤ F.length ∧ Value.int .i64 ((j : Int) + 1) = .int .i64 (j' : Int) ∧ Value.int .i64 ((cn : Int) + 1) = .int .i64 (((F.take j').countP (hitP m X) : Nat) : Int) ∧ Value.int .i64 (t : Int) = .int .i64 (st' : Int) ∧ Value.int .i64 D = .int .i64 (m ^ st') ∧ st' ≤ q ∧ (∀ p, F[j']? = some p → (st' : Int) ≤ p.1)) := hid ⟨j + 1, t, by omega, by simp, by rw [HCT.out, if_pos HH.out]; simp, rfl, by rw [HDE.out], HI.out.2.1, fun p hp => by
                have h := (HAT.out (j + 1) p hp).2 _ (by omega) (by simpa using HP.out)
                simp only at h
                omega⟩
              have hwc : IntKind.i64.wrap ((cn : Int) + 1) = (cn : Int) + 1 := IntWalk.i64_in _ (by have := HCN1.out; omega)
              obtain ⟨⟨y0, y1, y2, y3, y4, y5⟩, -⟩ := row_facts6 B10.out
              go_wp2_with fail
              go_quiet (fail)
              go_wp2_with fail
              go_roundw
              case rel =>
                obtain ⟨j', st', h1, h2, h3, h4, h5, h6, h7⟩ := HFIN.out
                exact ⟨j', st', h1, h2, h3, h4, h5, h6, h7, E7.out.step (Ext.of_drewN _ _)⟩
              case measure => first | (simp [intOf]; done) | (simp [intOf]; omega)
            ·
              have hh : ¬ hitP m X ((t : Int), r) = true := by
                unfold hitP
                rw [decide_eq_true_iff, Int.toNat_natCast]
                exact fun h => hhit (by rw [← HRT.out]; exact h)
              have HH := hid hh
              have hr2 : (rr == r) = false := beq_eq_false_iff_ne.2 hhit
              clear hh
              have HFIN : Hid (∃ (j' st' : Nat), j' ≤ F.length ∧ Value.int .i64 ((j : Int) + 1) = .int .i64 (j' : Int) ∧ Value.int .i64 (cn : Int) = .int .i64 (((F.take j').countP (hitP m X) : Nat) : Int) ∧ Value.int .i64 (t : Int) = .int .i64 (st' : Int) ∧ Value.int .i64 D = .int .i64 (m ^ st') ∧ st' ≤ q ∧ (∀ p, F[j']? = some p → (st' : Int) ≤ p.1)) := hid ⟨j + 1, t, by omega, by simp, by rw [HCT.out, if_neg HH.out]; simp, rfl, by rw [HDE.out], HI.out.2.1, fun p hp => by
                have h := (HAT.out (j + 1) p hp).2 _ (by omega) (by simpa using HP.out)
                simp only at h
                omega⟩
              go_wp2_with fail
              go_roundw
              case rel =>
                obtain ⟨j', st', h1, h2, h3, h4, h5, h6, h7⟩ := HFIN.out
                exact ⟨j', st', h1, h2, h3, h4, h5, h6, h7, E7.out⟩
              case measure => first | (simp [intOf]; done) | (simp [intOf]; omega)
    ·
      obtain rfl : j = F.length := by omega
      have hcn := HCN.out
      rw [← hmM.out] at hcn
      rw [List.take_length]
      obtain ⟨cn, hcn1⟩ : ∃ c, F.countP (hitP m X) = c := ⟨_, rfl⟩
      rw [hcn1] at hcn
      rw [hcn1]
      have hsl : (fun x => decide (x = X % m ^ q)) = (fun x => decide (x = R)) := by rw [hmM.out, HRE.out]
      have HCN2 : Hid (cn = (if b = true then 1 else 0) ∧ Ls.countP (fun x => decide (x = R)) = (if b = true then 0 else 1)) := hid ⟨hcn.1, by have h := HCN.out.2; exact h⟩
      clear hcn hcn1 hsl RF B10 E7 HSP HST HAT HHIT
      have HS : Hid (∀ W', Ext wr W' → W'.cell? ⟨w.heap.size, 0, none⟩ = some (.int .i64 m) ∧ W'.cell? ⟨w.heap.size, 1, none⟩ = some (.slice A n cc) ∧ W'.cell? ⟨w.heap.size, 2, none⟩ = some (.slice B n2 d2) ∧ W'.cell? ⟨H13, 0, none⟩ = some (.bool b13) ∧ W'.cell? ⟨H13, 1, none⟩ = some (.slice A13 k13 c13)) := hid (by
        intro W' e
        obtain ⟨x0, y0, z0, -, -, -⟩ := row_facts3 (RM.out.ext e)
        obtain ⟨x1, y1, -, -⟩ := row_facts (B13.out.ext e)
        exact ⟨x0, y0, z0, x1, y1⟩)
      have hcur : Ext wr wr := Ext.rfl' _
      have hjl : ¬ (F.length : Int) < (F.length : Int) := by omega
      go_upto_region 22 with fail
      go_cut [21] (fun sx wx => sx = .int .i64 R ∧ Ext wr wx)
      case first => as_aux_lemma =>
        clear HV7 HT7 RM7 RF7 RL7 B107 HV137 B137 EX7 RL EX HT HFC HCN HCN2 HLT
        go_region_held3 (fun W' => W'.cell? ⟨w.heap.size, 0, none⟩ = some (.int .i64 m) ∧ W'.cell? ⟨w.heap.size, 1, none⟩ = some (.slice A n cc) ∧ W'.cell? ⟨w.heap.size, 2, none⟩ = some (.slice B n2 d2) ∧ W'.cell? ⟨H13, 0, none⟩ = some (.bool b13) ∧ W'.cell? ⟨H13, 1, none⟩ = some (.slice A13 k13 c13))
          (first | (with_reducible exact HS.out _ hcur) | (with_reducible exact HS.out _ hcur.drew') | (with_reducible exact HS.out _ (hcur.alloc' _)) | (with_reducible exact HS.out _ (hcur.drew'.alloc' _)) | (with_reducible exact HS.out _ (hcur.alloc' _).drew') | exact HS.out _ ((hcur.set' HB2.out.1 _).set' HB2.out.1 _) | go_keep)
          (first
            | (go_at_call 27; refine (rrests_w _ m us ad q W _ (HV.out.ext ?_) hM hS hqq HWE).mono ?_; (first | exact hcur | exact hcur.drew' | exact hcur.alloc' _ | exact hcur.drew'.alloc' _ | exact (hcur.alloc' _).drew'); rintro e w20 ⟨rfl, hx⟩; (first | have HB2 := hid (HB2.out.ext hx) | have HB2 := hid ((NB.new hcur.size).ext hx) | have HB2 := hid ((NB.newD hcur.size).ext hx) | skip); have hcur := Ext.step hcur (by first | exact hx | exact Ext.undrew hx | exact Ext.step ((Ext.rfl' _).alloc' _) hx | exact Ext.step ((Ext.rfl' _).drew'.alloc' _) hx))
            | (go_at_call 26; refine (rpart_w _ X W R _ (HV13.out.ext ?_) HXB.out HW HRW).mono ?_; (first | exact hcur | exact hcur.drew' | exact hcur.alloc' _ | exact hcur.drew'.alloc' _ | exact (hcur.alloc' _).drew'); rintro e w21 ⟨v21, rfl, hv21, hx⟩; (first | have HB2 := hid (HB2.out.ext hx) | have HB2 := hid ((NB.new hcur.size).ext hx) | have HB2 := hid ((NB.newD hcur.size).ext hx) | skip); have hcur := Ext.step hcur (by first | exact hx | exact Ext.undrew hx | exact Ext.step ((Ext.rfl' _).alloc' _) hx | exact Ext.step ((Ext.rfl' _).drew'.alloc' _) hx); have HV21 := hid hv21; obtain ⟨A21, k21, c21, xs21, b21, rfl, -⟩ := hv21; (first | (have hyy := row_facts HB2.out.2; obtain ⟨y0, y1, y2, y3⟩ := hyy) | skip)))
        all_goals
          go_wp2_with fail
          go_meet
          first
            | (with_reducible exact ⟨rfl, hcur.alloc' _⟩)
            | (with_reducible exact ⟨rfl, (hcur.set' HB2.out.1 _).set' HB2.out.1 _⟩)
            | exact ⟨rfl, (hcur.set' HB2.out.1 _).set' HB2.out.1 _⟩
      case rest => as_aux_lemma =>
        obtain ⟨rfl, hx⟩ := hcut
        replace HV := hid (HV.out.ext hx)
        replace HT := hid (HT.out.ext hx)
        replace RM := hid (RM.out.ext hx)
        replace RL := hid (RL.out.ext hx)
        replace B13 := hid (B13.out.ext hx)
        replace HV13 := hid (HV13.out.ext hx)
        replace EX := hid (EX.out.step hx)
        clear hx hcur HS HV7 HT7 RM7 RF7 RL7 B107 HV137 B137 EX7 HV RM B13 HV13
        have HT8 := HT
        have RL8 := RL
        have EX8 := EX
        have E8 : Hid (Ext wc wc) := hid (Ext.rfl' _)
        obtain ⟨wo, rfl⟩ : ∃ wo : World, wo = wc := ⟨_, rfl⟩
        go_wp2_with fail
        go_loopw [22, 23] (fun sy iz wr => ∃ j : Nat, j ≤ Ls.length ∧ iz = .int .i64 (j : Int) ∧ sy = .int .i64 (((Ls.take j).countP (fun x => decide (x = R)) : Nat) : Int) ∧ Ext wo wr) (fun _ iz _ => Ls.length - (intOf iz).toNat)
        case atStart => exact ⟨0, by omega, rfl, by simp, E8.out⟩
        case round =>
          clear HT RL EX E8
          obtain ⟨j, hj, rfl, rfl, hex⟩ := hrel
          have E8 := hid hex
          have HT := hid (HT8.out.ext hex)
          have EX := hid (EX8.out.step hex)
          clear hex
          by_cases hlt : j < Ls.length
          ·
            obtain ⟨gL, hgL⟩ := HGL.out (by omega)
            subst hgL
            obtain ⟨x, hp⟩ : ∃ x, Ls[j]? = some x := ⟨_, List.getElem?_eq_getElem hlt⟩
            have HP := hid hp
            have hlt2 : (j : Int) < (Ls.length : Int) := by omega
            have hcnt := take_count (p := fun x => decide (x = R)) hp
            have hcle := take_le (fun x => decide (x = R)) Ls j
            have hcb : Ls.countP (fun x => decide (x = R)) ≤ 1 := by rw [HCN2.out.2]; split <;> omega
            obtain ⟨sn, hsn⟩ : ∃ c, (Ls.take j).countP (fun x => decide (x = R)) = c := ⟨_, rfl⟩
            have hsn1 : sn ≤ 1 := by omega
            rw [hsn]
            rw [hsn] at hcnt
            have HCT := hid hcnt
            have HCELL : Hid (∀ W', Ext wo W' → W'.cell? ⟨gL, j, none⟩ = some (.int .i64 x)) := hid (fun W' e => (RL8.out.ext e).at0 j (by rw [List.getElem?_map, HP.out]; rfl))
            have HSN1 := hid hsn1
            clear hcnt hcle hcb hsn hsn1
            have c0 := HCELL.out _ E8.out
            have i0 : (0 : Int) ≤ (j : Int) := by omega
            go_upto_region 27 with fail
            go_cut [189] (fun sx wx => sx = .bool false ∧ Ext wr wx)
            case first => as_aux_lemma =>
              clear HT EX HT8 EX8 HCT HFC HCN HCN2 HRE HRW HPW HWE HW HCELL
              by_cases h0 : j = 0
              · subst h0
                have hz : ¬ (((0 : Nat) : Int) > 0) := by omega
                go_quiet (fail)
                go_wp2_with fail
                go_meet
                exact ⟨rfl, Ext.of_drewN _ _⟩
              · obtain ⟨y, hp'⟩ : ∃ y, Ls[j - 1]? = some y := ⟨_, List.getElem?_eq_getElem (by omega)⟩
                have hord := HLT.out j x y h0 hp hp'
                have d0 : wr.cell? ⟨gL, j - 1, none⟩ = some (.int .i64 y) := (RL8.out.ext E8.out).at0 (j - 1) (by rw [List.getElem?_map, hp']; rfl)
                have hz : (0 : Int) < ((j : Nat) : Int) := by omega
                have hz0 : 0 < j := by omega
                have hm1 : IntKind.i64.wrap ((j : Int) - 1) = ((j - 1 : Nat) : Int) := by rw [IntWalk.i64_in _ (by omega)]; omega
                have i3 : (0 : Int) ≤ ((j - 1 : Nat) : Int) := by omega
                have i4 : ((j - 1 : Nat) : Int) < (Ls.length : Int) := by omega
                have q3 : ¬ (x ≤ y) := by omega
                go_quiet (fail)
                go_wp2_with fail
                go_meet
                exact ⟨rfl, Ext.of_drewN _ _⟩
            case rest => as_aux_lemma =>
              obtain ⟨rfl, hx⟩ := hcut
              replace HT := hid (HT.out.ext hx)
              replace EX := hid (EX.out.step hx)
              replace E8 := hid (E8.out.step hx)
              clear hx c0 hp
              have c0 := HCELL.out _ E8.out
              have hwc : IntKind.i64.wrap ((sn : Int) + 1) = (sn : Int) + 1 := IntWalk.i64_in _ (by have := HSN1.out; omega)
              by_cases hxr : x = R
              · subst hxr
                have HFIN : Hid (∃ j' : Nat, j' ≤ Ls.length ∧ Value.int .i64 ((j : Int) + 1) = .int .i64 (j' : Int) ∧ Value.int .i64 ((sn : Int) + 1) = .int .i64 (((Ls.take j').countP (fun y => decide (y = x)) : Nat) : Int)) := hid ⟨j + 1, by omega, by simp, by rw [HCT.out]; simp⟩
                go_wp2_with fail
                go_roundw
                case rel =>
                  obtain ⟨j', h1, h2, h3⟩ := HFIN.out
                  exact ⟨j', h1, h2, h3, E8.out⟩
                case measure => first | (simp [intOf]; done) | (simp [intOf]; omega)
              · have q2 : (x == R) = false := beq_eq_false_iff_ne.2 hxr
                have HFIN : Hid (∃ j' : Nat, j' ≤ Ls.length ∧ Value.int .i64 ((j : Int) + 1) = .int .i64 (j' : Int) ∧ Value.int .i64 (sn : Int) = .int .i64 (((Ls.take j').countP (fun y => decide (y = R)) : Nat) : Int)) := hid ⟨j + 1, by omega, by simp, by rw [HCT.out]; simp [hxr]⟩
                go_wp2_with fail
                go_roundw
                case rel =>
                  obtain ⟨j', h1, h2, h3⟩ := HFIN.out
                  exact ⟨j', h1, h2, h3, E8.out⟩
                case measure => first | (simp [intOf]; done) | (simp [intOf]; omega)
          ·
            obtain rfl : j = Ls.length := by omega
            rw [List.take_length]
            have hcn := HCN2.out
            obtain ⟨sn, hsn⟩ : ∃ c, Ls.countP (fun x => decide (x = R)) = c := ⟨_, rfl⟩
            rw [hsn] at hcn
            rw [hsn]
            obtain ⟨h1, h2⟩ := hcn
            have hjl2 : ¬ (Ls.length : Int) < (Ls.length : Int) := by omega
            clear hsn HCN2
            cases b with
            | true =>
              simp only [if_true] at h1 h2
              subst h1 h2
              go_wp2_with fail
              refine (awake4_any wr HT.out).mono ?_
              rintro e wL ⟨rfl, hx⟩
              have EL := hid (EX.out.step hx)
              go_wp2
              go_ret
              exact ⟨rfl, EL.out⟩
            | false =>
              simp only [Bool.false_eq_true, if_false] at h1 h2
              subst h1 h2
              go_wp2_with fail
              refine (awake4_any wr HT.out).mono ?_
              rintro e wL ⟨rfl, hx⟩
              have EL := hid (EX.out.step hx)
              go_wp2
              go_ret
              exact ⟨rfl, EL.out⟩
theorem law_SieveAll (v : Value) (m : Int) (us ad : List Int) (l : List UInt8) (k : Int) (w : World) (hv : MapV w v m us ad) (hlen : l.length ≤ 140737488351232) (hk : -9223372036854775808 ≤ k) (hk2 : k ≤ 9223372036854775807) (ht : Tab w) : Calls Tryz.prog 5 #[v, .string (Str l), .int .i64 k] w (TruePost w) := by
  by_cases h : (mapP m us ad ∧ SuitP m us k) ∧ K.validL l = true
  · obtain ⟨q, rfl⟩ := Int.eq_ofNat_of_zero_le (show 0 ≤ k by have := h.1.2.2.1; omega)
    exact all_yes v m us ad l q w hv hlen hk2 ht m.toNat (hid (by have := h.1.1.1; omega)) (hid h.1.1) (hid h.1.2) (hid h.2)
  · by_cases h1 : mapP m us ad ∧ SuitP m us k
    · exact all_no v m us ad l k w hv hlen hk hk2 ht true _ (hid ⟨fun _ => h1, fun _ => rfl⟩) (hid rfl) (hid (fun h2 => h ⟨h1, h2.2⟩))
    · exact all_no v m us ad l k w hv hlen hk hk2 ht false _ (hid ⟨fun h2 => Bool.noConfusion h2, fun h2 => absurd h2 h1⟩) (hid rfl) (hid (fun h2 => Bool.noConfusion h2.1))
end Go.Proofs.YtleccblkafcidaaGreatDoor
