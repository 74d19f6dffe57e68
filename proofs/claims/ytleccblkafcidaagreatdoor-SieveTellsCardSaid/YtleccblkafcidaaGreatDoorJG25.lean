/- Joined texts: the reference's fall of layer 4; the reference's first of layer 4; the lists of a sieve: which they hold, and their order. -/
import Derived.Test.YtleccblkafcidaaGreatDoorJG22
import Derived.Test.YtleccblkafcidaaGreatDoorJG17
import Derived.Test.YtleccblkafcidaaGreatDoorJG19
import Derived.Test.YtleccblkafcidaaGreatDoorJG21
import Derived.Test.YtleccblkafcidaaGreatDoorJG16
import Derived.StillTailTactics
import Derived.Test.YtleccblkafcidaaGreatDoorJG20
set_option linter.unusedSimpArgs false
set_option linter.unusedVariables false
/- the reference's fall of layer 4 -/
namespace Go.Proofs.YtleccblkafcidaaGreatDoor
open Go.RowKit
set_option maxRecDepth 100000 in
set_option maxHeartbeats 12800000 in
theorem rfall_any (s r : Int) (vl : Value) (M A D bd : Int) (su sa sd sb : ByteArray) (w : World) (hl : LineR w vl (M, A, D)) (HB : Hid (K.fits M ∧ K.fits A ∧ K.fits D ∧ M < D ∧ K.fits (D - M) ∧ K.fits bd)) (Hq : Hid (A / (D - M) = bd))
    (Hs1 : Hid (Str (K.txt M) = su)) (Hs2 : Hid (Str (K.txt A) = sa)) (Hs3 : Hid (Str (K.txt D) = sd)) (Hs4 : Hid (Str (K.txt bd) = sb)) :
    Calls Tryz.prog 77 #[.int .i64 s, .int .i64 r, vl] w (fun e w' => e = .returned (FaV s r su sa sd sb) ∧ Ext w w') := by
  have hbig := hid (show M.natAbs ≤ BIG ∧ A.natAbs ≤ BIG ∧ D.natAbs ≤ BIG from ⟨fits_big HB.out.1, fits_big HB.out.2.1, fits_big HB.out.2.2.1⟩)
  obtain ⟨dn, hdn⟩ : ∃ dn : Nat, D - M = (dn : Int) := ⟨(D - M).toNat, by have := HB.out.2.2.2; omega⟩
  have HDN := hid hdn
  have HD0 := hid (show 0 < dn by have := HB.out.2.2.2; omega)
  have HDB := hid (show dn ≤ BIG by have := fits_big HB.out.2.2.2.2.1; omega)
  obtain ⟨b1, A1, k1, c1, b2, A2, k2, c2, b3, A3, k3, c3, rfl, h1, h2, h3⟩ := hl
  have hx : Ext w ((w.alloc (.cells #[.bool b1, .slice A1 k1 c1, .bool b2, .slice A2 k2 c2, .bool b3, .slice A3 k3 c3] 92)).alloc (.cells #[.int .i64 0, .int .i64 0, .string ⟨#[]⟩, .string ⟨#[]⟩, .string ⟨#[]⟩, .string ⟨#[]⟩] 40)) := ((Ext.rfl' w).alloc' _).alloc' _
  have hr1 : Row ((w.alloc (.cells #[.bool b1, .slice A1 k1 c1, .bool b2, .slice A2 k2 c2, .bool b3, .slice A3 k3 c3] 92)).alloc (.cells #[.int .i64 0, .int .i64 0, .string ⟨#[]⟩, .string ⟨#[]⟩, .string ⟨#[]⟩, .string ⟨#[]⟩] 40)) w.heap.size 92 [.bool b1, .slice A1 k1 c1, .bool b2, .slice A2 k2 c2, .bool b3, .slice A3 k3 c3] := (Row.new w _ [.bool b1, .slice A1 k1 c1, .bool b2, .slice A2 k2 c2, .bool b3, .slice A3 k3 c3]).alloc _
  have hr2 : Row ((w.alloc (.cells #[.bool b1, .slice A1 k1 c1, .bool b2, .slice A2 k2 c2, .bool b3, .slice A3 k3 c3] 92)).alloc (.cells #[.int .i64 0, .int .i64 0, .string ⟨#[]⟩, .string ⟨#[]⟩, .string ⟨#[]⟩, .string ⟨#[]⟩] 40)) (w.heap.size + 1) 40 [.int .i64 0, .int .i64 0, .string ⟨#[]⟩, .string ⟨#[]⟩, .string ⟨#[]⟩, .string ⟨#[]⟩] := by
    have := Row.new (w.alloc (.cells #[.bool b1, .slice A1 k1 c1, .bool b2, .slice A2 k2 c2, .bool b3, .slice A3 k3 c3] 92)) 40 [.int .i64 0, .int .i64 0, .string ⟨#[]⟩, .string ⟨#[]⟩, .string ⟨#[]⟩, .string ⟨#[]⟩]
    rwa [World.size_alloc] at this
  obtain ⟨w1, hw1⟩ : ∃ w1, ((w.alloc (.cells #[.bool b1, .slice A1 k1 c1, .bool b2, .slice A2 k2 c2, .bool b3, .slice A3 k3 c3] 92)).alloc (.cells #[.int .i64 0, .int .i64 0, .string ⟨#[]⟩, .string ⟨#[]⟩, .string ⟨#[]⟩, .string ⟨#[]⟩] 40)) = w1 := ⟨_, rfl⟩
  rw [hw1] at hx hr1 hr2
  have HW1 := hid hw1
  have EX := hid hx
  have RL := hid hr1
  have RF := hid hr2
  have L1 := hid (h1.ext hx)
  have L2 := hid (h2.ext hx)
  have L3 := hid (h3.ext hx)
  clear hw1 hx hr1 hr2 h1 h2 h3 hdn
  go_enter Tryz.func77, Tryz.ntmps77
  go_upto_region 1 with fail
  rw [HW1.out]
  clear HW1
  obtain ⟨H, hH⟩ : ∃ H, w.heap.size = H := ⟨_, rfl⟩
  rw [hH] at RL RF
  rw [hH]
  have HH := hid hH
  clear hH
  have HS : Hid (∀ W', Ext w1 W' → W'.cell? ⟨H, 0, none⟩ = some (.bool b1) ∧ W'.cell? ⟨H, 1, none⟩ = some (.slice A1 k1 c1) ∧ W'.cell? ⟨H, 2, none⟩ = some (.bool b2) ∧ W'.cell? ⟨H, 3, none⟩ = some (.slice A2 k2 c2) ∧ W'.cell? ⟨H, 4, none⟩ = some (.bool b3) ∧ W'.cell? ⟨H, 5, none⟩ = some (.slice A3 k3 c3)) := hid (by
    intro W' e
    obtain ⟨⟨q0, q1, q2, q3, q4, q5⟩, -⟩ := row_facts6 (RL.out.ext e)
    exact ⟨q0, q1, q2, q3, q4, q5⟩)
  have hcur : Ext w1 w1 := Ext.rfl' _
  go_cut [7] (fun sx wx => ∃ (g : Nat) (b : Bool) (P : Option Addr) (k c : Nat), sx = .pointer (some ⟨g, 0, none⟩) ∧ Row wx g 47 [.bool b, .slice P k c] ∧ RefV wx (.agg #[.bool b, .slice P k c]) bd ∧ Ext w1 wx)
  case first =>
    clear EX RF RL HH Hs1 Hs2 Hs3 Hs4
    go_region_held3 (fun W' => W'.cell? ⟨H, 0, none⟩ = some (.bool b1) ∧ W'.cell? ⟨H, 1, none⟩ = some (.slice A1 k1 c1) ∧ W'.cell? ⟨H, 2, none⟩ = some (.bool b2) ∧ W'.cell? ⟨H, 3, none⟩ = some (.slice A2 k2 c2) ∧ W'.cell? ⟨H, 4, none⟩ = some (.bool b3) ∧ W'.cell? ⟨H, 5, none⟩ = some (.slice A3 k3 c3))
      (first | (with_reducible exact HS.out _ hcur) | (with_reducible exact HS.out _ hcur.drew') | (refine HS.out _ ?_; (repeat (first | (with_reducible exact hcur) | (with_reducible refine Ext.alloc' ?_ _) | (with_reducible refine Ext.drew' ?_) | (with_reducible refine Ext.set' ?_ ?_ _))); all_goals (first | exact HBA.out.1 | exact HBB.out.1 | (have := hcur.size; simp; omega))) | go_keep)
      (first
        | (go_at_call 33; refine (rsub_any _ _ D M _ (L3.out.ext ?_) (L1.out.ext ?_) hbig.out.2.2 hbig.out.1).mono ?_; (first | exact hcur | exact hcur.drew' | exact hcur.alloc' _ | exact (hcur.alloc' _).alloc' _ | exact hcur.drew'.alloc' _ | exact (hcur.drew'.alloc' _).alloc' _ | exact (hcur.alloc' _).drew' | exact ((hcur.alloc' _).alloc' _).drew'); (first | exact hcur | exact hcur.drew' | exact hcur.alloc' _ | exact (hcur.alloc' _).alloc' _ | exact hcur.drew'.alloc' _ | exact (hcur.drew'.alloc' _).alloc' _ | exact (hcur.alloc' _).drew' | exact ((hcur.alloc' _).alloc' _).drew'); rintro e w20 ⟨v20, rfl, hv20, hx⟩; rw [HDN.out] at hv20; (first | (have HBA := hid (HBA.out.ext hx); have HBB := hid (HBB.out.ext hx)) | (have HBB := hid ((NB.new hcur.size).ext hx); have HNE := hid (HBA.out.lt); have HBA := hid (HBA.out.ext (Ext.step ((Ext.rfl' _).alloc' _) hx))) | (have HBA := hid (HBA.out.ext hx)) | (have HBA := hid ((NB.two1 hcur.size).ext hx); have HBB := hid ((NB.two2 hcur.size).ext hx); have HNE := hid (NB.two_lt hcur.size)) | (have HBA := hid ((NB.two1D hcur.size).ext hx); have HBB := hid ((NB.two2D hcur.size).ext hx); have HNE := hid (NB.two_lt hcur.size)) | (have HBA := hid ((NB.new hcur.size).ext hx)) | (have HBA := hid ((NB.newD hcur.size).ext hx)) | skip); have hcur := Ext.step hcur (by first | exact hx | exact Ext.undrew hx | exact Ext.step ((Ext.rfl' _).alloc' _) hx | exact Ext.step (((Ext.rfl' _).alloc' _).alloc' _) hx | exact Ext.step ((Ext.rfl' _).drew'.alloc' _) hx | exact Ext.step (((Ext.rfl' _).drew'.alloc' _).alloc' _) hx); have HV20 := hid hv20; obtain ⟨A20, k20, c20, xs20, b20, rfl, -⟩ := hv20; (first | (have hyy := row_facts HBA.out.2; obtain ⟨y0, y1, y2, y3⟩ := hyy; have n1 := HBA.out.ne; have n2 := HBA.out.ne'; have z0 := fun o => (row_facts (HBA.out.2.alloc o)).1; have z1 := fun o => (row_facts (HBA.out.2.alloc o)).2.1; have z2 := fun o => (row_facts (HBA.out.2.alloc o)).2.2.1; have z3 := fun o => (row_facts (HBA.out.2.alloc o)).2.2.2) | skip); (first | (have hxx := row_facts HBB.out.2; obtain ⟨x0, x1, x2, x3⟩ := hxx; have n3 := HBB.out.ne; have n4 := HBB.out.ne'; have n5 := Nat.ne_of_lt HNE.out; have n6 := (Nat.ne_of_lt HNE.out).symm) | skip))
        | (go_at_call 57; refine (rdiv_any _ _ A dn _ (L2.out.ext ?_) (HV20.out.ext ?_) hbig.out.2.1 HDB.out HD0.out).mono ?_; (first | exact hcur | exact hcur.drew' | exact hcur.alloc' _ | exact (hcur.alloc' _).alloc' _ | exact hcur.drew'.alloc' _ | exact (hcur.drew'.alloc' _).alloc' _ | exact (hcur.alloc' _).drew' | exact ((hcur.alloc' _).alloc' _).drew'); (first | exact Ext.rfl' _ | exact (Ext.rfl' _).drew' | exact (Ext.rfl' _).alloc' _ | exact ((Ext.rfl' _).alloc' _).alloc' _); rintro e w21 ⟨v25, v26, rfl, hq, hr, hx⟩; (first | (have HBA := hid (HBA.out.ext hx); have HBB := hid (HBB.out.ext hx)) | (have HBB := hid ((NB.new hcur.size).ext hx); have HNE := hid (HBA.out.lt); have HBA := hid (HBA.out.ext (Ext.step ((Ext.rfl' _).alloc' _) hx))) | (have HBA := hid (HBA.out.ext hx)) | (have HBA := hid ((NB.two1 hcur.size).ext hx); have HBB := hid ((NB.two2 hcur.size).ext hx); have HNE := hid (NB.two_lt hcur.size)) | (have HBA := hid ((NB.two1D hcur.size).ext hx); have HBB := hid ((NB.two2D hcur.size).ext hx); have HNE := hid (NB.two_lt hcur.size)) | (have HBA := hid ((NB.new hcur.size).ext hx)) | (have HBA := hid ((NB.newD hcur.size).ext hx)) | skip); have hcur := Ext.step hcur (by first | exact hx | exact Ext.undrew hx | exact Ext.step ((Ext.rfl' _).alloc' _) hx | exact Ext.step (((Ext.rfl' _).alloc' _).alloc' _) hx | exact Ext.step ((Ext.rfl' _).drew'.alloc' _) hx | exact Ext.step (((Ext.rfl' _).drew'.alloc' _).alloc' _) hx); have HQ := hid hq; obtain ⟨A25, k25, c25, xs25, b25, rfl, -⟩ := hq; obtain ⟨A26, k26, c26, xs26, b26, rfl, -⟩ := hr; (first | (have hyy := row_facts HBA.out.2; obtain ⟨y0, y1, y2, y3⟩ := hyy; have n1 := HBA.out.ne; have n2 := HBA.out.ne'; have z0 := fun o => (row_facts (HBA.out.2.alloc o)).1; have z1 := fun o => (row_facts (HBA.out.2.alloc o)).2.1; have z2 := fun o => (row_facts (HBA.out.2.alloc o)).2.2.1; have z3 := fun o => (row_facts (HBA.out.2.alloc o)).2.2.2) | skip); (first | (have hxx := row_facts HBB.out.2; obtain ⟨x0, x1, x2, x3⟩ := hxx; have n3 := HBB.out.ne; have n4 := HBB.out.ne'; have n5 := Nat.ne_of_lt HNE.out; have n6 := (Nat.ne_of_lt HNE.out).symm) | skip)))
    all_goals
      have HQ2 : Hid (RefV w21 (.agg #[.bool b25, .slice A25 k25 c25]) bd) := hid (by
        have h := HQ.out
        rwa [← HDN.out, Hq.out] at h)
      go_wp2_with fail
      go_meet
      refine ⟨_, b25, A25, k25, c25, rfl, ?_, HQ2.out.kept ?_, ?_⟩
      · first
          | (with_reducible exact Row.alloc (Row.new w21 _ [.bool b25, .slice A25 k25 c25]) _)
          | (with_reducible exact Row.new2 w21 _ _ [.bool b25, .slice A25 k25 c25])
          | (with_reducible exact Row.far2 (Row.put2 (Row.alloc (NB.row HBA.out) _)) (Nat.ne_of_lt HBA.out.lt))
          | (with_reducible exact Row.far2 (Row.put2 (NB.row HBA.out)) (Nat.ne_of_lt HNE.out))
          | (with_reducible exact Row.far2 (Row.new w21 _ [.bool b25, .slice A25 k25 c25]) (Nat.ne_of_lt HBA.out.lt).symm)
          | (with_reducible exact Row.far2 (Row.put2 (NB.row HBB.out)) (Nat.ne_of_lt HNE.out).symm)
      · (repeat (first | (with_reducible exact KeepRd.rfl' _) | (with_reducible refine KeepRd.allocN ?_) | (with_reducible refine KeepRd.setN ?_ ?_)))
        all_goals (repeat (first | (with_reducible exact HBA.out.noInt) | (with_reducible exact HBB.out.noInt) | (with_reducible exact NoIntB.newN _ _ _ _ _ _) | (with_reducible refine NoIntB.setB ?_) | (with_reducible refine NoIntB.setS ?_) | (with_reducible refine NoIntB.allocN ?_)))
      · (repeat (first | (with_reducible exact hcur) | (with_reducible refine Ext.alloc' ?_ _) | (with_reducible refine Ext.set' ?_ ?_ _)))
        all_goals (first | exact HBA.out.1 | exact HBB.out.1 | (have := hcur.size; simp; omega))
  case rest =>
    obtain ⟨g7, b7, P7, q7, d7, rfl, hrow, hvq, hex⟩ := hcut
    have B7 := hid hrow
    have V7 := hid hvq
    have E7 := hid hex
    have LR : Hid (LineR wc (.agg #[.bool b1, .slice A1 k1 c1, .bool b2, .slice A2 k2 c2, .bool b3, .slice A3 k3 c3]) (M, A, D)) := hid ⟨b1, A1, k1, c1, b2, A2, k2, c2, b3, A3, k3, c3, rfl, L1.out.ext hex, L2.out.ext hex, L3.out.ext hex⟩
    replace RL := hid (RL.out.ext hex)
    replace RF := hid (RF.out.ext hex)
    replace EX := hid (EX.out.step hex)
    have HBB2 := hid (fits_big HB.out.2.2.2.2.2)
    clear hrow hvq hex hcur HS L1 L2 L3 HDN HD0 HDB hbig E7
    have HS : Hid (∀ W', Ext wc W' → W'.cell? ⟨H, 0, none⟩ = some (.bool b1) ∧ W'.cell? ⟨H, 1, none⟩ = some (.slice A1 k1 c1) ∧ W'.cell? ⟨H, 2, none⟩ = some (.bool b2) ∧ W'.cell? ⟨H, 3, none⟩ = some (.slice A2 k2 c2) ∧ W'.cell? ⟨H, 4, none⟩ = some (.bool b3) ∧ W'.cell? ⟨H, 5, none⟩ = some (.slice A3 k3 c3) ∧ W'.cell? ⟨g7, 0, none⟩ = some (.bool b7) ∧ W'.cell? ⟨g7, 1, none⟩ = some (.slice P7 q7 d7)) := hid (by
      intro W' e
      obtain ⟨⟨q0, q1, q2, q3, q4, q5⟩, -⟩ := row_facts6 (RL.out.ext e)
      obtain ⟨p0, p1, -, -⟩ := row_facts (B7.out.ext e)
      exact ⟨q0, q1, q2, q3, q4, q5, p0, p1⟩)
    have hcur : Ext wc wc := Ext.rfl' _
    go_upto_region 2 with fail
    refine wp_region_split 7 (fun W' => W'.cell? ⟨H, 0, none⟩ = some (.bool b1) ∧ W'.cell? ⟨H, 1, none⟩ = some (.slice A1 k1 c1) ∧ W'.cell? ⟨H, 2, none⟩ = some (.bool b2) ∧ W'.cell? ⟨H, 3, none⟩ = some (.slice A2 k2 c2) ∧ W'.cell? ⟨H, 4, none⟩ = some (.bool b3) ∧ W'.cell? ⟨H, 5, none⟩ = some (.slice A3 k3 c3) ∧ W'.cell? ⟨g7, 0, none⟩ = some (.bool b7) ∧ W'.cell? ⟨g7, 1, none⟩ = some (.slice P7 q7 d7)) (by kernel_rfl) (by kernel_rfl) ?shh (fun hh0 => ?_)
    case shh => (try dsimp only); (first | (with_reducible exact HS.out _ hcur) | (with_reducible exact HS.out _ hcur.drew') | (with_reducible exact HS.out _ (hcur.alloc' _)) | go_keep)
    simp only [List.take_succ_cons, List.take_zero, List.drop_succ_cons, List.drop_zero]
    refine takeH (i := 0) (v := ?vhh0) rfl (by kernel_rfl) (fun _ _ _ h => h) ⟨by rfl, ?yhh0⟩ (by assumption) ?_
    case yhh0 => intro w hSw; (try dsimp only at hSw); go_simp; (try with_reducible rfl)
    try simp only [Act.put, List.setIfInBounds_toArray, List.set_cons_zero, List.set_cons_succ]
    refine takeH (i := 1) (v := ?vhh1) rfl (by kernel_rfl) (fun _ _ _ h => h) ⟨by rfl, ?yhh1⟩ (by assumption) ?_
    case yhh1 => intro w hSw; (try dsimp only at hSw); go_simp; (try with_reducible rfl)
    try simp only [Act.put, List.setIfInBounds_toArray, List.set_cons_zero, List.set_cons_succ]
    refine takeH (i := 2) (v := ?vhh2) rfl (by kernel_rfl) (fun _ _ _ h => h) ⟨by rfl, ?yhh2⟩ (by assumption) ?_
    case yhh2 => intro w hSw; (try dsimp only at hSw); go_simp; (try with_reducible rfl)
    try simp only [Act.put, List.setIfInBounds_toArray, List.set_cons_zero, List.set_cons_succ]
    refine takeH (i := 4) (v := ?vhh4) rfl (by kernel_rfl) (fun _ _ _ h => h) ⟨by rfl, ?yhh4⟩ (by assumption) ?_
    case yhh4 => intro w hSw; (try dsimp only at hSw); go_simp; (try with_reducible rfl)
    try simp only [Act.put, List.setIfInBounds_toArray, List.set_cons_zero, List.set_cons_succ]
    refine stepH (i := 3) rfl (by kernel_rfl) (fun K hK => ?_)
    go_simp
    go_at_call 59
    refine (text_line _ (M, A, D) _ (LR.out.ext ?_) su sa sd (hid ⟨HB.out.1, HB.out.2.1, HB.out.2.2.1⟩) Hs1 Hs2 Hs3).mono ?_
    · (first | exact hcur | exact hcur.drew' | exact hcur.alloc' _ | exact hcur.drew'.alloc' _ | exact (hcur.alloc' _).drew')
    rintro e w30 ⟨rfl, hx⟩
    have hcur := Ext.step hcur (by first | exact hx | exact Ext.undrew hx | exact Ext.step ((Ext.rfl' _).alloc' _) hx | exact Ext.step ((Ext.rfl' _).drew'.alloc' _) hx)
    refine hK.out _ _ ?_ (fun hh1 => ?_)
    · (try dsimp only); (first | (with_reducible exact HS.out _ hcur) | (with_reducible exact HS.out _ hcur.drew') | (with_reducible exact HS.out _ (hcur.alloc' _)) | go_keep)
    clear hK K hh0
    try simp only [Act.put, List.setIfInBounds_toArray, List.set_cons_zero, List.set_cons_succ]
    refine stepH (i := 5) rfl (by kernel_rfl) (fun K hK => ?_)
    go_simp
    go_at_call 45
    refine (rtext_s _ (V7.out.ext ?_) HBB2.out Hs4).mono ?_
    · (first | exact hcur | exact hcur.drew' | exact hcur.alloc' _ | exact hcur.drew'.alloc' _ | exact (hcur.alloc' _).drew')
    rintro e w31 ⟨rfl, hx⟩
    have hcur := Ext.step hcur (by first | exact hx | exact Ext.undrew hx | exact Ext.step ((Ext.rfl' _).alloc' _) hx | exact Ext.step ((Ext.rfl' _).drew'.alloc' _) hx)
    refine hK.out _ _ ?_ (fun hh2 => ?_)
    · (try dsimp only); (first | (with_reducible exact HS.out _ hcur) | (with_reducible exact HS.out _ hcur.drew') | (with_reducible exact HS.out _ (hcur.alloc' _)) | go_keep)
    clear hK K hh1
    try simp only [Act.put, List.setIfInBounds_toArray, List.set_cons_zero, List.set_cons_succ]
    refine takeH (i := 6) (v := ?vhh6) rfl (by kernel_rfl) (fun _ _ _ h => h) ⟨by rfl, ?yhh6⟩ (by assumption) ?_
    case yhh6 => intro w hSw; (try dsimp only at hSw); go_simp; (try with_reducible rfl)
    try simp only [Act.put, List.setIfInBounds_toArray, List.set_cons_zero, List.set_cons_succ]
    refine wpAnyH_done (by kernel_rfl) ?_ _
    change wpList _ _ _ _ _ _
    clear hh2
    have rf := RF.out.ext hcur
    have r2 : Row ((((((w31.setCell ⟨H + 1, 0, none⟩ (.int .i64 s)).setCell ⟨H + 1, 1, none⟩ (.int .i64 r)).setCell ⟨H + 1, 2, none⟩ (.string su)).setCell ⟨H + 1, 3, none⟩ (.string sa)).setCell ⟨H + 1, 4, none⟩ (.string sd)).setCell ⟨H + 1, 5, none⟩ (.string sb)) (H + 1) 40 [.int .i64 s, .int .i64 r, .string su, .string sa, .string sd, .string sb] := rf.put6
    have ex := (EX.out.step hcur).set6 (H := H + 1) (a := .int .i64 s) (b := .int .i64 r) (c := .string su) (d := .string sa) (e := .string sd) (f := .string sb) (by rw [HH.out]; omega)
    have HFIN := hid ex
    obtain ⟨⟨u0, u1, u2, u3, u4, u5⟩, v0, v1, v2, v3, v4, v5⟩ := row_facts6 rf
    have hz := row_facts6 r2
    have HZ := hid hz
    clear hcur HS rf r2 ex hz
    go_wp2
    obtain ⟨⟨y0, y1, y2, y3, y4, y5⟩, -⟩ := HZ.out
    refine bodyPost_ret (v := FaV s r su sa sd sb) (by simp [FaV, results, Tryz.results77, go_sem, y0, y1, y2, y3, y4, y5]) rfl ?_
    exact ⟨rfl, HFIN.out⟩
end Go.Proofs.YtleccblkafcidaaGreatDoor
/- the reference's first of layer 4 -/
namespace Go.Proofs.YtleccblkafcidaaGreatDoor
open Go.RowKit
set_option maxRecDepth 100000 in
set_option maxHeartbeats 12800000 in
theorem rfirst_any (v : Value) (m : Int) (us ad : List Int) (X : Int) (k : Nat) (w : World) (hv : MapV w v m us ad) (hM : Hid (mapP m us ad)) (hX0 : 0 ≤ X) (hX : X ≤ 65536) (hk : k ≤ 100) :
    Calls Tryz.prog 76 #[v, .int .i64 X, .int .i64 (k : Int)] w (fun e w' => ∃ (at_ s : Nat) (lv : Value), e = .returned (.tuple #[.int .i64 (at_ : Int), lv]) ∧ LineR w' lv (lnX m us ad X s) ∧ FirstC m us ad X k at_ s ∧ Ext w w') := by
  have HXB := hid (show X.natAbs ≤ 65536 by omega)
  have hm1 : 1 ≤ m := by have := hM.out.1; omega
  have hm2 : m ≤ 2147483647 := by have := hM.out.2.1; omega
  have HV := hid hv
  obtain ⟨A, n, cc, B, n2, d, rfl, -⟩ := hv
  have hx : Ext w ((w.alloc (.cells #[.int .i64 m, .slice A n cc, .slice B n2 d] 24)).alloc (.cells #[.bool false, .slice none 0 0, .bool false, .slice none 0 0, .bool false, .slice none 0 0] 92)) := ((Ext.rfl' w).alloc' _).alloc' _
  have hr1 : Row ((w.alloc (.cells #[.int .i64 m, .slice A n cc, .slice B n2 d] 24)).alloc (.cells #[.bool false, .slice none 0 0, .bool false, .slice none 0 0, .bool false, .slice none 0 0] 92)) w.heap.size 24 [.int .i64 m, .slice A n cc, .slice B n2 d] := (Row.new w _ _).alloc _
  have hr2 : Row ((w.alloc (.cells #[.int .i64 m, .slice A n cc, .slice B n2 d] 24)).alloc (.cells #[.bool false, .slice none 0 0, .bool false, .slice none 0 0, .bool false, .slice none 0 0] 92)) (w.heap.size + 1) 92 [.bool false, .slice none 0 0, .bool false, .slice none 0 0, .bool false, .slice none 0 0] := by
    have := Row.new (w.alloc (.cells #[.int .i64 m, .slice A n cc, .slice B n2 d] 24)) 92 [.bool false, .slice none 0 0, .bool false, .slice none 0 0, .bool false, .slice none 0 0]
    rwa [World.size_alloc] at this
  obtain ⟨W, hW⟩ : ∃ W, ((w.alloc (.cells #[.int .i64 m, .slice A n cc, .slice B n2 d] 24)).alloc (.cells #[.bool false, .slice none 0 0, .bool false, .slice none 0 0, .bool false, .slice none 0 0] 92)) = W := ⟨_, rfl⟩
  rw [hW] at hx hr1 hr2
  have HW := hid hW
  have HX := hid hx
  have R1 := hid hr1
  have R2 := hid hr2
  clear hW hx hr1 hr2
  go_enter Tryz.func76, Tryz.ntmps76
  go_upto_region 1 with fail
  rw [HW.out]
  go_wp2_with fail
  refine (of_any X W (by omega)).mono ?_
  rintro e w2 ⟨v2, rfl, hv2, hx⟩
  have HV2 := hid hv2
  have E2 := hid hx
  obtain ⟨Ax, kx, cx, xsx, bx, rfl, -⟩ := hv2
  clear hx
  go_wp2_with fail
  refine (one_any w2).mono ?_
  rintro e w3 ⟨v3, rfl, hv3, hx⟩
  have HV3 := hid hv3
  have HV2 := hid (HV2.out.ext hx)
  have hx3 := E2.out.step hx
  obtain ⟨b1, A1, k1, c1, b2, A2, k2, c2, b3, A3, k3, c3, rfl, -⟩ := hv3
  have hy := (hx3.alloc' (.cells #[.bool bx, .slice Ax kx cx] 47)).alloc' (.cells #[.bool b1, .slice A1 k1 c1, .bool b2, .slice A2 k2 c2, .bool b3, .slice A3 k3 c3] 92)
  have ha := ((Ext.rfl' w3).alloc' (.cells #[.bool bx, .slice Ax kx cx] 47)).alloc' (.cells #[.bool b1, .slice A1 k1 c1, .bool b2, .slice A2 k2 c2, .bool b3, .slice A3 k3 c3] 92)
  have q1 : Row ((w3.alloc (.cells #[.bool bx, .slice Ax kx cx] 47)).alloc (.cells #[.bool b1, .slice A1 k1 c1, .bool b2, .slice A2 k2 c2, .bool b3, .slice A3 k3 c3] 92)) w3.heap.size 47 [.bool bx, .slice Ax kx cx] := (Row.new w3 _ _).alloc _
  have q2 : Row ((w3.alloc (.cells #[.bool bx, .slice Ax kx cx] 47)).alloc (.cells #[.bool b1, .slice A1 k1 c1, .bool b2, .slice A2 k2 c2, .bool b3, .slice A3 k3 c3] 92)) (w3.heap.size + 1) 92 [.bool b1, .slice A1 k1 c1, .bool b2, .slice A2 k2 c2, .bool b3, .slice A3 k3 c3] := by
    have := Row.new (w3.alloc (.cells #[.bool bx, .slice Ax kx cx] 47)) 92 [.bool b1, .slice A1 k1 c1, .bool b2, .slice A2 k2 c2, .bool b3, .slice A3 k3 c3]
    rwa [World.size_alloc] at this
  obtain ⟨HB, hHB⟩ : ∃ HB, w3.heap.size = HB := ⟨_, rfl⟩
  have hgt : w.heap.size + 1 < HB := by
    have e1 := R2.out.lt
    have e2 := hx3.size
    omega
  obtain ⟨W4, hW4⟩ : ∃ W4, ((w3.alloc (.cells #[.bool bx, .slice Ax kx cx] 47)).alloc (.cells #[.bool b1, .slice A1 k1 c1, .bool b2, .slice A2 k2 c2, .bool b3, .slice A3 k3 c3] 92)) = W4 := ⟨_, rfl⟩
  rw [hW4] at hy ha q1 q2
  rw [hHB] at q1 q2
  have HW4 := hid hW4
  have E4 := hid hy
  have Q1 := hid q1
  have Q2 := hid q2
  have HV2 := hid (HV2.out.ext ha)
  have HV3 := hid (HV3.out.ext ha)
  have HGT := hid hgt
  clear hx hx3 hy ha q1 q2 hW4 hgt
  go_upto_region 2 with fail
  rw [HW4.out]
  clear hHB
  go_wp2_with fail
  go_loopw [10] (fun iz wr => ∃ (s : Nat) (b : Bool) (P : Option Addr) (q c : Nat) (b1 : Bool) (A1 : Option Addr) (k1 c1 : Nat) (b2 : Bool) (A2 : Option Addr) (k2 c2 : Nat) (b3 : Bool) (A3 : Option Addr) (k3 c3 : Nat), s ≤ k ∧ iz = .int .i64 ((s : Int) + 1) ∧ Row wr w.heap.size 24 [.int .i64 m, .slice A n cc, .slice B n2 d] ∧ Row wr (w.heap.size + 1) 92 [.bool false, .slice none 0 0, .bool false, .slice none 0 0, .bool false, .slice none 0 0] ∧ Row wr HB 47 [.bool b, .slice P q c] ∧ Row wr (HB + 1) 92 [.bool b1, .slice A1 k1 c1, .bool b2, .slice A2 k2 c2, .bool b3, .slice A3 k3 c3] ∧ RefV wr (.agg #[.bool b, .slice P q c]) (orbN m us ad s X) ∧ LineR wr (.agg #[.bool b1, .slice A1 k1 c1, .bool b2, .slice A2 k2 c2, .bool b3, .slice A3 k3 c3]) (lnX m us ad X s) ∧ Hid (∀ j, 1 ≤ j → j < s + 1 → ¬ FallsAt m us ad X j) ∧ Ext w wr) (fun iz _ => k + 1 - (intOf iz).toNat)
  case atStart => exact ⟨0, bx, Ax, kx, cx, b1, A1, k1, c1, b2, A2, k2, c2, b3, A3, k3, c3, by omega, by simp, R1.out.ext E4.out, R2.out.ext E4.out, Q1.out, Q2.out, HV2.out, HV3.out, hid (fun j h1 h2 => by omega), HX.out.step E4.out⟩
  case round =>
    clear R1 R2 Q1 Q2 HV2 HV3 HW HW4 HX E2 E4
    obtain ⟨s, b, P, q, c, b1, A1, k1, c1, b2, A2, k2, c2, b3, A3, k3, c3, hs, rfl, hr1, hr2, hr3, hr4, hvx, hlr, HNF, hex⟩ := hrel
    have R1 := hid hr1
    have R2 := hid hr2
    have R3 := hid hr3
    have R4 := hid hr4
    have VX := hid hvx
    have LR := hid hlr
    have EX := hid hex
    clear hr1 hr2 hr3 hr4 hvx hlr hex
    by_cases hlt : s < k
    · have HFT := hid (orb_fit (us := us) (ad := ad) hM.out HXB.out (show s ≤ 200 by omega))
      obtain ⟨rr, hrr⟩ : ∃ rr, orbN m us ad s X % m = rr := ⟨_, rfl⟩
      have HRR := hid hrr
      have HRB := hid (show 0 ≤ rr ∧ rr < m by rw [← hrr]; exact rest_ok2 (by omega) _)
      have HLB := hid (lnX_B hM.out X s (us := us) (ad := ad))
      have HNX : Hid (lnX m us ad X (s + 1) = thenL m us ad (lnX m us ad X s) rr) := hid (by rw [lnX_next, hrr])
      clear hrr
      obtain ⟨f0, f1, f2, -, -, -⟩ := row_facts3 R1.out
      obtain ⟨x0, x1, x2, x3⟩ := row_facts R3.out
      obtain ⟨⟨y0, y1, y2, y3, y4, y5⟩, z0, z1, z2, z3, z4, z5⟩ := row_facts6 R4.out
      have hcur : Ext wr wr := Ext.rfl' _
      go_upto_region 5 with fail
      go_cut [10] (fun sx wx => sx = .int .i64 ((s : Int) + 1) ∧ ∃ (w6 : World) (p1 : Bool) (P1 : Option Addr) (q1 d1 : Nat) (p2 : Bool) (P2 : Option Addr) (q2 d2 : Nat) (p3 : Bool) (P3 : Option Addr) (q3 d3 : Nat), Ext wr w6 ∧ LineR w6 (.agg #[.bool p1, .slice P1 q1 d1, .bool p2, .slice P2 q2 d2, .bool p3, .slice P3 q3 d3]) (lnX m us ad X (s + 1)) ∧ wx = (((((((w6.setCell ⟨HB + 1, 0, none⟩ (.bool p1)).setCell ⟨HB + 1, 1, none⟩ (.slice P1 q1 d1)).setCell ⟨HB + 1, 2, none⟩ (.bool p2)).setCell ⟨HB + 1, 3, none⟩ (.slice P2 q2 d2)).setCell ⟨HB + 1, 4, none⟩ (.bool p3)).setCell ⟨HB + 1, 5, none⟩ (.slice P3 q3 d3))))
      case first =>
        have HS : Hid (∀ W', Row W' w.heap.size 24 [.int .i64 m, .slice A n cc, .slice B n2 d] → Row W' HB 47 [.bool b, .slice P q c] → W'.cell? ⟨w.heap.size, 0, none⟩ = some (.int .i64 m) ∧ W'.cell? ⟨w.heap.size, 1, none⟩ = some (.slice A n cc) ∧ W'.cell? ⟨w.heap.size, 2, none⟩ = some (.slice B n2 d) ∧ W'.cell? ⟨HB, 0, none⟩ = some (.bool b) ∧ W'.cell? ⟨HB, 1, none⟩ = some (.slice P q c)) := hid (by
          intro W' e1 e2
          obtain ⟨a0, a1, a2, -, -, -⟩ := row_facts3 e1
          obtain ⟨b0, b1, -, -⟩ := row_facts e2
          exact ⟨a0, a1, a2, b0, b1⟩)
        clear f0 f1 f2 x0 x1 x2 x3
        obtain ⟨f0, f1, f2, -, -, -⟩ := row_facts3 R1.out
        obtain ⟨x0, x1, -, -⟩ := row_facts R3.out
        clear HNF hX0 hX HXB
        go_region_law (first
          | (go_simp; go_at_call 29; refine (rest2_s _ _ m (orbN m us ad s X) us ad _ (HV.out.ext (EX.out.step ?_)) (VX.out.ext ?_) (fits_big HFT.out) hm1 hm2 HRR).mono ?_; (first | exact hcur | exact hcur.drew' | exact hcur.alloc' _ | exact hcur.drew'.alloc' _ | exact (hcur.alloc' _).drew'); (first | exact hcur | exact hcur.drew' | exact hcur.alloc' _ | exact hcur.drew'.alloc' _ | exact (hcur.alloc' _).drew'); rintro e w5 ⟨rfl, hx⟩; have hcur := Ext.step hcur (by first | exact hx | exact Ext.undrew hx | exact Ext.step ((Ext.rfl' _).alloc' _) hx | exact Ext.step ((Ext.rfl' _).drew'.alloc' _) hx); obtain ⟨f0, f1, f2, -, -, -⟩ := row_facts3 (R1.out.ext hcur); obtain ⟨x0, x1, -, -⟩ := row_facts (R3.out.ext hcur); obtain ⟨⟨y0, y1, y2, y3, y4, y5⟩, z0, z1, z2, z3, z4, z5⟩ := row_facts6 (R4.out.ext hcur))
          | (go_simp; go_at_call 56; refine (then_any _ _ m rr us ad (lnX m us ad X s) s _ (HV.out.ext (EX.out.step ?_)) hM (LR.out.ext ?_) HLB (by omega) HRB.out.1 HRB.out.2).mono ?_; (first | exact hcur | exact hcur.drew' | exact hcur.alloc' _ | exact hcur.drew'.alloc' _ | exact (hcur.alloc' _).drew'); (first | exact hcur | exact hcur.drew' | exact hcur.alloc' _ | exact hcur.drew'.alloc' _ | exact (hcur.alloc' _).drew'); rintro e w6 ⟨v6, rfl, hv6, hx⟩; have hcur := Ext.step hcur (by first | exact hx | exact Ext.undrew hx | exact Ext.step ((Ext.rfl' _).alloc' _) hx | exact Ext.step ((Ext.rfl' _).drew'.alloc' _) hx); have HV6 := hid hv6; obtain ⟨p1, P1, q1, d1, p2, P2, q2, d2, p3, P3, q3, d3, rfl, -⟩ := hv6; obtain ⟨⟨y0, y1, y2, y3, y4, y5⟩, z0, z1, z2, z3, z4, z5⟩ := row_facts6 (R4.out.ext hcur); have ho := Off.six (w3 := w6) (H := HB + 1) (a := .bool p1) (b := .slice P1 q1 d1) (c := .bool p2) (d := .slice P2 q2 d2) (e := .bool p3) (f := .slice P3 q3 d3); have RO1 := ho.row (R1.out.ext hcur) (by have := HGT.out; omega); have RO3 := ho.row (R3.out.ext hcur) (by omega)))
        all_goals
          go_wp2_with fail
          go_meet
          exact ⟨rfl, w6, p1, P1, q1, d1, p2, P2, q2, d2, p3, P3, q3, d3, hcur, by rw [HNX.out]; exact HV6.out, rfl⟩
      case rest =>
        obtain ⟨rfl, w6, p1, P1, q1, d1, p2, P2, q2, d2, p3, P3, q3, d3, hx6, hl6, rfl⟩ := hcut
        have ho := Off.six (w3 := w6) (H := HB + 1) (a := .bool p1) (b := .slice P1 q1 d1) (c := .bool p2) (d := .slice P2 q2 d2) (e := .bool p3) (f := .slice P3 q3 d3)
        have rl := R4.out.ext hx6
        have hk6 := ho.keep rl (no_int6 _ _ _ _ _ _ _ _ _ _ _ _)
        have s1 := ho.row (R1.out.ext hx6) (by have := HGT.out; omega)
        have s2 := ho.row (R2.out.ext hx6) (by have := HGT.out; omega)
        have s3 := ho.row (R3.out.ext hx6) (by omega)
        have s4 : Row _ (HB + 1) 92 [.bool p1, .slice P1 q1 d1, .bool p2, .slice P2 q2 d2, .bool p3, .slice P3 q3 d3] := rl.put6 (a' := .bool p1) (b' := .slice P1 q1 d1) (c' := .bool p2) (d' := .slice P2 q2 d2) (e' := .bool p3) (f' := .slice P3 q3 d3)
        have vx := (VX.out.ext hx6).kept hk6
        have lr := LineR.over rl hl6
        have ex := (EX.out.step hx6).set6 (H := HB + 1) (a := .bool p1) (b := .slice P1 q1 d1) (c := .bool p2) (d := .slice P2 q2 d2) (e := .bool p3) (f := .slice P3 q3 d3) (by have := HGT.out; omega)
        obtain ⟨w7, hw7⟩ : ∃ w7, (((((((w6.setCell ⟨HB + 1, 0, none⟩ (.bool p1)).setCell ⟨HB + 1, 1, none⟩ (.slice P1 q1 d1)).setCell ⟨HB + 1, 2, none⟩ (.bool p2)).setCell ⟨HB + 1, 3, none⟩ (.slice P2 q2 d2)).setCell ⟨HB + 1, 4, none⟩ (.bool p3)).setCell ⟨HB + 1, 5, none⟩ (.slice P3 q3 d3))) = w7 := ⟨_, rfl⟩
        rw [hw7] at s1 s2 s3 s4 vx lr ex
        rw [hw7]
        replace R1 := hid s1
        replace R2 := hid s2
        replace R3 := hid s3
        have R5 := hid s4
        replace VX := hid vx
        replace LR := hid lr
        replace EX := hid ex
        clear ho rl hk6 s1 s2 s3 s4 vx lr ex hw7 R4 hcur y0 y1 y2 y3 y4 y5 z0 z1 z2 z3 z4 z5 f0 f1 f2 x0 x1 x2 x3 HLB HNX HRB HRR
        obtain ⟨e1, E1, t1, g1, e2, E2, t2, g2, e3, E3, t3, g3, he, hl1, hl2, hl3⟩ := id LR.out
        cases he
        have HL1 := hid hl1
        have HL3 := hid hl3
        have HLD : Hid ((lnX m us ad X (s + 1)).2.2 = m ^ (s + 1)) := hid (lnX_div _ _ _ _ _)
        have HBG : Hid ((lnX m us ad X (s + 1)).1.natAbs ≤ BIG ∧ (lnX m us ad X (s + 1)).2.2.natAbs ≤ BIG) := hid (by
          have h := lnX_B (us := us) (ad := ad) hM.out X (s + 1)
          have h2 : 1000 ^ (s + 1) ≤ TOP 34 := thousand_le _ 34 (by omega)
          have h3 : TOP 34 < TOP 35 := by have := TOP_pos 34; have h4 := TOP_add 1 34; have h5 : TOP 1 = 1000000000 := by decide
                                          rw [h5] at h4; have h6 : TOP 35 = TOP (1 + 34) := rfl; omega
          exact ⟨le_big (a := 35) (by have := h.1; omega) (by omega), le_big (a := 35) (by have := h.2.1; omega) (by omega)⟩)
        clear hl1 hl2 hl3
        obtain ⟨⟨y0, y1, y2, y3, y4, y5⟩, -⟩ := row_facts6 R5.out
        obtain ⟨cc0, hcc⟩ : ∃ c0, sgnI (lnX m us ad X (s + 1)).1 (lnX m us ad X (s + 1)).2.2 = c0 := ⟨_, rfl⟩
        have HCC := hid hcc
        clear hcc
        go_wp2_with fail
        refine (rcmp_s _ _ _ _ w7 HL1.out HL3.out HBG.out.1 HBG.out.2 HCC).mono ?_
        rintro e w8 ⟨rfl, hx⟩
        replace R1 := hid (R1.out.ext hx)
        replace R2 := hid (R2.out.ext hx)
        replace R3 := hid (R3.out.ext hx)
        replace R5 := hid (R5.out.ext hx)
        replace VX := hid (VX.out.ext hx)
        replace LR := hid (LR.out.ext hx)
        replace EX := hid (EX.out.step hx)
        clear hx y0 y1 y2 y3 y4 y5
        by_cases hf : cc0 < 0
        · have HFA : Hid (FallsAt m us ad X (s + 1)) := hid (by
            unfold FallsAt
            rw [← HLD.out]
            have h := HCC.out
            unfold sgnI at h
            split at h
            · assumption
            · split at h <;> omega)
          obtain ⟨⟨y0, y1, y2, y3, y4, y5⟩, -⟩ := row_facts6 R5.out
          obtain ⟨⟨u0, u1, u2, u3, u4, u5⟩, v0, v1, v2, v3, v4, v5⟩ := row_facts6 R2.out
          have hd : Ext w8 w8.drew := (Ext.rfl' w8).drew'
          have HFD : Hid (∀ WD, Ext w8 WD → (∃ (at_ s2 : Nat) (lv : Value), Ending.returned (.tuple #[.int .i64 ((s : Int) + 1), .agg #[.bool p1, .slice P1 q1 d1, .bool p2, .slice P2 q2 d2, .bool p3, .slice P3 q3 d3]]) = .returned (.tuple #[.int .i64 (at_ : Int), lv]) ∧ LineR (((((((WD.setCell ⟨w.heap.size + 1, 0, none⟩ (.bool p1)).setCell ⟨w.heap.size + 1, 1, none⟩ (.slice P1 q1 d1)).setCell ⟨w.heap.size + 1, 2, none⟩ (.bool p2)).setCell ⟨w.heap.size + 1, 3, none⟩ (.slice P2 q2 d2)).setCell ⟨w.heap.size + 1, 4, none⟩ (.bool p3)).setCell ⟨w.heap.size + 1, 5, none⟩ (.slice P3 q3 d3))) lv (lnX m us ad X s2) ∧ FirstC m us ad X k at_ s2 ∧ Ext w (((((((WD.setCell ⟨w.heap.size + 1, 0, none⟩ (.bool p1)).setCell ⟨w.heap.size + 1, 1, none⟩ (.slice P1 q1 d1)).setCell ⟨w.heap.size + 1, 2, none⟩ (.bool p2)).setCell ⟨w.heap.size + 1, 3, none⟩ (.slice P2 q2 d2)).setCell ⟨w.heap.size + 1, 4, none⟩ (.bool p3)).setCell ⟨w.heap.size + 1, 5, none⟩ (.slice P3 q3 d3))))) := hid (by
            intro WD e
            exact ⟨s + 1, s + 1, .agg #[.bool p1, .slice P1 q1 d1, .bool p2, .slice P2 q2 d2, .bool p3, .slice P3 q3 d3], by rw [show (((s + 1 : Nat)) : Int) = (s : Int) + 1 by simp], LineR.over (R2.out.ext e) (LR.out.ext e), .inl ⟨by omega, by omega, rfl, HFA.out, HNF.out⟩, (EX.out.step e).set6 (by omega)⟩)
          go_wp2_with fail
          go_still_tail 3, (by kernel_rfl)
          change wpList _ _ _ _ _ w8.drew
          obtain ⟨WD, hWD⟩ : ∃ WD, w8.drew = WD := ⟨_, rfl⟩
          rw [hWD] at hd
          rw [hWD]
          clear u0 u1 u2 u3 u4 u5 v0 v1 v2 v3 v4 v5
          obtain ⟨⟨u0, u1, u2, u3, u4, u5⟩, v0, v1, v2, v3, v4, v5⟩ := row_facts6 (R2.out.ext hd)
          have HD2 := hid hd
          clear hd hWD
          all_goals
            go_wp2
            refine bodyPost_ret (v := .tuple #[.int .i64 ((s : Int) + 1), .agg #[.bool p1, .slice P1 q1 d1, .bool p2, .slice P2 q2 d2, .bool p3, .slice P3 q3 d3]]) (by simp [results, Tryz.results76, go_sem, u0, u1, u2, u3, u4, u5]) rfl ?_
            exact HFD.out _ HD2.out
        · have HFA : Hid (¬ FallsAt m us ad X (s + 1)) := hid (by
            intro h1
            unfold FallsAt at h1
            rw [← HLD.out] at h1
            have h := HCC.out
            unfold sgnI at h
            rw [if_pos h1] at h
            omega)
          obtain ⟨f0, f1, f2, -, -, -⟩ := row_facts3 R1.out
          obtain ⟨x0, x1, -, -⟩ := row_facts R3.out
          go_wp2_with fail
          refine (step2_fits _ _ m (orbN m us ad s X) us ad w8 (HV.out.ext EX.out) hM VX.out HFT).mono ?_
          rintro e w9 ⟨v9, rfl, hv9, hx⟩
          have HV9 := hid hv9
          obtain ⟨A9, k9, c9, xs9, b9, rfl, -⟩ := hv9
          have r3 := R3.out.ext hx
          have hn : NoIntB w9 HB := ⟨_, _, _, r3, by simpa using no_int2 b P q c⟩
          have HFIN : Hid (∀ WF, WF = ((w9.setCell ⟨HB, 0, none⟩ (.bool b9)).setCell ⟨HB, 1, none⟩ (.slice A9 k9 c9)) → ∃ (s2 : Nat) (b : Bool) (P : Option Addr) (q c : Nat) (b1 : Bool) (A1 : Option Addr) (k1 c1 : Nat) (b2 : Bool) (A2 : Option Addr) (k2 c2 : Nat) (b3 : Bool) (A3 : Option Addr) (k3 c3 : Nat), s2 ≤ k ∧ Value.int .i64 ((s : Int) + 1 + 1) = .int .i64 ((s2 : Int) + 1) ∧ Row WF w.heap.size 24 [.int .i64 m, .slice A n cc, .slice B n2 d] ∧ Row WF (w.heap.size + 1) 92 [.bool false, .slice none 0 0, .bool false, .slice none 0 0, .bool false, .slice none 0 0] ∧ Row WF HB 47 [.bool b, .slice P q c] ∧ Row WF (HB + 1) 92 [.bool b1, .slice A1 k1 c1, .bool b2, .slice A2 k2 c2, .bool b3, .slice A3 k3 c3] ∧ RefV WF (.agg #[.bool b, .slice P q c]) (orbN m us ad s2 X) ∧ LineR WF (.agg #[.bool b1, .slice A1 k1 c1, .bool b2, .slice A2 k2 c2, .bool b3, .slice A3 k3 c3]) (lnX m us ad X s2) ∧ Hid (∀ j, 1 ≤ j → j < s2 + 1 → ¬ FallsAt m us ad X j) ∧ Ext w WF) := hid (by
            rintro WF rfl
            refine ⟨s + 1, b9, A9, k9, c9, p1, P1, q1, d1, p2, P2, q2, d2, p3, P3, q3, d3, by omega, by simp, Row.far2 (R1.out.ext hx) (by have := HGT.out; omega), Row.far2 (R2.out.ext hx) (by have := HGT.out; omega), Row.put2 r3, Row.far2 (R5.out.ext hx) (by omega), HV9.out.box r3, (LR.out.ext hx).kept (((KeepRd.rfl' _).setN hn).setN hn.setB), hid ?_, ((EX.out.step hx).set' (by show w.heap.size ≤ HB; have := HGT.out; omega) _).set' (by show w.heap.size ≤ HB; have := HGT.out; omega) _⟩
            intro j h1 h2
            rcases Nat.lt_or_ge j (s + 1) with h3 | h3
            · exact HNF.out j h1 h3
            · obtain rfl : j = s + 1 := by omega
              exact HFA.out)
          clear f0 f1 f2 x0 x1 hx hn
          obtain ⟨x0, x1, x2, x3⟩ := row_facts r3
          clear r3
          go_wp2
          go_roundw
          case rel => exact HFIN.out _ rfl
          case measure => first | (simp [intOf]; done) | (simp [intOf]; omega)
    · obtain rfl : s = k := by omega
      obtain ⟨⟨y0, y1, y2, y3, y4, y5⟩, -⟩ := row_facts6 R4.out
      obtain ⟨⟨u0, u1, u2, u3, u4, u5⟩, v0, v1, v2, v3, v4, v5⟩ := row_facts6 R2.out
      have hd : Ext wr wr.drew := (Ext.rfl' wr).drew'
      have HFD : Hid (∀ WD, Ext wr WD → (∃ (at_ s2 : Nat) (lv : Value), Ending.returned (.tuple #[.int .i64 0, .agg #[.bool b1, .slice A1 k1 c1, .bool b2, .slice A2 k2 c2, .bool b3, .slice A3 k3 c3]]) = .returned (.tuple #[.int .i64 (at_ : Int), lv]) ∧ LineR (((((((WD.setCell ⟨w.heap.size + 1, 0, none⟩ (.bool b1)).setCell ⟨w.heap.size + 1, 1, none⟩ (.slice A1 k1 c1)).setCell ⟨w.heap.size + 1, 2, none⟩ (.bool b2)).setCell ⟨w.heap.size + 1, 3, none⟩ (.slice A2 k2 c2)).setCell ⟨w.heap.size + 1, 4, none⟩ (.bool b3)).setCell ⟨w.heap.size + 1, 5, none⟩ (.slice A3 k3 c3))) lv (lnX m us ad X s2) ∧ FirstC m us ad X s at_ s2 ∧ Ext w (((((((WD.setCell ⟨w.heap.size + 1, 0, none⟩ (.bool b1)).setCell ⟨w.heap.size + 1, 1, none⟩ (.slice A1 k1 c1)).setCell ⟨w.heap.size + 1, 2, none⟩ (.bool b2)).setCell ⟨w.heap.size + 1, 3, none⟩ (.slice A2 k2 c2)).setCell ⟨w.heap.size + 1, 4, none⟩ (.bool b3)).setCell ⟨w.heap.size + 1, 5, none⟩ (.slice A3 k3 c3))))) := hid (by
        intro WD e
        exact ⟨0, s, _, rfl, LineR.over (R2.out.ext e) (LR.out.ext e), .inr ⟨rfl, rfl, fun j h1 h2 => HNF.out j h1 (by omega)⟩, (EX.out.step e).set6 (by omega)⟩)
      go_wp2_with fail
      go_still_tail 2, (by kernel_rfl)
      change wpList _ _ _ _ _ wr.drew
      obtain ⟨WD, hWD⟩ : ∃ WD, wr.drew = WD := ⟨_, rfl⟩
      rw [hWD] at hd
      rw [hWD]
      clear u0 u1 u2 u3 u4 u5 v0 v1 v2 v3 v4 v5
      obtain ⟨⟨u0, u1, u2, u3, u4, u5⟩, v0, v1, v2, v3, v4, v5⟩ := row_facts6 (R2.out.ext hd)
      have HD2 := hid hd
      clear hd hWD
      all_goals
        go_wp2
        refine bodyPost_ret (v := .tuple #[.int .i64 0, .agg #[.bool b1, .slice A1 k1 c1, .bool b2, .slice A2 k2 c2, .bool b3, .slice A3 k3 c3]]) (by simp [results, Tryz.results76, go_sem, u0, u1, u2, u3, u4, u5]) rfl ?_
        exact HFD.out _ HD2.out
end Go.Proofs.YtleccblkafcidaaGreatDoor
/- the lists of a sieve: which they hold, and their order -/
namespace Go.Proofs.YtleccblkafcidaaGreatDoor
open Go.RowKit
theorem mod_pow_le {m : Int} (hm : 0 < m) {i j : Nat} (h : i ≤ j) {X Y : Int} (e : X % m ^ j = Y % m ^ j) : X % m ^ i = Y % m ^ i := by
  have hd : m ^ i ∣ m ^ j := ⟨m ^ (j - i), by rw [← Int.pow_add]; congr 1; omega⟩
  rw [← Int.emod_emod_of_dvd X hd, e, Int.emod_emod_of_dvd Y hd]
/-- the lists of a sieve, over any growth g of a place -/
def gvis (M : Nat) (g : Int → Nat → Int) (k : Nat) : Nat → Nat → Int → List (Int × Int) × List Int
  | 0, s, r => if g r s < (M : Int) ^ s then ([((s : Int), r)], []) else ([], belowL r ((M : Int) ^ s) 1)
  | d + 1, s, r => if g r s < (M : Int) ^ s then ([((s : Int), r)], []) else
      if (M : Int) ^ k ≤ g r s then ([], belowL r ((M : Int) ^ s) (M ^ (d + 1))) else
        ((List.range M).flatMap (fun (t : Nat) => (gvis M g k d (s + 1) (r + (t : Int) * (M : Int) ^ s)).1), (List.range M).flatMap (fun (t : Nat) => (gvis M g k d (s + 1) (r + (t : Int) * (M : Int) ^ s)).2))
/-- g depends on the rest alone, and does not fall below what it was -/
structure Grows (M : Nat) (g : Int → Nat → Int) (k : Nat) : Prop where
  two : 2 ≤ M
  congr : ∀ X Y s, X % (M : Int) ^ s = Y % (M : Int) ^ s → g X s = g Y s
  stays : ∀ X s j, (M : Int) ^ k ≤ g X s → s ≤ j → j ≤ k → ¬ g X j < (M : Int) ^ j
theorem mem_below {M : Nat} (hM : 2 ≤ M) {s d k : Nat} (hk : s + d = k) {r x : Int} (h0 : 0 ≤ r) (h1 : r < (M : Int) ^ s) :
    x ∈ belowL r ((M : Int) ^ s) (M ^ d) ↔ 0 ≤ x ∧ x < (M : Int) ^ k ∧ x % (M : Int) ^ s = r := by
  have hp : (0 : Int) < (M : Int) ^ s := Int.pow_pos (by omega)
  have e : (M : Int) ^ k = (M : Int) ^ s * ((M ^ d : Nat) : Int) := by rw [← hk, Int.pow_add, Int.natCast_pow]
  unfold belowL
  rw [List.mem_map]
  constructor
  · rintro ⟨i, hi, rfl⟩
    have hi : i < M ^ d := List.mem_range.1 hi
    have h2 : 0 ≤ (i : Int) * (M : Int) ^ s := Int.mul_nonneg (by omega) (by omega)
    refine ⟨by omega, ?_, by rw [Int.add_mul_emod_self_right, Int.emod_eq_of_lt h0 h1]⟩
    rw [e, Int.mul_comm ((M : Int) ^ s) ((M ^ d : Nat) : Int)]
    have h3 : ((i : Int) + 1) * (M : Int) ^ s ≤ ((M ^ d : Nat) : Int) * (M : Int) ^ s := Int.mul_le_mul_of_nonneg_right (by omega) (by omega)
    rw [Int.add_mul] at h3
    omega
  · rintro ⟨h2, h3, h4⟩
    have h5 := Int.emod_add_mul_ediv x ((M : Int) ^ s)
    have h6 : 0 ≤ x / (M : Int) ^ s := Int.ediv_nonneg h2 (by omega)
    have h7 : x / (M : Int) ^ s < ((M ^ d : Nat) : Int) := by
      rw [e] at h3
      exact Int.ediv_lt_of_lt_mul hp (by rw [Int.mul_comm]; exact h3)
    exact ⟨(x / (M : Int) ^ s).toNat, List.mem_range.2 (by omega), by rw [Int.toNat_of_nonneg h6, ← h4, Int.mul_comm]; omega⟩
theorem small_mod {m x : Int} (h0 : 0 ≤ x) (h1 : x < m) : x % m = x := Int.emod_eq_of_lt h0 h1
theorem child_bd {M : Nat} (hM : 2 ≤ M) {s t : Nat} {r : Int} (h0 : 0 ≤ r) (h1 : r < (M : Int) ^ s) (ht : t < M) : 0 ≤ r + (t : Int) * (M : Int) ^ s ∧ r + (t : Int) * (M : Int) ^ s < (M : Int) ^ (s + 1) ∧ (r + (t : Int) * (M : Int) ^ s) % (M : Int) ^ s = r := by
  have hp : (0 : Int) < (M : Int) ^ s := Int.pow_pos (by omega)
  have h2 : 0 ≤ (t : Int) * (M : Int) ^ s := Int.mul_nonneg (by omega) (by omega)
  have h3 : ((t : Int) + 1) * (M : Int) ^ s ≤ (M : Int) * (M : Int) ^ s := Int.mul_le_mul_of_nonneg_right (by omega) (by omega)
  rw [Int.add_mul] at h3
  rw [Int.pow_succ, Int.mul_comm ((M : Int) ^ s)]
  exact ⟨by omega, by omega, by rw [Int.add_mul_emod_self_right, Int.emod_eq_of_lt h0 h1]⟩
theorem pow_up {M : Nat} (hM : 2 ≤ M) {i j : Nat} (h : i ≤ j) : (M : Int) ^ i ≤ (M : Int) ^ j := by
  obtain ⟨d, rfl⟩ := Nat.exists_eq_add_of_le h
  rw [Int.pow_add]
  have h1 : (1 : Int) ≤ (M : Int) ^ d := Int.pow_pos (by omega)
  have h2 : (0 : Int) < (M : Int) ^ i := Int.pow_pos (by omega)
  have := Int.mul_le_mul_of_nonneg_left h1 (show 0 ≤ (M : Int) ^ i by omega)
  omega
theorem gvis_mem {M : Nat} {g : Int → Nat → Int} {k : Nat} (G : Grows M g k) : ∀ (d s : Nat) (r : Int), s + d = k → 0 ≤ r → r < (M : Int) ^ s → (∀ j, j < s → ¬ g r j < (M : Int) ^ j) →
    (∀ p : Int × Int, p ∈ (gvis M g k d s r).1 ↔ ∃ i : Nat, p.1 = (i : Int) ∧ s ≤ i ∧ i ≤ k ∧ 0 ≤ p.2 ∧ p.2 < (M : Int) ^ i ∧ p.2 % (M : Int) ^ s = r ∧ g p.2 i < (M : Int) ^ i ∧ ∀ j, j < i → ¬ g p.2 j < (M : Int) ^ j) ∧
    (∀ x : Int, x ∈ (gvis M g k d s r).2 ↔ 0 ≤ x ∧ x < (M : Int) ^ k ∧ x % (M : Int) ^ s = r ∧ ∀ j, j ≤ k → ¬ g x j < (M : Int) ^ j) := by
  have hM := G.two
  have hmp : (0 : Int) < (M : Int) := by omega
  -- what a number with the rest r tells of r
  have tell : ∀ (s : Nat) (r x : Int), 0 ≤ r → r < (M : Int) ^ s → x % (M : Int) ^ s = r → ∀ j, j ≤ s → g x j = g r j := by
    intro s r x h0 h1 h2 j hj
    exact G.congr _ _ _ (mod_pow_le hmp hj (by rw [h2, small_mod h0 h1]))
  have falls : ∀ (s : Nat) (r : Int), s ≤ k → 0 ≤ r → r < (M : Int) ^ s → (∀ j, j < s → ¬ g r j < (M : Int) ^ j) → g r s < (M : Int) ^ s →
      (∀ p : Int × Int, p ∈ [((s : Int), r)] ↔ ∃ i : Nat, p.1 = (i : Int) ∧ s ≤ i ∧ i ≤ k ∧ 0 ≤ p.2 ∧ p.2 < (M : Int) ^ i ∧ p.2 % (M : Int) ^ s = r ∧ g p.2 i < (M : Int) ^ i ∧ ∀ j, j < i → ¬ g p.2 j < (M : Int) ^ j) ∧
      (∀ x : Int, x ∈ ([] : List Int) ↔ 0 ≤ x ∧ x < (M : Int) ^ k ∧ x % (M : Int) ^ s = r ∧ ∀ j, j ≤ k → ¬ g x j < (M : Int) ^ j) := by
    intro s r hs h0 h1 hn hf
    refine ⟨fun p => ?_, fun x => ?_⟩
    · rw [List.mem_singleton]
      constructor
      · rintro rfl
        exact ⟨s, rfl, Nat.le_refl _, hs, h0, h1, small_mod h0 h1, hf, hn⟩
      · rintro ⟨i, e1, i1, i2, p0, p1, e2, f1, f2⟩
        have e3 : i = s := by
          rcases Nat.lt_or_ge s i with h | h
          · exact absurd (by rw [tell s r _ h0 h1 e2 s (Nat.le_refl _)]; exact hf) (f2 s h)
          · omega
        subst e3
        rw [small_mod p0 p1] at e2
        cases p
        simp only at e1 e2
        rw [e1, e2]
    · constructor
      · intro h; cases h
      · rintro ⟨-, -, e, h⟩
        exact absurd (by rw [tell s r _ h0 h1 e s (Nat.le_refl _)]; exact hf) (h s hs)
  intro d
  induction d with
  | zero =>
    intro s r hk h0 h1 hn
    unfold gvis
    split
    · rename_i hf
      exact falls s r (by omega) h0 h1 hn hf
    · rename_i hf
      have hsk : s = k := by omega
      subst hsk
      refine ⟨fun p => ?_, fun x => ?_⟩
      · constructor
        · intro h; cases h
        · rintro ⟨i, -, i1, i2, p0, p1, e2, f1, -⟩
          obtain rfl : i = s := by omega
          rw [small_mod p0 p1] at e2
          rw [e2] at f1
          exact absurd f1 hf
      · have hb := mem_below hM (d := 0) hk (x := x) h0 h1
        rw [Nat.pow_zero] at hb
        rw [hb]
        constructor
        · rintro ⟨x0, x1, e⟩
          refine ⟨x0, x1, e, fun j hj => ?_⟩
          rw [tell s r x h0 h1 e j hj]
          rcases Nat.lt_or_ge j s with h | h
          · exact hn j h
          · obtain rfl : j = s := by omega
            exact hf
        · rintro ⟨x0, x1, e, -⟩
          exact ⟨x0, x1, e⟩
  | succ d ih =>
    intro s r hk h0 h1 hn
    unfold gvis
    split
    · rename_i hf
      exact falls s r (by omega) h0 h1 hn hf
    · rename_i hf
      have hn2 : ∀ j, j ≤ s → ¬ g r j < (M : Int) ^ j := fun j hj => by
        rcases Nat.lt_or_ge j s with h | h
        · exact hn j h
        · obtain rfl : j = s := by omega
          exact hf
      split
      · rename_i hst
        have hno : ∀ x, x % (M : Int) ^ s = r → ∀ j, j ≤ k → ¬ g x j < (M : Int) ^ j := by
          intro x e j hj
          rcases Nat.lt_or_ge j s with h | h
          · rw [tell s r x h0 h1 e j (by omega)]; exact hn j h
          · exact G.stays x s j (by rw [tell s r x h0 h1 e s (Nat.le_refl _)]; exact hst) h hj
        refine ⟨fun p => ?_, fun x => ?_⟩
        · constructor
          · intro h; cases h
          · rintro ⟨i, -, i1, i2, p0, p1, e2, f1, -⟩
            exact absurd f1 (hno _ e2 i i2)
        · rw [mem_below hM hk h0 h1]
          exact ⟨fun h => ⟨h.1, h.2.1, h.2.2, hno x h.2.2⟩, fun h => ⟨h.1, h.2.1, h.2.2.1⟩⟩
      · have hc : ∀ t, t < M → _ := fun t ht => ih (s + 1) (r + (t : Int) * (M : Int) ^ s) (by omega) (child_bd hM h0 h1 ht).1 (child_bd hM h0 h1 ht).2.1 (fun j hj => by
          rw [tell s r _ h0 h1 (child_bd hM h0 h1 ht).2.2 j (by omega)]
          exact hn2 j (by omega))
        have up : ∀ (x : Int) (t : Nat), t < M → x % (M : Int) ^ (s + 1) = r + (t : Int) * (M : Int) ^ s → x % (M : Int) ^ s = r := by
          intro x t ht e
          have h2 := child_bd hM h0 h1 ht
          rw [← h2.2.2]
          exact mod_pow_le hmp (Nat.le_succ s) (by rw [e, small_mod h2.1 h2.2.1])
        have down : ∀ x : Int, x % (M : Int) ^ s = r → ∃ t, t < M ∧ x % (M : Int) ^ (s + 1) = r + (t : Int) * (M : Int) ^ s := by
          intro x e
          have h2 := Int.emod_nonneg (x / (M : Int) ^ s) (show (M : Int) ≠ 0 by omega)
          have h3 := Int.emod_lt_of_pos (x / (M : Int) ^ s) hmp
          refine ⟨(x / (M : Int) ^ s % (M : Int)).toNat, by omega, ?_⟩
          rw [mod_next hmp, e, Int.toNat_of_nonneg h2]
        refine ⟨fun p => ?_, fun x => ?_⟩
        · rw [List.mem_flatMap]
          constructor
          · rintro ⟨t, ht, hp⟩
            have ht := List.mem_range.1 ht
            obtain ⟨i, e1, i1, i2, p0, p1, e2, f1, f2⟩ := ((hc t ht).1 p).1 hp
            exact ⟨i, e1, by omega, i2, p0, p1, up _ t ht e2, f1, f2⟩
          · rintro ⟨i, e1, i1, i2, p0, p1, e2, f1, f2⟩
            have h3 : i ≠ s := by
              rintro rfl
              rw [small_mod p0 p1] at e2
              rw [e2] at f1
              exact hf f1
            obtain ⟨t, ht, e3⟩ := down _ e2
            exact ⟨t, List.mem_range.2 ht, ((hc t ht).1 p).2 ⟨i, e1, by omega, i2, p0, p1, e3, f1, f2⟩⟩
        · rw [List.mem_flatMap]
          constructor
          · rintro ⟨t, ht, hp⟩
            have ht := List.mem_range.1 ht
            obtain ⟨x0, x1, e2, f2⟩ := ((hc t ht).2 x).1 hp
            exact ⟨x0, x1, up _ t ht e2, f2⟩
          · rintro ⟨x0, x1, e2, f2⟩
            obtain ⟨t, ht, e3⟩ := down _ e2
            exact ⟨t, List.mem_range.2 ht, ((hc t ht).2 x).2 ⟨x0, x1, e3, f2⟩⟩
theorem below_nodup {r di : Int} (hd : 0 < di) (n : Nat) : (belowL r di n).Nodup := by
  unfold belowL
  refine List.Pairwise.map _ ?_ (List.nodup_range (n := n))
  intro a b h e
  apply h
  have : (a : Int) * di = (b : Int) * di := by omega
  have := Int.eq_of_mul_eq_mul_right (by omega) this
  omega
theorem gvis_nodup {M : Nat} {g : Int → Nat → Int} {k : Nat} (G : Grows M g k) : ∀ (d s : Nat) (r : Int), s + d = k → 0 ≤ r → r < (M : Int) ^ s → (∀ j, j < s → ¬ g r j < (M : Int) ^ j) →
    (gvis M g k d s r).1.Nodup ∧ (gvis M g k d s r).2.Nodup := by
  have hM := G.two
  have hmp : (0 : Int) < (M : Int) := by omega
  intro d
  induction d with
  | zero =>
    intro s r hk h0 h1 hn
    have hp : (0 : Int) < (M : Int) ^ s := Int.pow_pos (by omega)
    unfold gvis
    split
    · simp
    · exact ⟨List.nodup_nil, below_nodup hp _⟩
  | succ d ih =>
    intro s r hk h0 h1 hn
    have hp : (0 : Int) < (M : Int) ^ s := Int.pow_pos (by omega)
    unfold gvis
    split
    · simp
    · rename_i hf
      split
      · exact ⟨List.nodup_nil, below_nodup hp _⟩
      · have hn2 : ∀ t, t < M → ∀ j, j < s + 1 → ¬ g (r + (t : Int) * (M : Int) ^ s) j < (M : Int) ^ j := fun t ht j hj => by
          rw [G.congr (r + (t : Int) * (M : Int) ^ s) r j (mod_pow_le hmp (show j ≤ s by omega) (by rw [(child_bd hM h0 h1 ht).2.2, small_mod h0 h1]))]
          rcases Nat.lt_or_ge j s with h | h
          · exact hn j h
          · obtain rfl : j = s := by omega
            exact hf
        have hc := fun t (ht : t < M) => ih (s + 1) (r + (t : Int) * (M : Int) ^ s) (by omega) (child_bd hM h0 h1 ht).1 (child_bd hM h0 h1 ht).2.1 (hn2 t ht)
        have hm := fun t (ht : t < M) => gvis_mem G d (s + 1) (r + (t : Int) * (M : Int) ^ s) (by omega) (child_bd hM h0 h1 ht).1 (child_bd hM h0 h1 ht).2.1 (hn2 t ht)
        have ne : ∀ {t u : Nat}, t ≠ u → ∀ {x : Int}, x = r + (t : Int) * (M : Int) ^ s → x = r + (u : Int) * (M : Int) ^ s → False := by
          intro t u h x e1 e2
          apply h
          have : (t : Int) * (M : Int) ^ s = (u : Int) * (M : Int) ^ s := by omega
          have := Int.eq_of_mul_eq_mul_right (by omega) this
          omega
        constructor
        · unfold List.Nodup
          rw [List.pairwise_flatMap]
          refine ⟨fun t ht => (hc t (List.mem_range.1 ht)).1, ?_⟩
          refine List.Pairwise.imp_of_mem ?_ (List.nodup_range (n := M))
          intro t u ht hu h x hx y hy e
          subst e
          obtain ⟨_, -, -, -, -, -, e1, -⟩ := ((hm t (List.mem_range.1 ht)).1 x).1 hx
          obtain ⟨_, -, -, -, -, -, e2, -⟩ := ((hm u (List.mem_range.1 hu)).1 x).1 hy
          exact ne h e1 e2
        · unfold List.Nodup
          rw [List.pairwise_flatMap]
          refine ⟨fun t ht => (hc t (List.mem_range.1 ht)).2, ?_⟩
          refine List.Pairwise.imp_of_mem ?_ (List.nodup_range (n := M))
          intro t u ht hu h x hx y hy e
          subst e
          obtain ⟨-, -, e1, -⟩ := ((hm t (List.mem_range.1 ht)).2 x).1 hx
          obtain ⟨-, -, e2, -⟩ := ((hm u (List.mem_range.1 hu)).2 x).1 hy
          exact ne h e1 e2
/-- a strict total order -/
structure Strict {α : Type} (R : α → α → Prop) : Prop where
  trans : ∀ x y z, R x y → R y z → R x z
  tot : ∀ x y, R x y ∨ x = y ∨ R y x
  irr : ∀ x, ¬ R x x
theorem msort_strict {α : Type} {lt : α → α → Bool} {R : α → α → Prop} (h : ∀ x y, lt x y = true ↔ R x y) (S : Strict R) {l : List α} (hn : l.Nodup) :
    (l.mergeSort fun x y => !lt y x).Pairwise R ∧ ∀ x, x ∈ (l.mergeSort fun x y => !lt y x) ↔ x ∈ l := by
  have hs := List.pairwise_mergeSort (le := fun x y => !lt y x) (fun a b c h1 h2 => by
    simp only [Bool.not_eq_true', Bool.eq_false_iff, ne_eq] at h1 h2 ⊢
    rw [h] at h1 h2 ⊢
    intro h3
    rcases S.tot a b with h4 | h4 | h4
    · exact h2 (S.trans _ _ _ h3 h4)
    · subst h4; exact h2 h3
    · exact h1 h4) (fun a b => by
    rcases hb : lt b a with _ | _
    · simp
    · have h1 := (h _ _).1 hb
      rcases hc : lt a b with _ | _
      · simp
      · exact absurd (S.trans _ _ _ h1 ((h _ _).1 hc)) (S.irr _)) l
  have hp := List.mergeSort_perm l (fun x y => !lt y x)
  refine ⟨?_, fun x => hp.mem_iff⟩
  have hd : (l.mergeSort fun x y => !lt y x).Nodup := hp.nodup_iff.2 hn
  refine (hs.and hd).imp ?_
  rintro a b ⟨h1, h2⟩
  simp only [Bool.not_eq_true', Bool.eq_false_iff, ne_eq] at h1
  rw [h] at h1
  rcases S.tot a b with h4 | h4 | h4
  · exact h4
  · exact absurd h4 h2
  · exact absurd h4 h1
theorem strict_eq {α : Type} {R : α → α → Prop} (S : Strict R) : ∀ {l k : List α}, l.Pairwise R → k.Pairwise R → (∀ x, x ∈ l ↔ x ∈ k) → l = k
  | [], [], _, _, _ => rfl
  | [], b :: k, _, _, h => absurd ((h b).2 (by simp)) (by simp)
  | a :: l, [], _, _, h => absurd ((h a).1 (by simp)) (by simp)
  | a :: l, b :: k, h1, h2, h => by
    rw [List.pairwise_cons] at h1 h2
    have e : a = b := by
      have ha := (h a).1 (by simp)
      have hb := (h b).2 (by simp)
      rcases List.mem_cons.1 ha with e | ha
      · exact e
      rcases List.mem_cons.1 hb with e | hb
      · exact e.symm
      exact absurd (S.trans _ _ _ (h1.1 b hb) (h2.1 a ha)) (S.irr _)
    subst e
    rw [strict_eq S h1.2 h2.2 (fun x => ?_)]
    constructor
    · intro hx
      rcases List.mem_cons.1 ((h x).1 (by simp [hx])) with e | h3
      · subst e; exact absurd (h1.1 x hx) (S.irr _)
      · exact h3
    · intro hx
      rcases List.mem_cons.1 ((h x).2 (by simp [hx])) with e | h3
      · subst e; exact absurd (h2.1 x hx) (S.irr _)
      · exact h3
theorem strict_nodup {α : Type} {R : α → α → Prop} (S : Strict R) {l : List α} (h : l.Pairwise R) : l.Nodup := by
  unfold List.Nodup
  refine List.Pairwise.imp ?_ h
  intro a b h e
  subst e
  exact S.irr _ h
/-- one of a list at most is hit -/
theorem count_one {α : Type} [DecidableEq α] {p : α → Bool} : ∀ {l : List α}, l.Nodup → ∀ {a : α}, (∀ x ∈ l, p x = true ↔ x = a) → l.countP p = if p a = true ∧ a ∈ l then 1 else 0 := by
  intro l
  induction l with
  | nil => intro _ a _; simp
  | cons b l ih =>
    intro hn a h
    rw [List.nodup_cons] at hn
    have h1 := ih hn.2 (a := a) (fun x hx => h x (by simp [hx]))
    rw [List.countP_cons, h1]
    by_cases hb : b = a
    · subst hb
      have hp := (h b (by simp)).2 rfl
      rw [if_neg (fun (h : p b = true ∧ b ∈ l) => hn.1 h.2), if_pos hp, if_pos ⟨hp, by simp⟩]
    · have hp : ¬ p b = true := fun hp => hb ((h b (by simp)).1 hp)
      rw [if_neg hp]
      have : (p a = true ∧ a ∈ b :: l) ↔ (p a = true ∧ a ∈ l) := by
        constructor
        · rintro ⟨h1, h2⟩
          rcases List.mem_cons.1 h2 with e | h3
          · exact absurd e.symm hb
          · exact ⟨h1, h3⟩
        · rintro ⟨h1, h2⟩
          exact ⟨h1, by simp [h2]⟩
      simp only [this]
      rfl
theorem strict_I : Strict (fun (x y : Int) => x < y) := ⟨fun _ _ _ => Int.lt_trans, fun x y => by omega, fun x => Int.lt_irrefl x⟩
theorem strict_P : Strict (fun (p q : Int × Int) => p.1 < q.1 ∨ p.1 = q.1 ∧ p.2 < q.2) :=
  ⟨fun x y z h1 h2 => by omega, fun x y => by
    rcases x with ⟨a, b⟩
    rcases y with ⟨c, d⟩
    have : (a, b) = (c, d) ↔ a = c ∧ b = d := by simp
    rw [this]
    show (a < c ∨ a = c ∧ b < d) ∨ (a = c ∧ b = d) ∨ (c < a ∨ c = a ∧ d < b)
    omega, fun x => by omega⟩
theorem strict_at {α : Type} {R : α → α → Prop} {l : List α} (h : l.Pairwise R) {i j : Nat} (hij : i < j) {a b : α} (ha : l[i]? = some a) (hb : l[j]? = some b) : R a b := by
  rw [List.pairwise_iff_getElem] at h
  obtain ⟨hi, rfl⟩ := List.getElem?_eq_some_iff.1 ha
  obtain ⟨hj, rfl⟩ := List.getElem?_eq_some_iff.1 hb
  exact h i j hi hj hij
theorem vis_gvis (M : Nat) (us ad : List Int) (k : Nat) : ∀ (d s : Nat) (r : Int), vis M us ad k d s r = gvis M (fun X j => (lnX (M : Int) us ad X j).1) k d s r
  | 0, s, r => by unfold vis gvis; rfl
  | d + 1, s, r => by
    unfold vis gvis
    simp only [vis_gvis M us ad k d]
theorem grows_lnX {M : Nat} {us ad : List Int} (hM : mapP (M : Int) us ad) (k : Nat) : Grows M (fun X j => (lnX (M : Int) us ad X j).1) k where
  two := by have := hM.1; omega
  congr := fun X Y s h => by
    show (lineI _ us ad (wordI _ us ad s X)).1 = (lineI _ us ad (wordI _ us ad s Y)).1
    rw [wordI_congr (by have := hM.1; omega) h]
  stays := fun X s j h h1 h2 => no_fall hM h j h1 h2
theorem lnX_cg {m : Int} {us ad : List Int} (hm : 0 < m) {X Y : Int} {s : Nat} (h : X % m ^ s = Y % m ^ s) : lnX m us ad X s = lnX m us ad Y s := by
  unfold lnX
  rw [wordI_congr hm h]
theorem falls_congr {m : Int} {us ad : List Int} (hm : 0 < m) {X Y : Int} {s : Nat} (h : X % m ^ s = Y % m ^ s) : FallsAt m us ad X s ↔ FallsAt m us ad Y s := by
  unfold FallsAt
  rw [lnX_cg hm h]
theorem falls_zero (m : Int) (us ad : List Int) (X : Int) : ¬ FallsAt m us ad X 0 := by
  show ¬ (1 : Int) < m ^ 0
  rw [Int.pow_zero]; omega
/-- the falls of a sieve -/
def InF (m : Int) (us ad : List Int) (k : Nat) (p : Int × Int) : Prop := ∃ i : Nat, p.1 = (i : Int) ∧ 1 ≤ i ∧ i ≤ k ∧ 0 ≤ p.2 ∧ p.2 < m ^ i ∧ FallsAt m us ad p.2 i ∧ ∀ j, j < i → ¬ FallsAt m us ad p.2 j
/-- the rests that are left -/
def InL (m : Int) (us ad : List Int) (k : Nat) (x : Int) : Prop := 0 ≤ x ∧ x < m ^ k ∧ ∀ j, j ≤ k → ¬ FallsAt m us ad x j
theorem lt_FP (x y : Int × Int) : ltOf cmpP x y = true ↔ (x.1 < y.1 ∨ x.1 = y.1 ∧ x.2 < y.2) := by rw [lt_P]; simp
theorem lt_I (x y : Int) : ltOf Lib.compareInt x y = true ↔ x < y := by rw [lt_int]; simp
theorem sieve_falls {M : Nat} {us ad : List Int} (hM : mapP (M : Int) us ad) (k : Nat) :
    (srtF (vis M us ad k k 0 0).1).Pairwise (fun p q => p.1 < q.1 ∨ p.1 = q.1 ∧ p.2 < q.2) ∧ ∀ p, p ∈ srtF (vis M us ad k k 0 0).1 ↔ InF (M : Int) us ad k p := by
  have G := grows_lnX hM k
  have h0 : (0 : Int) < (M : Int) ^ 0 := by simp
  have hz : ∀ j, j < 0 → ¬ (fun X j => (lnX (M : Int) us ad X j).1) 0 j < (M : Int) ^ j := fun j h => absurd h (Nat.not_lt_zero j)
  have h1 := gvis_mem G k 0 0 (by omega) (Int.le_refl 0) h0 hz
  have h2 := gvis_nodup G k 0 0 (by omega) (Int.le_refl 0) h0 hz
  rw [← vis_gvis] at h1 h2
  have h3 := msort_strict lt_FP strict_P h2.1
  refine ⟨h3.1, fun p => (h3.2 p).trans ((h1.1 p).trans ?_)⟩
  constructor
  · rintro ⟨i, e1, -, i2, p0, p1, -, f1, f2⟩
    refine ⟨i, e1, ?_, i2, p0, p1, f1, f2⟩
    rcases Nat.eq_zero_or_pos i with h | h
    · subst h; exact absurd f1 (falls_zero _ us ad _)
    · exact h
  · rintro ⟨i, e1, i1, i2, p0, p1, f1, f2⟩
    exact ⟨i, e1, by omega, i2, p0, p1, by rw [Int.pow_zero, Int.emod_one], f1, f2⟩
theorem sieve_left {M : Nat} {us ad : List Int} (hM : mapP (M : Int) us ad) (k : Nat) :
    (srtI (vis M us ad k k 0 0).2).Pairwise (fun x y => x < y) ∧ ∀ x, x ∈ srtI (vis M us ad k k 0 0).2 ↔ InL (M : Int) us ad k x := by
  have G := grows_lnX hM k
  have h0 : (0 : Int) < (M : Int) ^ 0 := by simp
  have hz : ∀ j, j < 0 → ¬ (fun X j => (lnX (M : Int) us ad X j).1) 0 j < (M : Int) ^ j := fun j h => absurd h (Nat.not_lt_zero j)
  have h1 := gvis_mem G k 0 0 (by omega) (Int.le_refl 0) h0 hz
  have h2 := gvis_nodup G k 0 0 (by omega) (Int.le_refl 0) h0 hz
  rw [← vis_gvis] at h1 h2
  have h3 := msort_strict lt_I strict_I h2.2
  refine ⟨h3.1, fun x => (h3.2 x).trans ((h1.2 x).trans ?_)⟩
  constructor
  · rintro ⟨x0, x1, -, f⟩
    exact ⟨x0, x1, f⟩
  · rintro ⟨x0, x1, f⟩
    exact ⟨x0, x1, by rw [Int.pow_zero, Int.emod_one], f⟩
/-- whether a number has the rest of a fall -/
def hitP (m X : Int) (p : Int × Int) : Bool := decide (X % m ^ p.1.toNat = p.2)
theorem rest_of_pow {m : Int} (hm : 0 < m) (X : Int) {j i : Nat} (h : j ≤ i) : (X % m ^ i) % m ^ j = X % m ^ j :=
  Int.emod_emod_of_dvd X ⟨m ^ (i - j), by rw [← Int.pow_add]; congr 1; omega⟩
/-- who falls has one fall, and is not left -/
theorem hits_yes {M : Nat} {us ad : List Int} (hM : mapP (M : Int) us ad) {k i : Nat} {X : Int} (h1 : 1 ≤ i) (h2 : i ≤ k) (hf : FallsAt (M : Int) us ad X i) (hn : ∀ j, 1 ≤ j → j < i → ¬ FallsAt (M : Int) us ad X j) :
    (∀ p, p ∈ srtF (vis M us ad k k 0 0).1 → (hitP (M : Int) X p = true ↔ p = ((i : Int), X % (M : Int) ^ i))) ∧ (srtF (vis M us ad k k 0 0).1).countP (hitP (M : Int) X) = 1 ∧ (X % (M : Int) ^ k) ∉ srtI (vis M us ad k k 0 0).2 := by
  have hm : (0 : Int) < (M : Int) := by have := hM.1; omega
  have hn0 : ∀ j, j < i → ¬ FallsAt (M : Int) us ad X j := fun j hj => by
    rcases Nat.eq_zero_or_pos j with h | h
    · subst h; exact falls_zero _ us ad _
    · exact hn j h hj
  have hp : ∀ s : Nat, (0 : Int) < (M : Int) ^ s := fun s => Int.pow_pos hm
  have hb : ∀ s : Nat, 0 ≤ X % (M : Int) ^ s ∧ X % (M : Int) ^ s < (M : Int) ^ s := fun s => ⟨Int.emod_nonneg _ (by have := hp s; omega), Int.emod_lt_of_pos _ (hp s)⟩
  have hF := sieve_falls hM k
  have hit : ∀ p, p ∈ srtF (vis M us ad k k 0 0).1 → (hitP (M : Int) X p = true ↔ p = ((i : Int), X % (M : Int) ^ i)) := by
    intro p hpm
    obtain ⟨i', e1, i1, i2, p0, p1, f1, f2⟩ := (hF.2 p).1 hpm
    obtain ⟨a, b⟩ := p
    simp only at e1 p0 p1 f1 f2
    subst e1
    unfold hitP
    rw [decide_eq_true_iff]
    show X % (M : Int) ^ (((i' : Nat) : Int)).toNat = b ↔ _
    rw [Int.toNat_natCast]
    constructor
    · intro e
      have e2 : i' = i := by
        have g1 : FallsAt (M : Int) us ad X i' := (falls_congr hm (by rw [← e, rest_of_pow hm X (Nat.le_refl _)])).1 f1
        rcases Nat.lt_trichotomy i' i with h | h | h
        · exact absurd g1 (hn0 i' h)
        · exact h
        · exact absurd ((falls_congr hm (by rw [← e, rest_of_pow hm X (show i ≤ i' by omega)])).2 hf) (f2 i h)
      subst e2
      rw [e]
    · intro e
      injection e with e3 e4
      have : i' = i := by omega
      subst this
      exact e4.symm
  refine ⟨hit, ?_, ?_⟩
  · have hmem : ((i : Int), X % (M : Int) ^ i) ∈ srtF (vis M us ad k k 0 0).1 := by
      refine (hF.2 _).2 ⟨i, rfl, h1, h2, (hb i).1, (hb i).2, (falls_congr hm (rest_of_pow hm X (Nat.le_refl _))).2 hf, fun j hj h => hn0 j hj ((falls_congr hm (rest_of_pow hm X (show j ≤ i by omega))).1 h)⟩
    rw [count_one (strict_nodup strict_P hF.1) hit, if_pos ⟨(hit _ hmem).2 rfl, hmem⟩]
  · intro h
    obtain ⟨-, -, h3⟩ := ((sieve_left hM k).2 _).1 h
    exact h3 i h2 ((falls_congr hm (rest_of_pow hm X h2)).2 hf)
/-- who does not fall is left, and has no fall -/
theorem hits_no {M : Nat} {us ad : List Int} (hM : mapP (M : Int) us ad) {k : Nat} {X : Int} (hn : ∀ j, 1 ≤ j → j ≤ k → ¬ FallsAt (M : Int) us ad X j) :
    (∀ p, p ∈ srtF (vis M us ad k k 0 0).1 → ¬ hitP (M : Int) X p = true) ∧ (X % (M : Int) ^ k) ∈ srtI (vis M us ad k k 0 0).2 := by
  have hm : (0 : Int) < (M : Int) := by have := hM.1; omega
  have hp : (0 : Int) < (M : Int) ^ k := Int.pow_pos hm
  have hn0 : ∀ j, j ≤ k → ¬ FallsAt (M : Int) us ad X j := fun j hj => by
    rcases Nat.eq_zero_or_pos j with h | h
    · subst h; exact falls_zero _ us ad _
    · exact hn j h hj
  constructor
  · intro p hpm h
    obtain ⟨i', e1, i1, i2, p0, p1, f1, f2⟩ := ((sieve_falls hM k).2 p).1 hpm
    unfold hitP at h
    rw [decide_eq_true_iff, e1, Int.toNat_natCast] at h
    exact hn0 i' i2 ((falls_congr hm (by rw [← h, rest_of_pow hm X (Nat.le_refl _)])).1 f1)
  · exact ((sieve_left hM k).2 _).2 ⟨Int.emod_nonneg _ (by omega), Int.emod_lt_of_pos _ hp, fun j hj h => hn0 j hj ((falls_congr hm (rest_of_pow hm X hj)).1 h)⟩
end Go.Proofs.YtleccblkafcidaaGreatDoor
