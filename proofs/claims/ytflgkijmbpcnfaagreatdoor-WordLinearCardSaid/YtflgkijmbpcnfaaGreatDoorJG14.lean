/- Joined texts: the reference's Div; the reference of layer 2: Rest, Step; the reference's Run. -/
import Derived.Test.YtflgkijmbpcnfaaGreatDoorJG13
import Derived.Test.YtflgkijmbpcnfaaGreatDoorJG04
import Derived.Test.YtflgkijmbpcnfaaGreatDoorJG12
import Derived.Test.YtflgkijmbpcnfaaGreatDoorJG08
import Derived.Test.YtflgkijmbpcnfaaGreatDoorJG07
import Derived.Deep.RegionHeld3
import Derived.Deep.DeepCutAuto
import Derived.Test.YtflgkijmbpcnfaaGreatDoorJG11
set_option linter.unusedSimpArgs false
set_option linter.unusedVariables false
/- the reference's Div -/
namespace Go.Proofs.YtflgkijmbpcnfaaGreatDoor
open Go.RowKit
def RPair (q r : Int) (w : World) (e : Ending) (w' : World) : Prop := ∃ v1 v2, e = .returned (.tuple #[v1, v2]) ∧ RefV w' v1 q ∧ RefV w' v2 r ∧ Ext w w'
/-- a number survives a store into another's box -/
theorem RefV.box {w : World} {v : Value} {q : Int} {A1 : Option Addr} {H k1 c1 : Nat} {t : TypeId} {x : Bool} {a b : Value} (h : RefV w v q) (r : Row w H t [.bool x, .slice A1 k1 c1]) :
    RefV ((w.setCell ⟨H, 0, none⟩ a).setCell ⟨H, 1, none⟩ b) v q := by
  obtain ⟨A', k', c', xs, b', rfl, h1, h2, h3, h4, h5, h6⟩ := h
  exact ⟨_, _, _, xs, _, rfl, h1, h2, h3, RefV.two h4 r, h5, h6⟩
theorem RPair.stored {w w3 : World} {q r : Int} {v1 v2 : Value} {b1 b2 : Bool} {A1 A2 : Option Addr} {k1 c1 k2 c2 H : Nat} {t : TypeId} (r1 : Row w3 H t [.bool false, .slice none 0 0]) (r2 : Row w3 (H + 1) t [.bool false, .slice none 0 0])
    (hw : Ext w w3) (hH : w.heap.size ≤ H) (h1 : RefV w3 v1 q) (h2 : RefV w3 v2 r) (e1 : v1 = .agg #[.bool b1, .slice A1 k1 c1]) (e2 : v2 = .agg #[.bool b2, .slice A2 k2 c2]) :
    RPair q r w (.returned (.tuple #[.agg #[.bool b1, .slice A1 k1 c1], .agg #[.bool b2, .slice A2 k2 c2]]))
      ((((w3.setCell ⟨H, 0, none⟩ (.bool b1)).setCell ⟨H, 1, none⟩ (.slice A1 k1 c1)).setCell ⟨H + 1, 0, none⟩ (.bool b2)).setCell ⟨H + 1, 1, none⟩ (.slice A2 k2 c2)) := by
  subst e1 e2
  have r2' : Row ((w3.setCell ⟨H, 0, none⟩ (.bool b1)).setCell ⟨H, 1, none⟩ (.slice A1 k1 c1)) (H + 1) t [.bool false, .slice none 0 0] :=
    (r2.far (by show H + 1 ≠ H; omega) _).far (by show H + 1 ≠ H; omega) _
  exact ⟨_, _, rfl, (h1.box r1).box r2', (h2.box r1).box r2',
    (((hw.set' (by show _ ≤ H; omega) _).set' (by show _ ≤ H; omega) _).set' (by show _ ≤ H + 1; omega) _).set' (by show _ ≤ H + 1; omega) _⟩
theorem far2 {w : World} {H i g j : Nat} {u : Value} (h : H ≠ g) : (w.setCell ⟨H, i, none⟩ u).cell? ⟨g, j, none⟩ = w.cell? ⟨g, j, none⟩ := World.cell?_setCell_far _ _ _ _ h
theorem RPair.drew {w w' : World} {q r : Int} {e : Ending} (h : RPair q r w e w') : RPair q r w e w'.drew := by
  obtain ⟨v1, v2, h1, h2, h3, h4⟩ := h
  exact ⟨v1, v2, h1, h2.ext (Ext.rfl' _).drew', h3.ext (Ext.rfl' _).drew', h4.drew'⟩
set_option maxRecDepth 100000 in
set_option maxHeartbeats 6400000 in
theorem rdiv_any (va vb : Value) (a : Int) (b : Nat) (w : World) (ha : RefV w va a) (hb : RefV w vb (b : Int)) (la : a.natAbs ≤ BIG) (lb : b ≤ BIG) (hb0 : 0 < b) :
    Calls Tryz.prog 52 #[va, vb] w (RPair (a / b) (a % b) w) := by
  have HA := hid ha
  have HB := hid hb
  obtain ⟨A, ka, ca, xs, na, rfl, HNA, hla, hca, hra, hLa, hva⟩ := ha
  obtain ⟨B, kb, cb, ys, nb, rfl, -⟩ := hb
  have hW4 : Ext w ((((w.alloc (.cells #[.bool na, .slice A ka ca] 34)).alloc (.cells #[.bool nb, .slice B kb cb] 34)).alloc (.cells #[.bool false, .slice none 0 0] 34)).alloc (.cells #[.bool false, .slice none 0 0] 34)) := ((((Ext.rfl' w).alloc' _).alloc' _).alloc' _).alloc' _
  have hk := fun w' (e : Ext ((((w.alloc (.cells #[.bool na, .slice A ka ca] 34)).alloc (.cells #[.bool nb, .slice B kb cb] 34)).alloc (.cells #[.bool false, .slice none 0 0] 34)).alloc (.cells #[.bool false, .slice none 0 0] 34)) w') => four e
  obtain ⟨W4, hW4e⟩ : ∃ W4, ((((w.alloc (.cells #[.bool na, .slice A ka ca] 34)).alloc (.cells #[.bool nb, .slice B kb cb] 34)).alloc (.cells #[.bool false, .slice none 0 0] 34)).alloc (.cells #[.bool false, .slice none 0 0] 34)) = W4 := ⟨_, rfl⟩
  have hsz : W4.heap.size = w.heap.size + 1 + 1 + 1 + 1 := by rw [← hW4e]; simp
  rw [hW4e] at hW4
  rw [hW4e] at hk
  have hrq : Row ((W4.alloc (.cells #[.bool false, .slice none 0 0] 34)).alloc (.cells #[.bool false, .slice A ka ca] 34)) (w.heap.size + 1 + 1 + 1 + 1) 34 [.bool false, .slice none 0 0] := by
    have := Row.alloc (Row.new W4 34 [.bool false, .slice none 0 0]) (.cells #[.bool false, .slice A ka ca] 34)
    rwa [hsz] at this
  have hrr : Row ((W4.alloc (.cells #[.bool false, .slice none 0 0] 34)).alloc (.cells #[.bool false, .slice A ka ca] 34)) (w.heap.size + 1 + 1 + 1 + 1 + 1) 34 [.bool false, .slice A ka ca] := by
    have := Row.new (W4.alloc (.cells #[.bool false, .slice none 0 0] 34)) 34 [.bool false, .slice A ka ca]
    rwa [World.size_alloc, hsz] at this
  have hx6 : Ext W4 ((W4.alloc (.cells #[.bool false, .slice none 0 0] 34)).alloc (.cells #[.bool false, .slice A ka ca] 34)) := ((Ext.rfl' W4).alloc' _).alloc' _
  have hvr : RefV ((W4.alloc (.cells #[.bool false, .slice none 0 0] 34)).alloc (.cells #[.bool false, .slice A ka ca] 34)) (.agg #[.bool false, .slice A ka ca]) (a.natAbs : Int) :=
    ⟨A, ka, ca, xs, false, rfl, hid (by symm; exact decide_eq_false (by omega)), hla, hca, (hra.ext hW4).ext hx6, hLa, by rw [hva, Int.natAbs_natCast]⟩
  have hvq : RefV ((W4.alloc (.cells #[.bool false, .slice none 0 0] 34)).alloc (.cells #[.bool false, .slice A ka ca] 34)) (.agg #[.bool false, .slice none 0 0]) ((0 : Nat) : Int) :=
    ⟨none, 0, 0, [], false, rfl, hid (by rfl), rfl, Nat.le_refl _, Rd.nil _ _, K.Lim.nil, rfl⟩
  have HK := hid hk
  have HSZ := hid hsz
  have HW4 := hid hW4
  have HE := hid hW4e
  have HRQ := hid hrq
  have HRR := hid hrr
  have HX6 := hid hx6
  have HVR := hid hvr
  have HVQ := hid hvq
  obtain ⟨⟨k0, k1, k2, k3⟩, -⟩ := hk _ (Ext.rfl' _)
  clear hra hla hLa hva hW4 hk hsz hW4e hrq hrr hx6 hvr hvq
  go_enter Tryz.func52, Tryz.ntmps52
  go_upto_region 1 with fail
  rw [HE.out]
  have hx5 : Ext W4 (W4.alloc (.cells #[.bool false, .slice none 0 0] 34)) := (Ext.rfl' W4).alloc' _
  obtain ⟨W5, hW5⟩ : ∃ W5, W4.alloc (.cells #[.bool false, .slice none 0 0] 34) = W5 := ⟨_, rfl⟩
  rw [hW5] at hx5 HRQ HRR HX6 HVR HVQ
  have HW5 := hid hW5
  have hsz5 : W5.heap.size = w.heap.size + 1 + 1 + 1 + 1 + 1 := by rw [← hW5, World.size_alloc, HSZ.out]
  have HSZ5 := hid hsz5
  clear k0 k1 k2 k3 hW5 hsz5
  obtain ⟨⟨k0, k1, k2, k3⟩, -⟩ := HK.out _ hx5
  go_upto_region 2 with fail
  rw [HW5.out, HSZ.out]
  go_wp2_with fail
  clear k0 k1 k2 k3
  rw [HSZ5.out]
  go_loopg [8] a.natAbs (fun g _ wr => ∃ (Q R : Nat) (bq br : Bool) (Aq Ar : Option Addr) (kq cq kr cr : Nat), R = g ∧ Row wr (w.heap.size + 1 + 1 + 1 + 1) 34 [.bool bq, .slice Aq kq cq] ∧ Row wr (w.heap.size + 1 + 1 + 1 + 1 + 1) 34 [.bool br, .slice Ar kr cr] ∧
      RefV wr (.agg #[.bool bq, .slice Aq kq cq]) (Q : Int) ∧ RefV wr (.agg #[.bool br, .slice Ar kr cr]) (R : Int) ∧ Hid (Q * b + R = a.natAbs) ∧ Ext W4 wr)
  case atStart => exact ⟨0, a.natAbs, _, _, _, _, _, _, _, _, rfl, HRQ.out, HRR.out, HVQ.out, HVR.out, hid (by simp), HX6.out⟩
  case round =>
    obtain ⟨Q, R, bq, br, Aq, Ar, kq, cq, kr, cr, rfl, hrq, hrr, hvq, hvr, HQR, hex⟩ := hrel
    have HRBIG : Hid (R ≤ BIG) := hid (by have := HQR.out; omega)
    have HQBIG : Hid (Q ≤ BIG) := hid (by have := HQR.out; have := Nat.le_mul_of_pos_right Q hb0; omega)
    have HRQ := hid hrq
    have HRR := hid hrr
    have HVQ := hid hvq
    have HVR := hid hvr
    obtain ⟨⟨k0, k1, k2, k3⟩, -⟩ := HK.out _ hex
    obtain ⟨q0, q1, -, -⟩ := row_facts hrq
    obtain ⟨r0, r1, -, -⟩ := row_facts hrr
    clear hrq hrr hvq hvr HX6
    by_cases hlt : R < b
    · have hsv : sgnI (R : Int) (b : Int) = -1 := by unfold sgnI; rw [if_pos (by omega)]
      have HSV := hid hsv
      clear hsv
      go_wp2_with fail
      refine (rcmp_any _ _ (R : Int) (b : Int) wr HVR.out ((HB.out.ext HW4.out).ext hex) (by rw [Int.natAbs_natCast]; exact HRBIG.out) (by rw [Int.natAbs_natCast]; exact lb)).mono ?_
      rintro e w5 ⟨rfl, hx5⟩
      rw [HSV.out]
      have hqv : Q = a.natAbs / b ∧ R = a.natAbs % b := by
        have e := HQR.out
        have h1 : a.natAbs / b = Q := by
          rw [← e, Nat.mul_comm, Nat.mul_add_div (by omega), Nat.div_eq_of_lt hlt]; rfl
        have h2 : a.natAbs % b = R := by rw [← e, Nat.mul_comm, Nat.mul_add_mod, Nat.mod_eq_of_lt hlt]
        exact ⟨h1.symm, h2.symm⟩
      have HQV := hid hqv
      have hex5 := hex.step hx5
      have HEX5 := hid hex5
      have HRQ5 := hid (HRQ.out.ext hx5)
      have HRR5 := hid (HRR.out.ext hx5)
      have HVQ5 := hid (HVQ.out.ext hx5)
      have HVR5 := hid (HVR.out.ext hx5)
      have HWW5 := hid (HW4.out.step hex5)
      clear k0 k1 k2 k3 q0 q1 r0 r1 HRQ HRR HVQ HVR hex hx5 hqv
      obtain ⟨⟨k0, k1, k2, k3⟩, s1, s2, hlen⟩ := HK.out _ hex5
      obtain ⟨q0, q1, -, -⟩ := row_facts HRQ5.out
      obtain ⟨r0, r1, -, -⟩ := row_facts HRR5.out
      have S1 := hid s1
      have S2 := hid s2
      obtain ⟨x0, x1, x2, x3⟩ := row_facts s1
      obtain ⟨y0, y1, y2, y3⟩ := row_facts s2
      clear s1 s2 hex5
      have n1 : ¬ (w.heap.size + 1 + 1 = w.heap.size + 1 + 1 + 1 + 1) := by omega
      have n2 : ¬ (w.heap.size + 1 + 1 = w.heap.size + 1 + 1 + 1 + 1 + 1) := by omega
      have n3 : ¬ (w.heap.size + 1 + 1 + 1 = w.heap.size + 1 + 1 + 1 + 1) := by omega
      have n4 : ¬ (w.heap.size + 1 + 1 + 1 = w.heap.size + 1 + 1 + 1 + 1 + 1) := by omega
      have n5 : ¬ (w.heap.size + 1 + 1 = w.heap.size + 1) := by omega
      have n6 : ¬ (w.heap.size + 1 + 1 + 1 = w.heap.size + 1) := by omega
      have m1 : ¬ (w.heap.size + 1 + 1 + 1 + 1 = w.heap.size + 1 + 1) := by omega
      have m2 : ¬ (w.heap.size + 1 + 1 + 1 + 1 + 1 = w.heap.size + 1 + 1) := by omega
      have m3 : ¬ (w.heap.size + 1 + 1 + 1 + 1 = w.heap.size + 1 + 1 + 1) := by omega
      have m4 : ¬ (w.heap.size + 1 + 1 + 1 + 1 + 1 = w.heap.size + 1 + 1 + 1) := by omega
      have m5 : ¬ (w.heap.size + 1 = w.heap.size + 1 + 1) := by omega
      have m6 : ¬ (w.heap.size + 1 = w.heap.size + 1 + 1 + 1) := by omega
      cases na with
      | false =>
        have ha0 : 0 ≤ a := by have := HNA.out; simpa using this.symm
        have e1 : a / (b : Int) = (Q : Int) := by rw [HQV.out.1, Int.natCast_ediv]; congr 1; omega
        have e2 : a % (b : Int) = (R : Int) := by rw [HQV.out.2, Int.natCast_emod]; congr 1; omega
        have E1 := hid e1
        have E2 := hid e2
        clear e1 e2 ha0
        go_wp2_with fail
        go_region_held3 (fun w' => w'.cell? ⟨w.heap.size + 1 + 1 + 1 + 1, 0, none⟩ = some (.bool bq) ∧ w'.cell? ⟨w.heap.size + 1 + 1 + 1 + 1, 1, none⟩ = some (.slice Aq kq cq) ∧ w'.cell? ⟨w.heap.size + 1 + 1 + 1 + 1 + 1, 0, none⟩ = some (.bool br) ∧ w'.cell? ⟨w.heap.size + 1 + 1 + 1 + 1 + 1, 1, none⟩ = some (.slice Ar kr cr)) (go_keep) (fail)
        have hfin := (RPair.stored (q := a / (b : Int)) (r := a % (b : Int)) S1.out S2.out HWW5.out (by omega) (by rw [E1.out]; exact HVQ5.out) (by rw [E2.out]; exact HVR5.out) rfl rfl).drew
        have HF := hid hfin
        clear hfin
        go_wp2
        refine bodyPost_ret (v := .tuple #[.agg #[.bool bq, .slice Aq kq cq], .agg #[.bool br, .slice Ar kr cr]]) (by simp [results, Tryz.results52, go_sem, x0, x1, y0, y1]) rfl HF.out
      | true =>
        have ha0 : a < 0 := by have := HNA.out; simpa using this.symm
        have HKQ : Hid (∀ w', Ext w5 w' → w'.cell? ⟨w.heap.size + 1 + 1 + 1 + 1, 0, none⟩ = some (.bool bq) ∧ w'.cell? ⟨w.heap.size + 1 + 1 + 1 + 1, 1, none⟩ = some (.slice Aq kq cq) ∧ w'.cell? ⟨w.heap.size + 1 + 1 + 1 + 1 + 1, 0, none⟩ = some (.bool br) ∧ w'.cell? ⟨w.heap.size + 1 + 1 + 1 + 1 + 1, 1, none⟩ = some (.slice Ar kr cr)) := hid fun w' e => by
          obtain ⟨a0, a1, -, -⟩ := row_facts (HRQ5.out.ext e)
          obtain ⟨b0, b1, -, -⟩ := row_facts (HRR5.out.ext e)
          exact ⟨a0, a1, b0, b1⟩
        have hcur : Ext w5 w5 := Ext.rfl' _
        by_cases hr0 : R = 0
        · subst hr0
          have hv := div_neg (n := (b : Int)) ha0 (by omega) (by rw [Int.natAbs_natCast]; exact HQV.out.2.symm)
          rw [Int.natAbs_natCast, ← HQV.out.1] at hv
          have HVD := hid hv
          clear hv ha0
          go_wp2_with fail
          refine (rsign_at0 w5 HVR5.out (hid (show sgn0 ((0 : Nat) : Int) = 0 from rfl))).mono ?_
          rintro e w6 ⟨rfl, hx6⟩
          have hcur := hx6
          clear x0 x1 x2 x3 y0 y1 y2 y3 q0 q1 r0 r1 k0 k1 k2 k3
          obtain ⟨q0, q1, r0, r1⟩ := HKQ.out _ hcur
          obtain ⟨x0, x1, x2, x3⟩ := row_facts (S1.out.ext hcur)
          obtain ⟨y0, y1, y2, y3⟩ := row_facts (S2.out.ext hcur)
          go_wp2_with fail
          go_region_held3 (fun w' => w'.cell? ⟨w.heap.size + 1 + 1 + 1 + 1, 0, none⟩ = some (.bool bq) ∧ w'.cell? ⟨w.heap.size + 1 + 1 + 1 + 1, 1, none⟩ = some (.slice Aq kq cq) ∧ w'.cell? ⟨w.heap.size + 1 + 1 + 1 + 1 + 1, 0, none⟩ = some (.bool br) ∧ w'.cell? ⟨w.heap.size + 1 + 1 + 1 + 1 + 1, 1, none⟩ = some (.slice Ar kr cr)) (first | go_keep | exact HKQ.out _ hcur)
            (first | (go_at_call 68; refine (rminus_any _ (Q : Int) _ (HVQ5.out.ext ?_)).mono ?_; (first | exact hcur | exact hcur.drew'); rintro e w7 ⟨v7, rfl, hv7, hx⟩; have hcur := Ext.step hcur (by first | exact hx | exact Ext.undrew hx); have HV7 := hid hv7; obtain ⟨A7, k7, c7, xs7, b7, rfl, -⟩ := hv7; obtain ⟨x0, x1, x2, x3⟩ := row_facts (S1.out.ext hcur); obtain ⟨y0, y1, y2, y3⟩ := row_facts (S2.out.ext hcur)))
          all_goals
            have hfin := RPair.stored (S1.out.ext hcur) (S2.out.ext hcur) (HWW5.out.step hcur) (by omega) (q := a / (b : Int)) (by rw [HVD.out.1]; exact HV7.out) (r := a % (b : Int)) (by rw [HVD.out.2]; exact HVR5.out.ext hcur) rfl rfl
            have HF := hid hfin
            clear hfin
            go_wp2
            refine bodyPost_ret (v := .tuple #[.agg #[.bool b7, .slice A7 k7 c7], .agg #[.bool br, .slice Ar kr cr]]) (by simp [results, Tryz.results52, go_sem, x0, x1, y0, y1]) rfl ?_
            first | exact HF.out | exact HF.out.drew
        · have hr1 : 0 < R := by omega
          have hv := div_neg' (n := (b : Int)) ha0 (by omega) (by rw [Int.natAbs_natCast, ← HQV.out.2]; exact hr1)
          rw [Int.natAbs_natCast, ← HQV.out.2, ← HQV.out.1] at hv
          have HVD := hid hv
          have hs1 : sgn0 ((R : Nat) : Int) = 1 := by unfold sgn0; rw [if_neg (by omega), if_neg (by omega)]
          have HS1 := hid hs1
          have hone : (1 : Int).natAbs ≤ BIG := by unfold BIG; rw [show (1000 : Nat) = 999 + 1 from rfl, zeros_succ, K.lv]; omega
          have HONE := hid hone
          have HQB : Hid ((Q : Int).natAbs ≤ BIG) := hid (by rw [Int.natAbs_natCast]; exact HQBIG.out)
          have HRB : Hid ((R : Int).natAbs ≤ BIG) := hid (by rw [Int.natAbs_natCast]; exact HRBIG.out)
          have HBB : Hid ((b : Int).natAbs ≤ BIG) := hid (by rw [Int.natAbs_natCast]; exact lb)
          have hrb : R ≤ b := by omega
          clear hv ha0 hr0 hs1 hone
          go_wp2_with fail
          refine (rsign_at0 w5 HVR5.out HS1).mono ?_
          rintro e w6 ⟨rfl, hx6⟩
          have hcur := hx6
          have HKB : Hid (∀ w', Ext w5 w' → w'.cell? ⟨w.heap.size + 1, 0, none⟩ = some (.bool nb) ∧ w'.cell? ⟨w.heap.size + 1, 1, none⟩ = some (.slice B kb cb)) := hid fun w' e => by
            obtain ⟨⟨-, -, b2, b3⟩, -⟩ := HK.out _ (HEX5.out.step e)
            exact ⟨b2, b3⟩
          clear x0 x1 x2 x3 y0 y1 y2 y3 q0 q1 r0 r1 k0 k1 k2 k3
          obtain ⟨q0, q1, r0, r1⟩ := HKQ.out _ hcur
          obtain ⟨k2, k3⟩ := HKB.out _ hcur
          obtain ⟨x0, x1, x2, x3⟩ := row_facts (S1.out.ext hcur)
          obtain ⟨y0, y1, y2, y3⟩ := row_facts (S2.out.ext hcur)
          have HB5 := hid (HB.out.ext HWW5.out)
          go_wp2_with fail
          go_region_held3 (fun w' => w'.cell? ⟨w.heap.size + 1, 0, none⟩ = some (.bool nb) ∧ w'.cell? ⟨w.heap.size + 1, 1, none⟩ = some (.slice B kb cb) ∧ w'.cell? ⟨w.heap.size + 1 + 1 + 1 + 1, 0, none⟩ = some (.bool bq) ∧ w'.cell? ⟨w.heap.size + 1 + 1 + 1 + 1, 1, none⟩ = some (.slice Aq kq cq) ∧ w'.cell? ⟨w.heap.size + 1 + 1 + 1 + 1 + 1, 0, none⟩ = some (.bool br) ∧ w'.cell? ⟨w.heap.size + 1 + 1 + 1 + 1 + 1, 1, none⟩ = some (.slice Ar kr cr)) (first | exact ⟨(HKB.out _ hcur).1, (HKB.out _ hcur).2, HKQ.out _ hcur⟩ | (refine ⟨?_, ?_, ?_, ?_, ?_, ?_⟩ <;> (repeat (rw [far2 (by omega)])) <;> (first | exact (HKB.out _ hcur).1 | exact (HKB.out _ hcur).2 | exact (HKQ.out _ hcur).1 | exact (HKQ.out _ hcur).2.1 | exact (HKQ.out _ hcur).2.2.1 | exact (HKQ.out _ hcur).2.2.2)) | go_keep)
            (first
              | (go_at_call 32; refine (of_one _).mono ?_; rintro e w7 ⟨v7, rfl, hv7, hx⟩; (try have HV10 := hid (HV10.out.ext (w' := w7) (by first | exact hx | exact Ext.undrew hx))); have HV7 := hid hv7; obtain ⟨A7, k7, c7, xs7, b7, rfl, -⟩ := hv7; have hcur := Ext.step hcur (by first | exact hx | exact Ext.undrew hx); obtain ⟨x0, x1, x2, x3⟩ := row_facts (S1.out.ext hcur); obtain ⟨y0, y1, y2, y3⟩ := row_facts (S2.out.ext hcur))
              | (go_at_call 33; refine (radd_any _ _ (Q : Int) 1 _ (HVQ5.out.ext ?_) (HV7.out.ext ?_) HQB.out HONE.out).mono ?_; (first | exact hcur | exact hcur.drew'); (first | exact Ext.rfl' _ | exact (Ext.rfl' _).drew'); rintro e w8 ⟨v8, rfl, hv8, hx⟩; (try have HV10 := hid (HV10.out.ext (w' := w8) (by first | exact hx | exact Ext.undrew hx))); have HV8 := hid hv8; obtain ⟨A8, k8, c8, xs8, b8, rfl, -⟩ := hv8; have hcur := Ext.step hcur (by first | exact hx | exact Ext.undrew hx); obtain ⟨x0, x1, x2, x3⟩ := row_facts (S1.out.ext hcur); obtain ⟨y0, y1, y2, y3⟩ := row_facts (S2.out.ext hcur))
              | (go_at_call 68; refine (rminus_any _ ((Q : Int) + 1) _ (HV8.out.ext ?_)).mono ?_; (first | exact Ext.rfl' _ | exact (Ext.rfl' _).drew'); rintro e w9 ⟨v9, rfl, hv9, hx⟩; (try have HV10 := hid (HV10.out.ext (w' := w9) (by first | exact hx | exact Ext.undrew hx))); have HV9 := hid hv9; obtain ⟨A9, k9, c9, xs9, b9, rfl, -⟩ := hv9; have hcur := Ext.step hcur (by first | exact hx | exact Ext.undrew hx); obtain ⟨x0, x1, x2, x3⟩ := row_facts (S1.out.ext hcur); obtain ⟨y0, y1, y2, y3⟩ := row_facts (S2.out.ext hcur))
              | (go_at_call 36; refine (rsub_any _ _ (b : Int) (R : Int) _ (HB5.out.ext ?_) (HVR5.out.ext ?_) HBB.out HRB.out).mono ?_; (first | exact hcur | exact hcur.drew'); (first | exact hcur | exact hcur.drew'); rintro e w10 ⟨v10, rfl, hv10, hx⟩; (try have HV7 := hid (HV7.out.ext (w' := w10) (by first | exact hx | exact Ext.undrew hx))); (try have HV8 := hid (HV8.out.ext (w' := w10) (by first | exact hx | exact Ext.undrew hx))); (try have HV9 := hid (HV9.out.ext (w' := w10) (by first | exact hx | exact Ext.undrew hx))); have HV10 := hid hv10; obtain ⟨A10, k10, c10, xs10, b10, rfl, -⟩ := hv10; have hcur := Ext.step hcur (by first | exact hx | exact Ext.undrew hx); obtain ⟨x0, x1, x2, x3⟩ := row_facts (S1.out.ext hcur); obtain ⟨y0, y1, y2, y3⟩ := row_facts (S2.out.ext hcur)))
          all_goals
            have hv9 := HV9.out
            have hv10 := HV10.out
            rw [show -((Q : Int) + 1) = a / (b : Int) by rw [HVD.out.1]; omega] at hv9
            rw [show (b : Int) - (R : Int) = a % (b : Int) by rw [HVD.out.2, Int.ofNat_sub hrb]] at hv10
            have hfin := RPair.stored (S1.out.ext hcur) (S2.out.ext hcur) (HWW5.out.step hcur) (by omega) hv9 hv10 rfl rfl
            have HF := hid hfin
            clear hfin hv9 hv10
            go_wp2
            refine bodyPost_ret (v := .tuple #[.agg #[.bool b9, .slice A9 k9 c9], .agg #[.bool b10, .slice A10 k10 c10]]) (by simp [results, Tryz.results52, go_sem, x0, x1, y0, y1]) rfl ?_
            first | exact HF.out | exact HF.out.drew
    · have hsv : 0 ≤ sgnI (R : Int) (b : Int) := by unfold sgnI; rw [if_neg (by omega)]; split <;> omega
      obtain ⟨sv, hsv2⟩ : ∃ sv, sgnI (R : Int) (b : Int) = sv := ⟨_, rfl⟩
      rw [hsv2] at hsv
      have HSV := hid hsv2
      clear hsv2
      go_wp2_with fail
      refine (rcmp_any _ _ (R : Int) (b : Int) wr HVR.out ((HB.out.ext HW4.out).ext hex) (by rw [Int.natAbs_natCast]; exact HRBIG.out) (by rw [Int.natAbs_natCast]; exact lb)).mono ?_
      rintro e w5 ⟨rfl, hx5⟩
      rw [HSV.out]
      have hex5 := hex.step hx5
      have HRQ5 := hid (HRQ.out.ext hx5)
      have HRR5 := hid (HRR.out.ext hx5)
      have HVQ5 := hid (HVQ.out.ext hx5)
      have HVR5 := hid (HVR.out.ext hx5)
      clear k0 k1 k2 k3 q0 q1 r0 r1 HRQ HRR HVQ HVR hex hx5
      obtain ⟨⟨k0, k1, k2, k3⟩, -⟩ := HK.out _ hex5
      obtain ⟨r0, r1, -, -⟩ := row_facts HRR5.out
      go_wp2_with fail
      refine (rguess_any _ _ R b w5 HVR5.out ((HB.out.ext HW4.out).ext hex5) HRBIG.out hb0 (by omega)).mono ?_
      rintro e w6 ⟨vg, g, rfl, hvg, hg1, hgb, hx6⟩
      have HVG0 := hid hvg
      obtain ⟨Ag, kg, cg, xsg, bg, rfl, -⟩ := hvg
      have hx7 : Ext w5 (w6.alloc (.cells #[.bool bg, .slice Ag kg cg] 34)) := hx6.alloc' _
      have hx67 : Ext w6 (w6.alloc (.cells #[.bool bg, .slice Ag kg cg] 34)) := (Ext.rfl' w6).alloc' _
      have hrg : Row (w6.alloc (.cells #[.bool bg, .slice Ag kg cg] 34)) w6.heap.size 34 [.bool bg, .slice Ag kg cg] := Row.new w6 _ _
      have hgl : w.heap.size + 1 + 1 + 1 + 1 + 1 < w6.heap.size := (HRR5.out.ext hx6).lt
      obtain ⟨W7, hW7⟩ : ∃ W7, w6.alloc (.cells #[.bool bg, .slice Ag kg cg] 34) = W7 := ⟨_, rfl⟩
      rw [hW7] at hx7 hx67 hrg
      have HW7 := hid hW7
      have HRG := hid hrg
      have HVG := hid (HVG0.out.ext hx67)
      have hex7 := hex5.step hx7
      have HRQ7 := hid (HRQ5.out.ext hx7)
      have HRR7 := hid (HRR5.out.ext hx7)
      have HVQ7 := hid (HVQ5.out.ext hx7)
      have HVR7 := hid (HVR5.out.ext hx7)
      clear k0 k1 k2 k3 r0 r1 HRQ5 HRR5 HVQ5 HVR5 hex5 hx7 hx67 hrg hW7 HVG0 hx6
      go_upto_region 5 with fail
      rw [HW7.out]
      obtain ⟨q0, q1, -, -⟩ := row_facts HRQ7.out
      obtain ⟨g0, g1, -, -⟩ := row_facts HRG.out
      have hgB : g ≤ BIG := by
        have h1 := Nat.le_mul_of_pos_right g hb0
        have h2 := HRBIG.out
        omega
      have HGB := hid hgB
      clear hgB
      go_wp2_with fail
      refine (radd_any _ _ (Q : Int) (g : Int) W7 HVQ7.out HVG.out (by rw [Int.natAbs_natCast]; exact HQBIG.out) (by rw [Int.natAbs_natCast]; exact HGB.out)).mono ?_
      rintro e w8 ⟨v8, rfl, hv8, hx8⟩
      have HV8 := hid hv8
      obtain ⟨A8, k8, c8, xs8, b8, rfl, -⟩ := hv8
      have hrq8 := HRQ7.out.ext hx8
      have hrr8 := HRR7.out.ext hx8
      have hrg8 := HRG.out.ext hx8
      have hrq9 : Row ((w8.setCell ⟨w.heap.size + 1 + 1 + 1 + 1, 0, none⟩ (.bool b8)).setCell ⟨w.heap.size + 1 + 1 + 1 + 1, 1, none⟩ (.slice A8 k8 c8)) (w.heap.size + 1 + 1 + 1 + 1) 34 [.bool b8, .slice A8 k8 c8] := (hrq8.set 0 _).set 1 _
      have hrr9 : Row ((w8.setCell ⟨w.heap.size + 1 + 1 + 1 + 1, 0, none⟩ (.bool b8)).setCell ⟨w.heap.size + 1 + 1 + 1 + 1, 1, none⟩ (.slice A8 k8 c8)) (w.heap.size + 1 + 1 + 1 + 1 + 1) 34 [.bool br, .slice Ar kr cr] := (hrr8.far (by show w.heap.size + 1 + 1 + 1 + 1 + 1 ≠ w.heap.size + 1 + 1 + 1 + 1; omega) _).far (by show w.heap.size + 1 + 1 + 1 + 1 + 1 ≠ w.heap.size + 1 + 1 + 1 + 1; omega) _
      have hrg9 : Row ((w8.setCell ⟨w.heap.size + 1 + 1 + 1 + 1, 0, none⟩ (.bool b8)).setCell ⟨w.heap.size + 1 + 1 + 1 + 1, 1, none⟩ (.slice A8 k8 c8)) w6.heap.size 34 [.bool bg, .slice Ag kg cg] := (hrg8.far (by show w6.heap.size ≠ w.heap.size + 1 + 1 + 1 + 1; omega) _).far (by show w6.heap.size ≠ w.heap.size + 1 + 1 + 1 + 1; omega) _
      have hv9 := HV8.out.box (a := .bool b8) (b := .slice A8 k8 c8) hrq8
      have hvr9 := (HVR7.out.ext hx8).box (a := .bool b8) (b := .slice A8 k8 c8) hrq8
      have hvg9 := (HVG.out.ext hx8).box (a := .bool b8) (b := .slice A8 k8 c8) hrq8
      have hex9 : Ext W4 ((w8.setCell ⟨w.heap.size + 1 + 1 + 1 + 1, 0, none⟩ (.bool b8)).setCell ⟨w.heap.size + 1 + 1 + 1 + 1, 1, none⟩ (.slice A8 k8 c8)) := ((hex7.step hx8).set' (by show W4.heap.size ≤ _; rw [HSZ.out]; exact Nat.le_refl _) _).set' (by show W4.heap.size ≤ _; rw [HSZ.out]; exact Nat.le_refl _) _
      obtain ⟨W9, hW9⟩ : ∃ W9, ((w8.setCell ⟨w.heap.size + 1 + 1 + 1 + 1, 0, none⟩ (.bool b8)).setCell ⟨w.heap.size + 1 + 1 + 1 + 1, 1, none⟩ (.slice A8 k8 c8)) = W9 := ⟨_, rfl⟩
      rw [hW9] at hrq9 hrr9 hrg9 hv9 hvr9 hvg9 hex9
      have HW9 := hid hW9
      have HRQ9 := hid hrq9
      have HRR9 := hid hrr9
      have HRG9 := hid hrg9
      have HV9 := hid hv9
      have HVR9 := hid hvr9
      have HVG9 := hid hvg9
      have HEX9 := hid hex9
      clear q0 q1 g0 g1
      obtain ⟨q0, q1, q2, q3⟩ := row_facts hrq8
      clear hrq8 hrr8 hrg8 hrq9 hrr9 hrg9 hv9 hvr9 hvg9 hex9 hW9 hx8 hex7 HRQ7 HRR7 HRG HVQ7 HVR7 HVG HV8
      go_upto_region 6 with fail
      rw [HW9.out]
      clear q0 q1 q2 q3
      obtain ⟨⟨k0, k1, k2, k3⟩, -⟩ := HK.out _ HEX9.out
      obtain ⟨r0, r1, r2, r3⟩ := row_facts HRR9.out
      obtain ⟨g0, g1, -, -⟩ := row_facts HRG9.out
      have hcur : Ext W9 W9 := Ext.rfl' _
      have HBW := hid ((HB.out.ext HW4.out).ext HEX9.out)
      have hgb2 : Hid (((g : Int) * (b : Int)).natAbs ≤ BIG) := hid (by rw [← Int.natCast_mul, Int.natAbs_natCast]; have := HRBIG.out; omega)
      have B1 : Hid ((g : Int).natAbs ≤ BIG) := hid (by rw [Int.natAbs_natCast]; exact HGB.out)
      have B2 : Hid ((b : Int).natAbs ≤ BIG) := hid (by rw [Int.natAbs_natCast]; exact lb)
      have B3 : Hid ((R : Int).natAbs ≤ BIG) := hid (by rw [Int.natAbs_natCast]; exact HRBIG.out)
      have HSUB : Hid ((R : Int) - (g : Int) * (b : Int) = ((R - g * b : Nat) : Int)) := hid (by rw [Int.ofNat_sub hgb, Int.natCast_mul])
      have HMEAS : Hid (R - g * b < R) := hid (by have := Nat.mul_pos (show 0 < g by omega) hb0; omega)
      have HNEW : Hid ((Q + g) * b + (R - g * b) = a.natAbs) := hid (by rw [← HQR.out, Nat.add_mul]; omega)
      have HGBL := hid hgb
      clear hgb HQR
      go_region_with (first
        | (go_at_call 31; refine (rmul_any _ _ (g : Int) (b : Int) _ (HVG9.out.ext ?_) (HBW.out.ext ?_) B1.out B2.out).mono ?_; (first | exact hcur | exact hcur.drew'); (first | exact hcur | exact hcur.drew'); rintro e w10 ⟨v10, rfl, hv10, hx⟩; have hcur := Ext.step hcur (by first | exact hx | exact Ext.undrew hx); have HV10 := hid hv10; obtain ⟨A10, k10, c10, xs10, b10, rfl, -⟩ := hv10; obtain ⟨r0, r1, r2, r3⟩ := row_facts (HRR9.out.ext hcur))
        | (go_at_call 36; refine (rsub_any _ _ (R : Int) ((g : Int) * (b : Int)) _ (HVR9.out.ext ?_) (HV10.out.ext ?_) B3.out hgb2.out).mono ?_; (first | exact hcur | exact hcur.drew'); (first | exact Ext.rfl' _ | exact (Ext.rfl' _).drew'); rintro e w11 ⟨v11, rfl, hv11, hx⟩; have hcur := Ext.step hcur (by first | exact hx | exact Ext.undrew hx); have HV11 := hid hv11; obtain ⟨A11, k11, c11, xs11, b11, rfl, -⟩ := hv11; obtain ⟨r0, r1, r2, r3⟩ := row_facts (HRR9.out.ext hcur)))
      all_goals
        have hr11 := HRR9.out.ext hcur
        have hrow : Row ((w11.setCell ⟨w.heap.size + 1 + 1 + 1 + 1 + 1, 0, none⟩ (.bool b11)).setCell ⟨w.heap.size + 1 + 1 + 1 + 1 + 1, 1, none⟩ (.slice A11 k11 c11)) (w.heap.size + 1 + 1 + 1 + 1 + 1) 34 [.bool b11, .slice A11 k11 c11] := (hr11.set 0 _).set 1 _
        have hqrow : Row ((w11.setCell ⟨w.heap.size + 1 + 1 + 1 + 1 + 1, 0, none⟩ (.bool b11)).setCell ⟨w.heap.size + 1 + 1 + 1 + 1 + 1, 1, none⟩ (.slice A11 k11 c11)) (w.heap.size + 1 + 1 + 1 + 1) 34 [.bool b8, .slice A8 k8 c8] := ((HRQ9.out.ext hcur).far (by show w.heap.size + 1 + 1 + 1 + 1 ≠ w.heap.size + 1 + 1 + 1 + 1 + 1; omega) _).far (by show w.heap.size + 1 + 1 + 1 + 1 ≠ w.heap.size + 1 + 1 + 1 + 1 + 1; omega) _
        have hvr := HV11.out.box (a := .bool b11) (b := .slice A11 k11 c11) hr11
        have hvq := (HV9.out.ext hcur).box (a := .bool b11) (b := .slice A11 k11 c11) hr11
        rw [HSUB.out] at hvr
        rw [← Int.natCast_add] at hvq
        have hexE : Ext W4 ((w11.setCell ⟨w.heap.size + 1 + 1 + 1 + 1 + 1, 0, none⟩ (.bool b11)).setCell ⟨w.heap.size + 1 + 1 + 1 + 1 + 1, 1, none⟩ (.slice A11 k11 c11)) := ((HEX9.out.step hcur).set' (by show W4.heap.size ≤ w.heap.size + 1 + 1 + 1 + 1 + 1; rw [HSZ.out]; omega) _).set' (by show W4.heap.size ≤ w.heap.size + 1 + 1 + 1 + 1 + 1; rw [HSZ.out]; omega) _
        have HROW := hid hrow
        have HQROW := hid hqrow
        have HVRN := hid hvr
        have HVQN := hid hvq
        have HEXE := hid hexE
        clear hrow hqrow hvr hvq hexE hr11 k0 k1 k2 k3 r0 r1 r2 r3 g0 g1
        go_wp2
        go_roundg (R - g * b)
        case measure => exact HMEAS.out
        case rel => exact ⟨Q + g, R - g * b, _, _, _, _, _, _, _, _, rfl, HQROW.out, HROW.out, HVQN.out, HVRN.out, HNEW, HEXE.out⟩
end Go.Proofs.YtflgkijmbpcnfaaGreatDoor
/- the reference of layer 2: Rest, Step -/
namespace Go.Proofs.YtflgkijmbpcnfaaGreatDoor
open Go.RowKit
set_option maxRecDepth 100000 in
set_option maxHeartbeats 800000 in
theorem rest2_any (v vn : Value) (m x : Int) (us ad : List Int) (w : World) (hv : MapV w v m us ad) (hn : RefV w vn x) (lx : x.natAbs ≤ BIG) (h1 : 1 ≤ m) (h2 : m ≤ 2147483647) :
    Calls Tryz.prog 61 #[v, vn] w (fun e w' => e = .returned (.int .i64 (x % m)) ∧ Ext w w') := by
  obtain ⟨d, rfl⟩ : ∃ d : Nat, m = (d : Int) := ⟨m.toNat, by omega⟩
  obtain ⟨A, n, cc, B, n2, d2, rfl, -⟩ := hv
  have hn' := hn
  obtain ⟨A1, k1, c1, xs1, b1, rfl, -⟩ := hn
  have hr1 : Row ((w.alloc (.cells #[.int .i64 (d : Int), .slice A n cc, .slice B n2 d2] 24)).alloc (.cells #[.bool b1, .slice A1 k1 c1] 34)) w.heap.size 24 [.int .i64 (d : Int), .slice A n cc, .slice B n2 d2] := (Row.new w _ _).alloc _
  have hr2 : Row ((w.alloc (.cells #[.int .i64 (d : Int), .slice A n cc, .slice B n2 d2] 24)).alloc (.cells #[.bool b1, .slice A1 k1 c1] 34)) (w.heap.size + 1) 34 [.bool b1, .slice A1 k1 c1] := by
    have := Row.new (w.alloc (.cells #[.int .i64 (d : Int), .slice A n cc, .slice B n2 d2] 24)) 34 [.bool b1, .slice A1 k1 c1]
    rwa [World.size_alloc] at this
  have hx : Ext w ((w.alloc (.cells #[.int .i64 (d : Int), .slice A n cc, .slice B n2 d2] 24)).alloc (.cells #[.bool b1, .slice A1 k1 c1] 34)) := ((Ext.rfl' w).alloc' _).alloc' _
  obtain ⟨W2, hW2⟩ : ∃ W2, ((w.alloc (.cells #[.int .i64 (d : Int), .slice A n cc, .slice B n2 d2] 24)).alloc (.cells #[.bool b1, .slice A1 k1 c1] 34)) = W2 := ⟨_, rfl⟩
  rw [hW2] at hr1 hr2 hx
  have HW2 := hid hW2
  have HX := hid hx
  have HN := hid (hn'.ext hx)
  obtain ⟨f0, f1, f2, -, -, -⟩ := row_facts3 hr1
  obtain ⟨g0, g1, -, -⟩ := row_facts hr2
  clear hW2 hr1 hr2 hx hn'
  go_enter Tryz.func61, Tryz.ntmps61
  go_upto_region 1 with fail
  rw [HW2.out]
  go_wp2_with fail
  refine (rpart_any _ x d W2 HN.out lx (by omega) (by omega)).mono ?_
  rintro e w3 ⟨v3, rfl, hv3, hx3⟩
  obtain ⟨A3, k3, c3, xs3, b3, rfl, -⟩ := hv3
  have HX3 := hid (HX.out.step hx3)
  clear f0 f1 f2 g0 g1 hx3
  go_wp2
  go_ret
  exact ⟨rfl, HX3.out.alloc' _⟩
theorem step_big {u a x : Int} (hu : 1 ≤ u) (hu2 : u ≤ 999) (ha : -999999 ≤ a) (ha2 : a ≤ 999999) (hx : K.fits x) : x.natAbs ≤ BIG ∧ (u * x).natAbs ≤ BIG ∧ (u * x + a).natAbs ≤ BIG := by
  have h := fits_top hx
  have h2 : TOP 224 = TOP 1 * TOP 223 := TOP_add 1 223
  have h1 : TOP 1 = 1000000000 := by decide
  have hp := TOP_pos 223
  have h3 : (u * x).natAbs = u.natAbs * x.natAbs := Int.natAbs_mul u x
  have h4 : u.natAbs * x.natAbs ≤ 999 * x.natAbs := Nat.mul_le_mul_right _ (by omega)
  have h5 : (u * x).natAbs < TOP 224 ∧ (u * x + a).natAbs < TOP 224 := by
    rw [h2, h1]
    generalize TOP 223 = t at *
    generalize u * x = y at *
    omega
  exact ⟨fits_big hx, le_big h5.1 (by omega), le_big h5.2 (by omega)⟩
theorem small_big {u : Int} (h : u.natAbs < 1000000000) : u.natAbs ≤ BIG := le_big (a := 1) (by rw [show TOP 1 = 1000000000 by decide]; exact h) (by omega)
/-- a box that was made on the way -/
def NB (B : Nat) (w : World) (g : Nat) : Prop := B ≤ g ∧ Row w g 34 [.bool false, .slice none 0 0]
theorem NB.new {B : Nat} {w : World} (h : B ≤ w.heap.size) : NB B (w.alloc (.cells #[.bool false, .slice none 0 0] 34)) w.heap.size := ⟨h, Row.new w _ [.bool false, .slice none 0 0]⟩
theorem NB.newD {B : Nat} {w : World} (h : B ≤ w.heap.size) : NB B (w.drew.alloc (.cells #[.bool false, .slice none 0 0] 34)) w.heap.size := ⟨h, Row.new w.drew _ [.bool false, .slice none 0 0]⟩
theorem NB.ext {B g : Nat} {w w' : World} (h : NB B w g) (e : Ext w w') : NB B w' g := ⟨h.1, h.2.ext e⟩
theorem RefPost.put {w w3 : World} {q : Int} {b : Bool} {A : Option Addr} {k c H : Nat} {t : TypeId} (r1 : Row w3 H t [.bool false, .slice none 0 0]) (hw : Ext w w3) (hH : w.heap.size ≤ H) (hv : RefV w3 (.agg #[.bool b, .slice A k c]) q) :
    RefPost q w (.returned (.agg #[.bool b, .slice A k c])) ((w3.setCell ⟨H, 0, none⟩ (.bool b)).setCell ⟨H, 1, none⟩ (.slice A k c)) :=
  ⟨_, rfl, hv.box r1, (hw.set' (by show _ ≤ H; omega) _).set' (by show _ ≤ H; omega) _⟩
set_option maxRecDepth 100000 in
set_option maxHeartbeats 12800000 in
theorem step2_l (ba oa bb ob n cc n2 d2 d r : Nat) (vn : Value) (u a x : Int) (us ad : List Int) (w : World) (hra : Rd w (some ⟨ba, oa, none⟩) (Is us)) (hrb : Rd w (some ⟨bb, ob, none⟩) (Is ad)) (hn1 : us.length = n) (hn2 : ad.length = n2)
    (hmv : MapV w (.agg #[.int .i64 (d : Int), .slice (some ⟨ba, oa, none⟩) n cc, .slice (some ⟨bb, ob, none⟩) n2 d2]) (d : Int) us ad) (hn : RefV w vn x) (hd : 2 ≤ d) (hd2 : d ≤ 12) (hr : Hid ((r : Int) = x % (d : Int))) (hrn : r < n) (hrn2 : r < n2) (hu : Hid (us.getD r 0 = u)) (ha : Hid (ad.getD r 0 = a)) (B : Hid (x.natAbs ≤ BIG ∧ (u * x).natAbs ≤ BIG ∧ (u * x + a).natAbs ≤ BIG))
    (hu1 : 1 ≤ u) (hu2 : u ≤ 999) (ha1 : -999999 ≤ a) (ha2 : a ≤ 999999) :
    Calls Tryz.prog 22 #[.agg #[.int .i64 (d : Int), .slice (some ⟨ba, oa, none⟩) n cc, .slice (some ⟨bb, ob, none⟩) n2 d2], vn] w (RefPost ((u * x + a) / (d : Int)) w) := by
  have hn' := hn
  obtain ⟨A1, k1, c1, xs1, b1, rfl, -⟩ := hn
  have hx : Ext w (((w.alloc (.cells #[.int .i64 (d : Int), .slice (some ⟨ba, oa, none⟩) n cc, .slice (some ⟨bb, ob, none⟩) n2 d2] 24)).alloc (.cells #[.bool b1, .slice A1 k1 c1] 34)).alloc (.cells #[.bool false, .slice none 0 0] 34)) := (((Ext.rfl' w).alloc' _).alloc' _).alloc' _
  have hr1 : Row (((w.alloc (.cells #[.int .i64 (d : Int), .slice (some ⟨ba, oa, none⟩) n cc, .slice (some ⟨bb, ob, none⟩) n2 d2] 24)).alloc (.cells #[.bool b1, .slice A1 k1 c1] 34)).alloc (.cells #[.bool false, .slice none 0 0] 34)) w.heap.size 24 [.int .i64 (d : Int), .slice (some ⟨ba, oa, none⟩) n cc, .slice (some ⟨bb, ob, none⟩) n2 d2] := ((Row.new w _ _).alloc _).alloc _
  have hr2 : Row (((w.alloc (.cells #[.int .i64 (d : Int), .slice (some ⟨ba, oa, none⟩) n cc, .slice (some ⟨bb, ob, none⟩) n2 d2] 24)).alloc (.cells #[.bool b1, .slice A1 k1 c1] 34)).alloc (.cells #[.bool false, .slice none 0 0] 34)) (w.heap.size + 1) 34 [.bool b1, .slice A1 k1 c1] := by
    have := (Row.new (w.alloc (.cells #[.int .i64 (d : Int), .slice (some ⟨ba, oa, none⟩) n cc, .slice (some ⟨bb, ob, none⟩) n2 d2] 24)) 34 [.bool b1, .slice A1 k1 c1]).alloc (.cells #[.bool false, .slice none 0 0] 34)
    rwa [World.size_alloc] at this
  have hr3 : Row (((w.alloc (.cells #[.int .i64 (d : Int), .slice (some ⟨ba, oa, none⟩) n cc, .slice (some ⟨bb, ob, none⟩) n2 d2] 24)).alloc (.cells #[.bool b1, .slice A1 k1 c1] 34)).alloc (.cells #[.bool false, .slice none 0 0] 34)) (w.heap.size + 1 + 1) 34 [.bool false, .slice none 0 0] := by
    have := Row.new ((w.alloc (.cells #[.int .i64 (d : Int), .slice (some ⟨ba, oa, none⟩) n cc, .slice (some ⟨bb, ob, none⟩) n2 d2] 24)).alloc (.cells #[.bool b1, .slice A1 k1 c1] 34)) 34 [.bool false, .slice none 0 0]
    rwa [World.size_alloc, World.size_alloc] at this
  have hz3 : (((w.alloc (.cells #[.int .i64 (d : Int), .slice (some ⟨ba, oa, none⟩) n cc, .slice (some ⟨bb, ob, none⟩) n2 d2] 24)).alloc (.cells #[.bool b1, .slice A1 k1 c1] 34)).alloc (.cells #[.bool false, .slice none 0 0] 34)).heap.size = w.heap.size + 1 + 1 + 1 := by simp
  obtain ⟨W3, hW3⟩ : ∃ W3, (((w.alloc (.cells #[.int .i64 (d : Int), .slice (some ⟨ba, oa, none⟩) n cc, .slice (some ⟨bb, ob, none⟩) n2 d2] 24)).alloc (.cells #[.bool b1, .slice A1 k1 c1] 34)).alloc (.cells #[.bool false, .slice none 0 0] 34)) = W3 := ⟨_, rfl⟩
  rw [hW3] at hx hr1 hr2 hr3 hz3
  have HW3 := hid hW3
  have HX := hid hx
  have HN := hid (hn'.ext hx)
  have HM := hid (hmv.ext hx)
  have H1 := hid hr1
  have H2 := hid hr2
  have H3 := hid hr3
  have HZ3 := hid hz3
  have HRA := hid (hra.ext hx)
  have HRB := hid (hrb.ext hx)
  have HL1 := hid hn1
  have HL2 := hid hn2
  have HS : Hid (∀ W', Ext W3 W' → W'.cell? ⟨w.heap.size, 0, none⟩ = some (.int .i64 (d : Int)) ∧ W'.cell? ⟨w.heap.size, 1, none⟩ = some (.slice (some ⟨ba, oa, none⟩) n cc) ∧ W'.cell? ⟨w.heap.size, 2, none⟩ = some (.slice (some ⟨bb, ob, none⟩) n2 d2) ∧ W'.cell? ⟨w.heap.size + 1, 0, none⟩ = some (.bool b1) ∧ W'.cell? ⟨w.heap.size + 1, 1, none⟩ = some (.slice A1 k1 c1) ∧ W'.cell? ⟨ba, oa + r, none⟩ = some (.int .i64 u) ∧ W'.cell? ⟨bb, ob + r, none⟩ = some (.int .i64 a)) := hid (by
    intro W' e
    obtain ⟨p0, p1, p2, -, -, -⟩ := row_facts3 (H1.out.ext e)
    obtain ⟨q0, q1, -, -⟩ := row_facts (H2.out.ext e)
    obtain ⟨b2, o2, e2, -, hc1⟩ := (HRA.out.ext e).atI (k := r) (by rw [HL1.out]; exact hrn)
    obtain ⟨b3, o3, e3, -, hc2⟩ := (HRB.out.ext e).atI (k := r) (by rw [HL2.out]; exact hrn2)
    cases e2
    cases e3
    rw [hu.out] at hc1
    rw [ha.out] at hc2
    exact ⟨p0, p1, p2, q0, q1, hc1, hc2⟩)
  have HUB := hid (small_big (show u.natAbs < 1000000000 by omega))
  have HAB := hid (small_big (show a.natAbs < 1000000000 by omega))
  have HBU := hid (show u.natAbs < 1000000000000000000 by omega)
  have HBA := hid (show a.natAbs < 1000000000000000000 by omega)
  have i0 : (0 : Int) ≤ (r : Int) := by omega
  have i1 : (r : Int) < (n : Int) := by omega
  have i2 : (r : Int) < (n2 : Int) := by omega
  clear hW3 hx hr1 hr2 hr3 hn' hmv hra hrb hn1 hn2 hu1 hu2 ha1 ha2 hz3
  obtain ⟨f0, f1, f2, g0, g1, -, -⟩ := HS.out _ (Ext.rfl' _)
  go_enter Tryz.func22, Tryz.ntmps22
  go_upto_region 1 with fail
  rw [HW3.out]
  go_wp2_with fail
  refine (rest2_any _ _ (d : Int) x us ad W3 HM.out HN.out B.out.1 (by omega) (by omega)).mono ?_
  rintro e w4 ⟨rfl, hx4⟩
  rw [← hr.out]
  have hcur : Ext W3 w4 := hx4
  clear f0 f1 f2 g0 g1 hx4
  go_upto_region 2 with fail
  go_cut [6, 7] (fun s6 s7 wx => ∃ (g : Nat) (b : Bool) (P : Option Addr) (k c : Nat), s6 = .pointer (some ⟨g, 0, none⟩) ∧ s7 = .int .i64 ((u * x + a) % (d : Int)) ∧ Row wx g 34 [.bool b, .slice P k c] ∧ RefV wx (.agg #[.bool b, .slice P k c]) ((u * x + a) / (d : Int)) ∧ Ext W3 wx)
  case first =>
    go_region_held3 (fun W' => W'.cell? ⟨w.heap.size, 0, none⟩ = some (.int .i64 (d : Int)) ∧ W'.cell? ⟨w.heap.size, 1, none⟩ = some (.slice (some ⟨ba, oa, none⟩) n cc) ∧ W'.cell? ⟨w.heap.size, 2, none⟩ = some (.slice (some ⟨bb, ob, none⟩) n2 d2) ∧ W'.cell? ⟨w.heap.size + 1, 0, none⟩ = some (.bool b1) ∧ W'.cell? ⟨w.heap.size + 1, 1, none⟩ = some (.slice A1 k1 c1) ∧ W'.cell? ⟨ba, oa + r, none⟩ = some (.int .i64 u) ∧ W'.cell? ⟨bb, ob + r, none⟩ = some (.int .i64 a))
      (first | exact HS.out _ hcur | exact HS.out _ hcur.drew' | exact HS.out _ (hcur.alloc' _) | exact HS.out _ (hcur.drew'.alloc' _) | exact HS.out _ ((hcur.set' HB2.out.1 _).set' HB2.out.1 _) | go_keep)
      (first
        | (go_at_call_of 32 (Value.int IntKind.i64 u); refine (of_any u _ HBU.out).mono ?_; rintro e w6 ⟨v6, rfl, hv6, hx⟩; (first | have HB2 := hid (HB2.out.ext hx) | have HB2 := hid ((NB.new hcur.size).ext hx) | have HB2 := hid ((NB.newD hcur.size).ext hx) | skip); have hcur := Ext.step hcur (by first | exact hx | exact Ext.undrew hx | exact Ext.step ((Ext.rfl' _).alloc' _) hx | exact Ext.step ((Ext.rfl' _).drew'.alloc' _) hx); have HV6 := hid hv6; obtain ⟨A6, k6, c6, xs6, b6, rfl, -⟩ := hv6; (first | (have hyy := row_facts HB2.out.2; obtain ⟨y0, y1, y2, y3⟩ := hyy) | skip))
        | (go_at_call 31; refine (rmul_any _ _ u x _ (HV6.out.ext ?_) (HN.out.ext ?_) HUB.out B.out.1).mono ?_; (first | exact Ext.rfl' _ | exact (Ext.rfl' _).drew' | exact (Ext.rfl' _).alloc' _ | exact (Ext.rfl' _).drew'.alloc' _); (first | exact hcur | exact hcur.drew' | exact hcur.alloc' _ | exact hcur.drew'.alloc' _ | exact (hcur.alloc' _).drew'); rintro e w7 ⟨v7, rfl, hv7, hx⟩; (first | have HB2 := hid (HB2.out.ext hx) | have HB2 := hid ((NB.new hcur.size).ext hx) | have HB2 := hid ((NB.newD hcur.size).ext hx) | skip); have hcur := Ext.step hcur (by first | exact hx | exact Ext.undrew hx | exact Ext.step ((Ext.rfl' _).alloc' _) hx | exact Ext.step ((Ext.rfl' _).drew'.alloc' _) hx); have HV7 := hid hv7; obtain ⟨A7, k7, c7, xs7, b7, rfl, -⟩ := hv7; (first | (have hyy := row_facts HB2.out.2; obtain ⟨y0, y1, y2, y3⟩ := hyy) | skip))
        | (go_at_call_of 32 (Value.int IntKind.i64 a); refine (of_any a _ HBA.out).mono ?_; rintro e w8 ⟨v8, rfl, hv8, hx⟩; (first | have HB2 := hid (HB2.out.ext hx) | have HB2 := hid ((NB.new hcur.size).ext hx) | have HB2 := hid ((NB.newD hcur.size).ext hx) | skip); have HV7 := hid (by first | exact HV7.out.ext hx | exact HV7.out.ext (Ext.undrew hx) | exact HV7.out.ext (Ext.step ((Ext.rfl' _).alloc' _) hx)); have hcur := Ext.step hcur (by first | exact hx | exact Ext.undrew hx | exact Ext.step ((Ext.rfl' _).alloc' _) hx | exact Ext.step ((Ext.rfl' _).drew'.alloc' _) hx); have HV8 := hid hv8; obtain ⟨A8, k8, c8, xs8, b8, rfl, -⟩ := hv8; (first | (have hyy := row_facts HB2.out.2; obtain ⟨y0, y1, y2, y3⟩ := hyy) | skip))
        | (go_at_call 33; refine (radd_any _ _ (u * x) a _ (HV7.out.ext ?_) (HV8.out.ext ?_) B.out.2.1 HAB.out).mono ?_; (first | exact Ext.rfl' _ | exact (Ext.rfl' _).drew' | exact (Ext.rfl' _).alloc' _ | exact (Ext.rfl' _).drew'.alloc' _); (first | exact Ext.rfl' _ | exact (Ext.rfl' _).drew' | exact (Ext.rfl' _).alloc' _ | exact (Ext.rfl' _).drew'.alloc' _); rintro e w9 ⟨v9, rfl, hv9, hx⟩; (first | have HB2 := hid (HB2.out.ext hx) | have HB2 := hid ((NB.new hcur.size).ext hx) | have HB2 := hid ((NB.newD hcur.size).ext hx) | skip); have hcur := Ext.step hcur (by first | exact hx | exact Ext.undrew hx | exact Ext.step ((Ext.rfl' _).alloc' _) hx | exact Ext.step ((Ext.rfl' _).drew'.alloc' _) hx); have HV9 := hid hv9; obtain ⟨A9, k9, c9, xs9, b9, rfl, -⟩ := hv9; (first | (have hyy := row_facts HB2.out.2; obtain ⟨y0, y1, y2, y3⟩ := hyy) | skip))
        | (go_at_call 34; refine (rpart_any _ (u * x + a) d _ (HV9.out.ext ?_) B.out.2.2 (by omega) (by omega)).mono ?_; (first | exact Ext.rfl' _ | exact (Ext.rfl' _).drew' | exact (Ext.rfl' _).alloc' _ | exact (Ext.rfl' _).drew'.alloc' _); rintro e w10 ⟨v10, rfl, hv10, hx⟩; (first | have HB2 := hid (HB2.out.ext hx) | have HB2 := hid ((NB.new hcur.size).ext hx) | have HB2 := hid ((NB.newD hcur.size).ext hx) | skip); have hcur := Ext.step hcur (by first | exact hx | exact Ext.undrew hx | exact Ext.step ((Ext.rfl' _).alloc' _) hx | exact Ext.step ((Ext.rfl' _).drew'.alloc' _) hx); have HV10 := hid hv10; obtain ⟨A10, k10, c10, xs10, b10, rfl, -⟩ := hv10; (first | (have hyy := row_facts HB2.out.2; obtain ⟨y0, y1, y2, y3⟩ := hyy) | skip)))
    all_goals
      go_wp2_with fail
      go_meet
      first
        | exact ⟨_, b10, A10, k10, c10, rfl, rfl, (HB2.out.2.set 0 _).set 1 _, HV10.out.box HB2.out.2, (hcur.set' HB2.out.1 _).set' HB2.out.1 _⟩
        | exact ⟨_, b10, A10, k10, c10, rfl, rfl, Row.new _ _ [.bool b10, .slice A10 k10 c10], HV10.out.ext ((Ext.rfl' _).alloc' _), hcur.alloc' _⟩
  case rest =>
    obtain ⟨g, b, P, k, c, rfl, rfl, hrow, hv, hex⟩ := hcut
    have hr3 := H3.out.ext hex
    have HF := hid (RefPost.put hr3 (HX.out.step hex) (by omega) hv)
    obtain ⟨t0, t1, -, -⟩ := row_facts hrow
    obtain ⟨z0, z1, z2, z3⟩ := row_facts hr3
    clear hr3 hv hrow hex
    go_wp2
    refine bodyPost_ret (v := .agg #[.bool b, .slice P k c]) (by simp [results, Tryz.results22, go_sem, z0, z1]) rfl HF.out
set_option maxRecDepth 100000 in
theorem step2_any (v vn : Value) (m x : Int) (us ad : List Int) (w : World) (hv : MapV w v m us ad) (hM : Hid (mapP m us ad)) (hn : RefV w vn x) (hf : Hid (x.natAbs ≤ BIG ∧ (mulAt m us x * x).natAbs ≤ BIG ∧ (mulAt m us x * x + ad.getD (rOf m x) 0).natAbs ≤ BIG)) :
    Calls Tryz.prog 22 #[v, vn] w (RefPost (stepI m us ad x) w) := by
  have hm := hM.out
  obtain ⟨d, rfl⟩ : ∃ d : Nat, m = (d : Int) := ⟨m.toNat, by have := hm.1; omega⟩
  have hr := rOf_lt (m := (d : Int)) (x := x) (by have := hm.1; omega)
  have hu := rule_at hm x
  have hmv := hv
  obtain ⟨A, n, cc, B, n2, d2, rfl, h1, h2, h3, h4, h5, h6, h7, h9⟩ := hv
  have l1 : rOf (d : Int) x < us.length := by have := hm.2.2.1; omega
  have l2 : rOf (d : Int) x < ad.length := by have := hm.2.2.2.1; omega
  obtain ⟨ba, oa, eA, -, -⟩ := h5.atI l1
  obtain ⟨bb, ob, eB, -, -⟩ := h6.atI l2
  subst eA eB
  exact step2_l ba oa bb ob n cc n2 d2 d (rOf (d : Int) x) vn (us.getD (rOf (d : Int) x) 0) (ad.getD (rOf (d : Int) x) 0) x us ad w h5 h6 h1 h3 hmv hn (by have := hm.1; omega) (by have := hm.2.1; omega) (hid hr.2) (by omega) (by omega) (hid rfl) (hid rfl) hf hu.1 hu.2.1 hu.2.2.1 hu.2.2.2.1
/-- from a number that fits -/
theorem step2_fits (v vn : Value) (m x : Int) (us ad : List Int) (w : World) (hv : MapV w v m us ad) (hM : Hid (mapP m us ad)) (hn : RefV w vn x) (hf : Hid (K.fits x)) :
    Calls Tryz.prog 22 #[v, vn] w (RefPost (stepI m us ad x) w) := by
  have hu := rule_at hM.out x
  exact step2_any v vn m x us ad w hv hM hn (hid (step_big hu.1 hu.2.1 hu.2.2.1 hu.2.2.2.1 hf.out))
theorem stepI_big {m x : Int} {us ad : List Int} (hM : mapP m us ad) (hx : K.fits x) : (stepI m us ad x).natAbs ≤ BIG := by
  have hu := rule_at hM x
  have h := (step_big hu.1 hu.2.1 hu.2.2.1 hu.2.2.2.1 hx).2.2
  refine Nat.le_trans ?_ h
  have hm := hM.1
  unfold stepI
  generalize us.getD (rOf m x) 0 * x + ad.getD (rOf m x) 0 = t
  obtain ⟨d, rfl⟩ : ∃ d : Nat, m = (d : Int) := ⟨m.toNat, by omega⟩
  rcases Int.lt_or_le t 0 with h0 | h0
  · have h1 : t ≤ t / (d : Int) := by
      have := Int.ediv_mul_le t (show (d : Int) ≠ 0 by omega)
      have h2 : t / (d : Int) < 0 := Int.ediv_lt_of_lt_mul (by omega) (by omega)
      have h3 : t / (d : Int) * 1 ≥ t / (d : Int) * (d : Int) := Int.mul_le_mul_of_nonpos_left (by omega) (by omega)
      have h4 := Int.lt_ediv_add_one_mul_self t (show (0 : Int) < (d : Int) by omega)
      have h5 : (t / (d : Int) + 1) * (d : Int) ≤ (t / (d : Int) + 1) * 1 := Int.mul_le_mul_of_nonpos_left (by omega) (by omega)
      omega
    have h2 : t / (d : Int) < 0 := Int.ediv_lt_of_lt_mul (by omega) (by omega)
    omega
  · have h1 : 0 ≤ t / (d : Int) := Int.ediv_nonneg h0 (by omega)
    have h2 : t / (d : Int) ≤ t := Int.ediv_le_self _ h0
    omega
end Go.Proofs.YtflgkijmbpcnfaaGreatDoor
/- the reference's Run -/
namespace Go.Proofs.YtflgkijmbpcnfaaGreatDoor
open Go.RowKit
/-- where a run stands after j rounds -/
def RunAt (m : Int) (us ad : List Int) (k : Nat) (x : Int) (j : Nat) (z : Int) : Prop := (K.fits z ∧ runO m us ad j x = some z) ∨ (¬ K.fits z ∧ runO m us ad k x = none)
theorem RunAt.next {m : Int} {us ad : List Int} {k : Nat} {x : Int} {j : Nat} {z : Int} (h : RunAt m us ad k x j z) (hf : K.fits z) (hj : j < k) : RunAt m us ad k x (j + 1) (stepI m us ad z) := by
  rcases h with ⟨-, h⟩ | ⟨h, -⟩
  · by_cases hs : K.fits (stepI m us ad z)
    · exact .inl ⟨hs, by rw [runO_snoc, h, Option.bind_some, if_pos (fitsB_yes hs)]⟩
    · refine .inr ⟨hs, ?_⟩
      obtain ⟨l, rfl⟩ : ∃ l, k = j + (l + 1) := ⟨k - j - 1, by omega⟩
      rw [runO_add, h, Option.bind_some, runO_succ, if_neg (by rw [fitsB_no hs]; simp)]
  · exact absurd hf h
theorem RunAt.yes {m : Int} {us ad : List Int} {k : Nat} {x : Int} {z : Int} (h : RunAt m us ad k x k z) (hf : K.fits z) : runO m us ad k x = some z := by
  rcases h with ⟨-, h⟩ | ⟨h, -⟩
  · exact h
  · exact absurd hf h
theorem RunAt.no {m : Int} {us ad : List Int} {k : Nat} {x : Int} {j : Nat} {z : Int} (h : RunAt m us ad k x j z) (hf : ¬ K.fits z) : runO m us ad k x = none := by
  rcases h with ⟨h, -⟩ | ⟨-, h⟩
  · exact absurd h hf
  · exact h
def RunPost (o : Option Int) (w : World) (e : Ending) (w' : World) : Prop := ∃ v z b, e = .returned (.tuple #[v, .bool b]) ∧ RefV w' v z ∧ Hid (o = if b = true then some z else none) ∧ Ext w w'
theorem far2R {w : World} {p r : Addr} {u : Value} (h : p.block ≠ r.block) : (w.setCell r u).cell? p = w.cell? p := World.cell?_of_block (Below.heap_setCell w r u p.block h)
set_option maxRecDepth 100000 in
set_option maxHeartbeats 6400000 in
theorem rrun_any (v vn : Value) (m x : Int) (us ad : List Int) (k : Nat) (w : World) (hv : MapV w v m us ad) (hM : Hid (mapP m us ad)) (hn : RefV w vn x) (hf : Hid (K.fits x)) (hk : k ≤ 9223372036854775806) :
    Calls Tryz.prog 23 #[v, vn, .int .i64 (k : Int)] w (RunPost (runO m us ad k x) w) := by
  have HV := hid hv
  have HN := hid hn
  obtain ⟨A, n, cc, B, n2, d, rfl, -⟩ := hv
  obtain ⟨A1, k1, c1, xs1, b1, rfl, -⟩ := hn
  have hx : Ext w (((w.alloc (.cells #[.int .i64 m, .slice A n cc, .slice B n2 d] 24)).alloc (.cells #[.bool b1, .slice A1 k1 c1] 34)).alloc (.cells #[.bool false, .slice none 0 0] 34)) := (((Ext.rfl' w).alloc' _).alloc' _).alloc' _
  have r1 : Row (((w.alloc (.cells #[.int .i64 m, .slice A n cc, .slice B n2 d] 24)).alloc (.cells #[.bool b1, .slice A1 k1 c1] 34)).alloc (.cells #[.bool false, .slice none 0 0] 34)) w.heap.size 24 [.int .i64 m, .slice A n cc, .slice B n2 d] := ((Row.new w _ _).alloc _).alloc _
  have r2 : Row (((w.alloc (.cells #[.int .i64 m, .slice A n cc, .slice B n2 d] 24)).alloc (.cells #[.bool b1, .slice A1 k1 c1] 34)).alloc (.cells #[.bool false, .slice none 0 0] 34)) (w.heap.size + 1) 34 [.bool b1, .slice A1 k1 c1] := by
    have := (Row.new (w.alloc (.cells #[.int .i64 m, .slice A n cc, .slice B n2 d] 24)) 34 [.bool b1, .slice A1 k1 c1]).alloc (.cells #[.bool false, .slice none 0 0] 34)
    rwa [World.size_alloc] at this
  have r3 : Row (((w.alloc (.cells #[.int .i64 m, .slice A n cc, .slice B n2 d] 24)).alloc (.cells #[.bool b1, .slice A1 k1 c1] 34)).alloc (.cells #[.bool false, .slice none 0 0] 34)) (w.heap.size + 1 + 1) 34 [.bool false, .slice none 0 0] := by
    have := Row.new ((w.alloc (.cells #[.int .i64 m, .slice A n cc, .slice B n2 d] 24)).alloc (.cells #[.bool b1, .slice A1 k1 c1] 34)) 34 [.bool false, .slice none 0 0]
    rwa [World.size_alloc, World.size_alloc] at this
  obtain ⟨W3, hW3⟩ : ∃ W3, (((w.alloc (.cells #[.int .i64 m, .slice A n cc, .slice B n2 d] 24)).alloc (.cells #[.bool b1, .slice A1 k1 c1] 34)).alloc (.cells #[.bool false, .slice none 0 0] 34)) = W3 := ⟨_, rfl⟩
  rw [hW3] at hx r1 r2 r3
  have HW3 := hid hW3
  have HX := hid hx
  have R1 := hid r1
  have R2 := hid r2
  have R3 := hid r3
  clear hW3 hx r1 r2 r3
  go_enter Tryz.func23, Tryz.ntmps23
  go_upto_region 1 with fail
  rw [HW3.out]
  go_wp2_with fail
  go_loopw [8] (fun iz wr => ∃ (j : Nat) (z : Int) (b : Bool) (P : Option Addr) (q c : Nat), j ≤ k ∧ iz = .int .i64 (j : Int) ∧ Row wr w.heap.size 24 [.int .i64 m, .slice A n cc, .slice B n2 d] ∧ Row wr (w.heap.size + 1) 34 [.bool b, .slice P q c] ∧ Row wr (w.heap.size + 1 + 1) 34 [.bool false, .slice none 0 0] ∧ RefV wr (.agg #[.bool b, .slice P q c]) z ∧ Hid (z.natAbs ≤ BIG) ∧ Hid (RunAt m us ad k x j z) ∧ Ext w wr) (fun iz _ => k - (intOf iz).toNat)
  case atStart => exact ⟨0, x, b1, A1, k1, c1, by omega, rfl, R1.out, R2.out, R3.out, HN.out.ext HX.out, hid (fits_big hf.out), hid (.inl ⟨hf.out, rfl⟩), HX.out⟩
  case round =>
    obtain ⟨j, z, b, P, q, c, hj, rfl, hr1, hr2, hr3, hvz, ZB, HAT, hex⟩ := hrel
    have RM := hid hr1
    have RN := hid hr2
    have RZ := hid hr3
    have VZ := hid hvz
    have EX := hid hex
    clear hr1 hr2 hr3 hvz hex R1 R2 R3
    by_cases hlt : j < k
    · obtain ⟨g0, g1, g2, g3⟩ := row_facts RN.out
      by_cases hfz : K.fits z
      · have HFZ := hid hfz
        clear hfz
        go_wp2_with fail
        refine (rfits_any _ z wr VZ.out ZB.out true (hid ⟨fun _ => HFZ.out, fun _ => rfl⟩)).mono ?_
        rintro e w5 ⟨rfl, hx5⟩
        clear g0 g1 g2 g3
        obtain ⟨f0, f1, f2, -, -, -⟩ := row_facts3 (RM.out.ext hx5)
        obtain ⟨g0, g1, g2, g3⟩ := row_facts (RN.out.ext hx5)
        have HX5 := hid hx5
        clear hx5
        go_wp2_with fail
        refine (step2_fits _ _ m z us ad w5 (HV.out.ext (EX.out.step HX5.out)) hM (VZ.out.ext HX5.out) HFZ).mono ?_
        rintro e w6 ⟨v6, rfl, hv6, hx6⟩
        have HX6 := hid (HX5.out.step hx6)
        have HV6 := hid hv6
        obtain ⟨A6, k6, c6, xs6, b6, rfl, -⟩ := hv6
        clear f0 f1 f2 g0 g1 g2 g3 hx6
        obtain ⟨g0, g1, g2, g3⟩ := row_facts (RN.out.ext HX6.out)
        have HFIN : Hid (∃ (j' : Nat) (z : Int) (b : Bool) (P : Option Addr) (q c : Nat), j' ≤ k ∧ Value.int .i64 ((j : Int) + 1) = .int .i64 (j' : Int) ∧ Row ((w6.setCell ⟨w.heap.size + 1, 0, none⟩ (.bool b6)).setCell ⟨w.heap.size + 1, 1, none⟩ (.slice A6 k6 c6)) w.heap.size 24 [.int .i64 m, .slice A n cc, .slice B n2 d] ∧ Row ((w6.setCell ⟨w.heap.size + 1, 0, none⟩ (.bool b6)).setCell ⟨w.heap.size + 1, 1, none⟩ (.slice A6 k6 c6)) (w.heap.size + 1) 34 [.bool b, .slice P q c] ∧ Row ((w6.setCell ⟨w.heap.size + 1, 0, none⟩ (.bool b6)).setCell ⟨w.heap.size + 1, 1, none⟩ (.slice A6 k6 c6)) (w.heap.size + 1 + 1) 34 [.bool false, .slice none 0 0] ∧ RefV ((w6.setCell ⟨w.heap.size + 1, 0, none⟩ (.bool b6)).setCell ⟨w.heap.size + 1, 1, none⟩ (.slice A6 k6 c6)) (.agg #[.bool b, .slice P q c]) z ∧ Hid (z.natAbs ≤ BIG) ∧ Hid (RunAt m us ad k x j' z) ∧ Ext w ((w6.setCell ⟨w.heap.size + 1, 0, none⟩ (.bool b6)).setCell ⟨w.heap.size + 1, 1, none⟩ (.slice A6 k6 c6))) := hid (by
          refine ⟨j + 1, stepI m us ad z, b6, A6, k6, c6, by omega, by simp, ((RM.out.ext HX6.out).far (by show w.heap.size ≠ w.heap.size + 1; omega) _).far (by show w.heap.size ≠ w.heap.size + 1; omega) _, ((RN.out.ext HX6.out).set 0 _).set 1 _, ((RZ.out.ext HX6.out).far (by show w.heap.size + 1 + 1 ≠ w.heap.size + 1; omega) _).far (by show w.heap.size + 1 + 1 ≠ w.heap.size + 1; omega) _, HV6.out.box (RN.out.ext HX6.out), hid (stepI_big hM.out HFZ.out), hid (HAT.out.next HFZ.out hlt), ((EX.out.step HX6.out).set' (by show w.heap.size ≤ w.heap.size + 1; omega) _).set' (by show w.heap.size ≤ w.heap.size + 1; omega) _⟩)
        go_wp2
        go_roundw
        case rel => exact HFIN.out
        case measure => first | (simp [intOf]; done) | (simp [intOf]; omega)
      · have HFB0 : Hid ((false : Bool) = true ↔ K.fits z) := hid ⟨fun h => Bool.noConfusion h, fun h => absurd h hfz⟩
        have HO : Hid (runO m us ad k x = if (false : Bool) = true then some z else none) := hid (by rw [HAT.out.no hfz]; rfl)
        have HFZ := hid hfz
        clear hfz
        go_wp2_with fail
        refine (rfits_any _ z wr VZ.out ZB.out false (hid ⟨fun h => Bool.noConfusion h, fun h => absurd h HFZ.out⟩)).mono ?_
        rintro e wE ⟨rfl, hxE⟩
        have RN := hid (RN.out.ext hxE)
        have RZ := hid (RZ.out.ext hxE)
        have VZ := hid (VZ.out.ext hxE)
        have EX := hid (EX.out.step hxE)
        clear g0 g1 g2 g3 hxE
        go_wp2_with fail
        have hcur : Ext wE wE := Ext.rfl' _
        have HS : Hid (∀ W', Ext wE W' → W'.cell? ⟨w.heap.size + 1, 0, none⟩ = some (.bool b) ∧ W'.cell? ⟨w.heap.size + 1, 1, none⟩ = some (.slice P q c)) := hid (fun W' e => by
          obtain ⟨p0, p1, -, -⟩ := row_facts (RN.out.ext e)
          exact ⟨p0, p1⟩)
        obtain ⟨z0, z1, z2, z3⟩ := row_facts RZ.out
        go_region_held3 (fun W' => W'.cell? ⟨w.heap.size + 1, 0, none⟩ = some (.bool b) ∧ W'.cell? ⟨w.heap.size + 1, 1, none⟩ = some (.slice P q c))
          (first | exact HS.out _ hcur | exact HS.out _ hcur.drew' | exact ⟨by rw [far2R (by show _ ≠ _; omega), far2R (by show _ ≠ _; omega)]; exact (HS.out _ hcur).1, by rw [far2R (by show _ ≠ _; omega), far2R (by show _ ≠ _; omega)]; exact (HS.out _ hcur).2⟩ | go_keep)
          (first
            | (go_at_call 27; refine (rfits_any _ z _ (VZ.out.ext ?_) ZB.out false (hid ⟨fun h => Bool.noConfusion h, fun h => absurd h HFZ.out⟩)).mono ?_; (first | exact hcur | exact hcur.drew' | exact hcur.alloc' _ | exact hcur.drew'.alloc' _ | exact (hcur.alloc' _).drew'); rintro e w9 ⟨rfl, hx⟩; have hcur := Ext.step hcur (by first | exact hx | exact Ext.undrew hx | exact Ext.step ((Ext.rfl' _).alloc' _) hx | exact Ext.step ((Ext.rfl' _).drew'.alloc' _) hx); obtain ⟨z0, z1, z2, z3⟩ := row_facts (RZ.out.ext hcur)))
        all_goals
          have HF : Hid (RunPost (runO m us ad k x) w (.returned (.tuple #[.agg #[.bool b, .slice P q c], .bool false])) ((w9.setCell ⟨w.heap.size + 1 + 1, 0, none⟩ (.bool b)).setCell ⟨w.heap.size + 1 + 1, 1, none⟩ (.slice P q c))) := hid ⟨_, z, false, rfl, (VZ.out.ext hcur).box (RZ.out.ext hcur), hid HO.out, ((EX.out.step hcur).set' (by show w.heap.size ≤ w.heap.size + 1 + 1; omega) _).set' (by show w.heap.size ≤ w.heap.size + 1 + 1; omega) _⟩
          clear hcur
          go_wp2
          refine bodyPost_ret (v := .tuple #[.agg #[.bool b, .slice P q c], .bool false]) (by simp [results, Tryz.results23, go_sem, z0, z1]) rfl HF.out
    · obtain rfl : k = j := by omega
      obtain ⟨wE, hwE⟩ : ∃ wE, wr = wE := ⟨_, rfl⟩
      subst hwE
      by_cases hfz : K.fits z
      · have HO : Hid (runO m us ad k x = if (true : Bool) = true then some z else none) := hid (by rw [HAT.out.yes hfz]; rfl)
        have HFZ := hid hfz
        clear hfz
        go_wp2_with fail
        have hcur : Ext wr wr := Ext.rfl' _
        have HS : Hid (∀ W', Ext wr W' → W'.cell? ⟨w.heap.size + 1, 0, none⟩ = some (.bool b) ∧ W'.cell? ⟨w.heap.size + 1, 1, none⟩ = some (.slice P q c)) := hid (fun W' e => by
          obtain ⟨p0, p1, -, -⟩ := row_facts (RN.out.ext e)
          exact ⟨p0, p1⟩)
        obtain ⟨z0, z1, z2, z3⟩ := row_facts RZ.out
        go_region_held3 (fun W' => W'.cell? ⟨w.heap.size + 1, 0, none⟩ = some (.bool b) ∧ W'.cell? ⟨w.heap.size + 1, 1, none⟩ = some (.slice P q c))
          (first | exact HS.out _ hcur | exact HS.out _ hcur.drew' | exact ⟨by rw [far2R (by show _ ≠ _; omega), far2R (by show _ ≠ _; omega)]; exact (HS.out _ hcur).1, by rw [far2R (by show _ ≠ _; omega), far2R (by show _ ≠ _; omega)]; exact (HS.out _ hcur).2⟩ | go_keep)
          (first
            | (go_at_call 27; refine (rfits_any _ z _ (VZ.out.ext ?_) ZB.out true (hid ⟨fun _ => HFZ.out, fun _ => rfl⟩)).mono ?_; (first | exact hcur | exact hcur.drew' | exact hcur.alloc' _ | exact hcur.drew'.alloc' _ | exact (hcur.alloc' _).drew'); rintro e w9 ⟨rfl, hx⟩; have hcur := Ext.step hcur (by first | exact hx | exact Ext.undrew hx | exact Ext.step ((Ext.rfl' _).alloc' _) hx | exact Ext.step ((Ext.rfl' _).drew'.alloc' _) hx); obtain ⟨z0, z1, z2, z3⟩ := row_facts (RZ.out.ext hcur)))
        all_goals
          have HF : Hid (RunPost (runO m us ad k x) w (.returned (.tuple #[.agg #[.bool b, .slice P q c], .bool true])) ((w9.setCell ⟨w.heap.size + 1 + 1, 0, none⟩ (.bool b)).setCell ⟨w.heap.size + 1 + 1, 1, none⟩ (.slice P q c))) := hid ⟨_, z, true, rfl, (VZ.out.ext hcur).box (RZ.out.ext hcur), hid HO.out, ((EX.out.step hcur).set' (by show w.heap.size ≤ w.heap.size + 1 + 1; omega) _).set' (by show w.heap.size ≤ w.heap.size + 1 + 1; omega) _⟩
          clear hcur
          go_wp2
          refine bodyPost_ret (v := .tuple #[.agg #[.bool b, .slice P q c], .bool true]) (by simp [results, Tryz.results23, go_sem, z0, z1]) rfl HF.out
      · have HO : Hid (runO m us ad k x = if (false : Bool) = true then some z else none) := hid (by rw [HAT.out.no hfz]; rfl)
        have HFZ := hid hfz
        clear hfz
        go_wp2_with fail
        have hcur : Ext wr wr := Ext.rfl' _
        have HS : Hid (∀ W', Ext wr W' → W'.cell? ⟨w.heap.size + 1, 0, none⟩ = some (.bool b) ∧ W'.cell? ⟨w.heap.size + 1, 1, none⟩ = some (.slice P q c)) := hid (fun W' e => by
          obtain ⟨p0, p1, -, -⟩ := row_facts (RN.out.ext e)
          exact ⟨p0, p1⟩)
        obtain ⟨z0, z1, z2, z3⟩ := row_facts RZ.out
        go_region_held3 (fun W' => W'.cell? ⟨w.heap.size + 1, 0, none⟩ = some (.bool b) ∧ W'.cell? ⟨w.heap.size + 1, 1, none⟩ = some (.slice P q c))
          (first | exact HS.out _ hcur | exact HS.out _ hcur.drew' | exact ⟨by rw [far2R (by show _ ≠ _; omega), far2R (by show _ ≠ _; omega)]; exact (HS.out _ hcur).1, by rw [far2R (by show _ ≠ _; omega), far2R (by show _ ≠ _; omega)]; exact (HS.out _ hcur).2⟩ | go_keep)
          (first
            | (go_at_call 27; refine (rfits_any _ z _ (VZ.out.ext ?_) ZB.out false (hid ⟨fun h => Bool.noConfusion h, fun h => absurd h HFZ.out⟩)).mono ?_; (first | exact hcur | exact hcur.drew' | exact hcur.alloc' _ | exact hcur.drew'.alloc' _ | exact (hcur.alloc' _).drew'); rintro e w9 ⟨rfl, hx⟩; have hcur := Ext.step hcur (by first | exact hx | exact Ext.undrew hx | exact Ext.step ((Ext.rfl' _).alloc' _) hx | exact Ext.step ((Ext.rfl' _).drew'.alloc' _) hx); obtain ⟨z0, z1, z2, z3⟩ := row_facts (RZ.out.ext hcur)))
        all_goals
          have HF : Hid (RunPost (runO m us ad k x) w (.returned (.tuple #[.agg #[.bool b, .slice P q c], .bool false])) ((w9.setCell ⟨w.heap.size + 1 + 1, 0, none⟩ (.bool b)).setCell ⟨w.heap.size + 1 + 1, 1, none⟩ (.slice P q c))) := hid ⟨_, z, false, rfl, (VZ.out.ext hcur).box (RZ.out.ext hcur), hid HO.out, ((EX.out.step hcur).set' (by show w.heap.size ≤ w.heap.size + 1 + 1; omega) _).set' (by show w.heap.size ≤ w.heap.size + 1 + 1; omega) _⟩
          clear hcur
          go_wp2
          refine bodyPost_ret (v := .tuple #[.agg #[.bool b, .slice P q c], .bool false]) (by simp [results, Tryz.results23, go_sem, z0, z1]) rfl HF.out
end Go.Proofs.YtflgkijmbpcnfaaGreatDoor
