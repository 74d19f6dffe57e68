/- Joined texts: the reference's Div; the reckoner of package word; words and their linear maps: plain mathematics; word.check; the reference's Valid, of a map; the reference's Is of layer 3. -/
import Derived.Test.YtimokpcopeldfaaGreatDoorJG12
import Derived.Test.YtimokpcopeldfaaGreatDoorJG04
import Derived.Test.YtimokpcopeldfaaGreatDoorJG05
import Derived.Test.YtimokpcopeldfaaGreatDoorJG10
set_option linter.unusedSimpArgs false
set_option linter.unusedVariables false
/- the reference's Div -/
namespace Go.Proofs.YtimokpcopeldfaaGreatDoor
open Go.RowKit
def RPair (q r : Int) (w : World) (e : Ending) (w' : World) : Prop := ∃ v1 v2, e = .returned (.tuple #[v1, v2]) ∧ RefV w' v1 q ∧ RefV w' v2 r ∧ Ext w w'
/-- a number survives a store into another's box -/
theorem RefV.box {w : World} {v : Value} {q : Int} {A1 : Option Addr} {H k1 c1 : Nat} {t : TypeId} {x : Bool} {a b : Value} (h : RefV w v q) (r : Row w H t [.bool x, .slice A1 k1 c1]) :
    RefV ((w.setCell ⟨H, 0, none⟩ a).setCell ⟨H, 1, none⟩ b) v q := by
  obtain ⟨A', k', c', xs, b', rfl, h1, h2, h3, h4, h5, h6⟩ := h
  exact ⟨_, _, _, xs, _, rfl, h1, h2, h3, RefV.two h4 r, h5, h6⟩
theorem RPair.stored {w w3 : World} {q r : Int} {v1 v2 : Value} {b1 b2 : Bool} {A1 A2 : Option Addr} {k1 c1 k2 c2 H : Nat} {t : TypeId} (r1 : Row w3 H t [.bool false, .slice none 0 0]) (r2 : Row w3 (H + 1) t [.bool false, .slice none 0 0])
    (hw : Ext w w3) (hH : w.heap.size ≤ H) (h1 : RefV w3 v1 q) (h2 : RefV w3 v2 r) (e1 : v1 = .agg #[.bool b1, .slice A1 k1 c1]) (e2 : v2 = .agg #[.bool b2, .slice A2 k2 c2]) :
    RPair q r w (.returned (.tuple #[.agg #[.bool b1, .slice A1 k1 c1], .agg #[.bool b2, .slice A2 k2 c2]]))
      ((((w3.setCell ⟨H, 0, none⟩ (.bool b1)).setCell ⟨H, 1, none⟩ (.slice A1 k1 c1)).setCell ⟨H + 1, 0, none⟩ (.bool b2)).setCell ⟨H + 1, 1, none⟩ (.slice A2 k2 c2)) := by
  subst e1 e2
  have r2' : Row ((w3.setCell ⟨H, 0, none⟩ (.bool b1)).setCell ⟨H, 1, none⟩ (.slice A1 k1 c1)) (H + 1) t [.bool false, .slice none 0 0] :=
    (r2.far (by show H + 1 ≠ H; omega) _).far (by show H + 1 ≠ H; omega) _
  exact ⟨_, _, rfl, (h1.box r1).box r2', (h2.box r1).box r2',
    (((hw.set' (by show _ ≤ H; omega) _).set' (by show _ ≤ H; omega) _).set' (by show _ ≤ H + 1; omega) _).set' (by show _ ≤ H + 1; omega) _⟩
theorem far2 {w : World} {H i g j : Nat} {u : Value} (h : H ≠ g) : (w.setCell ⟨H, i, none⟩ u).cell? ⟨g, j, none⟩ = w.cell? ⟨g, j, none⟩ := World.cell?_setCell_far _ _ _ _ h
theorem RPair.drew {w w' : World} {q r : Int} {e : Ending} (h : RPair q r w e w') : RPair q r w e w'.drew := by
  obtain ⟨v1, v2, h1, h2, h3, h4⟩ := h
  exact ⟨v1, v2, h1, h2.ext (Ext.rfl' _).drew', h3.ext (Ext.rfl' _).drew', h4.drew'⟩
set_option maxRecDepth 100000 in
set_option maxHeartbeats 6400000 in
theorem rdiv_any (va vb : Value) (a : Int) (b : Nat) (w : World) (ha : RefV w va a) (hb : RefV w vb (b : Int)) (la : a.natAbs ≤ BIG) (lb : b ≤ BIG) (hb0 : 0 < b) :
    Calls Tryz.prog 45 #[va, vb] w (RPair (a / b) (a % b) w) := by
  have HA := hid ha
  have HB := hid hb
  obtain ⟨A, ka, ca, xs, na, rfl, HNA, hla, hca, hra, hLa, hva⟩ := ha
  obtain ⟨B, kb, cb, ys, nb, rfl, -⟩ := hb
  have hW4 : Ext w ((((w.alloc (.cells #[.bool na, .slice A ka ca] 47)).alloc (.cells #[.bool nb, .slice B kb cb] 47)).alloc (.cells #[.bool false, .slice none 0 0] 47)).alloc (.cells #[.bool false, .slice none 0 0] 47)) := ((((Ext.rfl' w).alloc' _).alloc' _).alloc' _).alloc' _
  have hk := fun w' (e : Ext ((((w.alloc (.cells #[.bool na, .slice A ka ca] 47)).alloc (.cells #[.bool nb, .slice B kb cb] 47)).alloc (.cells #[.bool false, .slice none 0 0] 47)).alloc (.cells #[.bool false, .slice none 0 0] 47)) w') => four e
  obtain ⟨W4, hW4e⟩ : ∃ W4, ((((w.alloc (.cells #[.bool na, .slice A ka ca] 47)).alloc (.cells #[.bool nb, .slice B kb cb] 47)).alloc (.cells #[.bool false, .slice none 0 0] 47)).alloc (.cells #[.bool false, .slice none 0 0] 47)) = W4 := ⟨_, rfl⟩
  have hsz : W4.heap.size = w.heap.size + 1 + 1 + 1 + 1 := by rw [← hW4e]; simp
  rw [hW4e] at hW4
  rw [hW4e] at hk
  have hrq : Row ((W4.alloc (.cells #[.bool false, .slice none 0 0] 47)).alloc (.cells #[.bool false, .slice A ka ca] 47)) (w.heap.size + 1 + 1 + 1 + 1) 47 [.bool false, .slice none 0 0] := by
    have := Row.alloc (Row.new W4 47 [.bool false, .slice none 0 0]) (.cells #[.bool false, .slice A ka ca] 47)
    rwa [hsz] at this
  have hrr : Row ((W4.alloc (.cells #[.bool false, .slice none 0 0] 47)).alloc (.cells #[.bool false, .slice A ka ca] 47)) (w.heap.size + 1 + 1 + 1 + 1 + 1) 47 [.bool false, .slice A ka ca] := by
    have := Row.new (W4.alloc (.cells #[.bool false, .slice none 0 0] 47)) 47 [.bool false, .slice A ka ca]
    rwa [World.size_alloc, hsz] at this
  have hx6 : Ext W4 ((W4.alloc (.cells #[.bool false, .slice none 0 0] 47)).alloc (.cells #[.bool false, .slice A ka ca] 47)) := ((Ext.rfl' W4).alloc' _).alloc' _
  have hvr : RefV ((W4.alloc (.cells #[.bool false, .slice none 0 0] 47)).alloc (.cells #[.bool false, .slice A ka ca] 47)) (.agg #[.bool false, .slice A ka ca]) (a.natAbs : Int) :=
    ⟨A, ka, ca, xs, false, rfl, hid (by symm; exact decide_eq_false (by omega)), hla, hca, (hra.ext hW4).ext hx6, hLa, by rw [hva, Int.natAbs_natCast]⟩
  have hvq : RefV ((W4.alloc (.cells #[.bool false, .slice none 0 0] 47)).alloc (.cells #[.bool false, .slice A ka ca] 47)) (.agg #[.bool false, .slice none 0 0]) ((0 : Nat) : Int) :=
    ⟨none, 0, 0, [], false, rfl, hid (by rfl), rfl, Nat.le_refl _, Rd.nil _ _, K.Lim.nil, rfl⟩
  have HK := hid hk
  have HSZ := hid hsz
  have HW4 := hid hW4
  have HE := hid hW4e
  have HRQ := hid hrq
  have HRR := hid hrr
  have HX6 := hid hx6
  have HVR := hid hvr
  have HVQ := hid hvq
  obtain ⟨⟨k0, k1, k2, k3⟩, -⟩ := hk _ (Ext.rfl' _)
  clear hra hla hLa hva hW4 hk hsz hW4e hrq hrr hx6 hvr hvq
  go_enter Tryz.func45, Tryz.ntmps45
  go_upto_region 1 with fail
  rw [HE.out]
  have hx5 : Ext W4 (W4.alloc (.cells #[.bool false, .slice none 0 0] 47)) := (Ext.rfl' W4).alloc' _
  obtain ⟨W5, hW5⟩ : ∃ W5, W4.alloc (.cells #[.bool false, .slice none 0 0] 47) = W5 := ⟨_, rfl⟩
  rw [hW5] at hx5 HRQ HRR HX6 HVR HVQ
  have HW5 := hid hW5
  have hsz5 : W5.heap.size = w.heap.size + 1 + 1 + 1 + 1 + 1 := by rw [← hW5, World.size_alloc, HSZ.out]
  have HSZ5 := hid hsz5
  clear k0 k1 k2 k3 hW5 hsz5
  obtain ⟨⟨k0, k1, k2, k3⟩, -⟩ := HK.out _ hx5
  go_upto_region 2 with fail
  rw [HW5.out, HSZ.out]
  go_wp2_with fail
  clear k0 k1 k2 k3
  rw [HSZ5.out]
  go_loopg [8] a.natAbs (fun g _ wr => ∃ (Q R : Nat) (bq br : Bool) (Aq Ar : Option Addr) (kq cq kr cr : Nat), R = g ∧ Row wr (w.heap.size + 1 + 1 + 1 + 1) 47 [.bool bq, .slice Aq kq cq] ∧ Row wr (w.heap.size + 1 + 1 + 1 + 1 + 1) 47 [.bool br, .slice Ar kr cr] ∧
      RefV wr (.agg #[.bool bq, .slice Aq kq cq]) (Q : Int) ∧ RefV wr (.agg #[.bool br, .slice Ar kr cr]) (R : Int) ∧ Hid (Q * b + R = a.natAbs) ∧ Ext W4 wr)
  case atStart => exact ⟨0, a.natAbs, _, _, _, _, _, _, _, _, rfl, HRQ.out, HRR.out, HVQ.out, HVR.out, hid (by simp), HX6.out⟩
  case round =>
    obtain ⟨Q, R, bq, br, Aq, Ar, kq, cq, kr, cr, rfl, hrq, hrr, hvq, hvr, HQR, hex⟩ := hrel
    have HRBIG : Hid (R ≤ BIG) := hid (by have := HQR.out; omega)
    have HQBIG : Hid (Q ≤ BIG) := hid (by have := HQR.out; have := Nat.le_mul_of_pos_right Q hb0; omega)
    have HRQ := hid hrq
    have HRR := hid hrr
    have HVQ := hid hvq
    have HVR := hid hvr
    obtain ⟨⟨k0, k1, k2, k3⟩, -⟩ := HK.out _ hex
    obtain ⟨q0, q1, -, -⟩ := row_facts hrq
    obtain ⟨r0, r1, -, -⟩ := row_facts hrr
    clear hrq hrr hvq hvr HX6
    by_cases hlt : R < b
    · have hsv : sgnI (R : Int) (b : Int) = -1 := by unfold sgnI; rw [if_pos (by omega)]
      have HSV := hid hsv
      clear hsv
      go_wp2_with fail
      refine (rcmp_any _ _ (R : Int) (b : Int) wr HVR.out ((HB.out.ext HW4.out).ext hex) (by rw [Int.natAbs_natCast]; exact HRBIG.out) (by rw [Int.natAbs_natCast]; exact lb)).mono ?_
      rintro e w5 ⟨rfl, hx5⟩
      rw [HSV.out]
      have hqv : Q = a.natAbs / b ∧ R = a.natAbs % b := by
        have e := HQR.out
        have h1 : a.natAbs / b = Q := by
          rw [← e, Nat.mul_comm, Nat.mul_add_div (by omega), Nat.div_eq_of_lt hlt]; rfl
        have h2 : a.natAbs % b = R := by rw [← e, Nat.mul_comm, Nat.mul_add_mod, Nat.mod_eq_of_lt hlt]
        exact ⟨h1.symm, h2.symm⟩
      have HQV := hid hqv
      have hex5 := hex.step hx5
      have HEX5 := hid hex5
      have HRQ5 := hid (HRQ.out.ext hx5)
      have HRR5 := hid (HRR.out.ext hx5)
      have HVQ5 := hid (HVQ.out.ext hx5)
      have HVR5 := hid (HVR.out.ext hx5)
      have HWW5 := hid (HW4.out.step hex5)
      clear k0 k1 k2 k3 q0 q1 r0 r1 HRQ HRR HVQ HVR hex hx5 hqv
      obtain ⟨⟨k0, k1, k2, k3⟩, s1, s2, hlen⟩ := HK.out _ hex5
      obtain ⟨q0, q1, -, -⟩ := row_facts HRQ5.out
      obtain ⟨r0, r1, -, -⟩ := row_facts HRR5.out
      have S1 := hid s1
      have S2 := hid s2
      obtain ⟨x0, x1, x2, x3⟩ := row_facts s1
      obtain ⟨y0, y1, y2, y3⟩ := row_facts s2
      clear s1 s2 hex5
      have n1 : ¬ (w.heap.size + 1 + 1 = w.heap.size + 1 + 1 + 1 + 1) := by omega
      have n2 : ¬ (w.heap.size + 1 + 1 = w.heap.size + 1 + 1 + 1 + 1 + 1) := by omega
      have n3 : ¬ (w.heap.size + 1 + 1 + 1 = w.heap.size + 1 + 1 + 1 + 1) := by omega
      have n4 : ¬ (w.heap.size + 1 + 1 + 1 = w.heap.size + 1 + 1 + 1 + 1 + 1) := by omega
      have n5 : ¬ (w.heap.size + 1 + 1 = w.heap.size + 1) := by omega
      have n6 : ¬ (w.heap.size + 1 + 1 + 1 = w.heap.size + 1) := by omega
      have m1 : ¬ (w.heap.size + 1 + 1 + 1 + 1 = w.heap.size + 1 + 1) := by omega
      have m2 : ¬ (w.heap.size + 1 + 1 + 1 + 1 + 1 = w.heap.size + 1 + 1) := by omega
      have m3 : ¬ (w.heap.size + 1 + 1 + 1 + 1 = w.heap.size + 1 + 1 + 1) := by omega
      have m4 : ¬ (w.heap.size + 1 + 1 + 1 + 1 + 1 = w.heap.size + 1 + 1 + 1) := by omega
      have m5 : ¬ (w.heap.size + 1 = w.heap.size + 1 + 1) := by omega
      have m6 : ¬ (w.heap.size + 1 = w.heap.size + 1 + 1 + 1) := by omega
      cases na with
      | false =>
        have ha0 : 0 ≤ a := by have := HNA.out; simpa using this.symm
        have e1 : a / (b : Int) = (Q : Int) := by rw [HQV.out.1, Int.natCast_ediv]; congr 1; omega
        have e2 : a % (b : Int) = (R : Int) := by rw [HQV.out.2, Int.natCast_emod]; congr 1; omega
        have E1 := hid e1
        have E2 := hid e2
        clear e1 e2 ha0
        go_wp2_with fail
        go_region_held3 (fun w' => w'.cell? ⟨w.heap.size + 1 + 1 + 1 + 1, 0, none⟩ = some (.bool bq) ∧ w'.cell? ⟨w.heap.size + 1 + 1 + 1 + 1, 1, none⟩ = some (.slice Aq kq cq) ∧ w'.cell? ⟨w.heap.size + 1 + 1 + 1 + 1 + 1, 0, none⟩ = some (.bool br) ∧ w'.cell? ⟨w.heap.size + 1 + 1 + 1 + 1 + 1, 1, none⟩ = some (.slice Ar kr cr)) (go_keep) (fail)
        have hfin := (RPair.stored (q := a / (b : Int)) (r := a % (b : Int)) S1.out S2.out HWW5.out (by omega) (by rw [E1.out]; exact HVQ5.out) (by rw [E2.out]; exact HVR5.out) rfl rfl).drew
        have HF := hid hfin
        clear hfin
        go_wp2
        refine bodyPost_ret (v := .tuple #[.agg #[.bool bq, .slice Aq kq cq], .agg #[.bool br, .slice Ar kr cr]]) (by simp [results, Tryz.results45, go_sem, x0, x1, y0, y1]) rfl HF.out
      | true =>
        have ha0 : a < 0 := by have := HNA.out; simpa using this.symm
        have HKQ : Hid (∀ w', Ext w5 w' → w'.cell? ⟨w.heap.size + 1 + 1 + 1 + 1, 0, none⟩ = some (.bool bq) ∧ w'.cell? ⟨w.heap.size + 1 + 1 + 1 + 1, 1, none⟩ = some (.slice Aq kq cq) ∧ w'.cell? ⟨w.heap.size + 1 + 1 + 1 + 1 + 1, 0, none⟩ = some (.bool br) ∧ w'.cell? ⟨w.heap.size + 1 + 1 + 1 + 1 + 1, 1, none⟩ = some (.slice Ar kr cr)) := hid fun w' e => by
          obtain ⟨a0, a1, -, -⟩ := row_facts (HRQ5.out.ext e)
          obtain ⟨b0, b1, -, -⟩ := row_facts (HRR5.out.ext e)
          exact ⟨a0, a1, b0, b1⟩
        have hcur : Ext w5 w5 := Ext.rfl' _
        by_cases hr0 : R = 0
        · subst hr0
          have hv := div_neg (n := (b : Int)) ha0 (by omega) (by rw [Int.natAbs_natCast]; exact HQV.out.2.symm)
          rw [Int.natAbs_natCast, ← HQV.out.1] at hv
          have HVD := hid hv
          clear hv ha0
          go_wp2_with fail
          refine (rsign_at0 w5 HVR5.out (hid (show sgn0 ((0 : Nat) : Int) = 0 from rfl))).mono ?_
          rintro e w6 ⟨rfl, hx6⟩
          have hcur := hx6
          clear x0 x1 x2 x3 y0 y1 y2 y3 q0 q1 r0 r1 k0 k1 k2 k3
          obtain ⟨q0, q1, r0, r1⟩ := HKQ.out _ hcur
          obtain ⟨x0, x1, x2, x3⟩ := row_facts (S1.out.ext hcur)
          obtain ⟨y0, y1, y2, y3⟩ := row_facts (S2.out.ext hcur)
          go_wp2_with fail
          go_region_held3 (fun w' => w'.cell? ⟨w.heap.size + 1 + 1 + 1 + 1, 0, none⟩ = some (.bool bq) ∧ w'.cell? ⟨w.heap.size + 1 + 1 + 1 + 1, 1, none⟩ = some (.slice Aq kq cq) ∧ w'.cell? ⟨w.heap.size + 1 + 1 + 1 + 1 + 1, 0, none⟩ = some (.bool br) ∧ w'.cell? ⟨w.heap.size + 1 + 1 + 1 + 1 + 1, 1, none⟩ = some (.slice Ar kr cr)) (first | go_keep | exact HKQ.out _ hcur)
            (first | (go_at_call 79; refine (rminus_any _ (Q : Int) _ (HVQ5.out.ext ?_)).mono ?_; (first | exact hcur | exact hcur.drew'); rintro e w7 ⟨v7, rfl, hv7, hx⟩; have hcur := Ext.step hcur (by first | exact hx | exact Ext.undrew hx); have HV7 := hid hv7; obtain ⟨A7, k7, c7, xs7, b7, rfl, -⟩ := hv7; obtain ⟨x0, x1, x2, x3⟩ := row_facts (S1.out.ext hcur); obtain ⟨y0, y1, y2, y3⟩ := row_facts (S2.out.ext hcur)))
          all_goals
            have hfin := RPair.stored (S1.out.ext hcur) (S2.out.ext hcur) (HWW5.out.step hcur) (by omega) (q := a / (b : Int)) (by rw [HVD.out.1]; exact HV7.out) (r := a % (b : Int)) (by rw [HVD.out.2]; exact HVR5.out.ext hcur) rfl rfl
            have HF := hid hfin
            clear hfin
            go_wp2
            refine bodyPost_ret (v := .tuple #[.agg #[.bool b7, .slice A7 k7 c7], .agg #[.bool br, .slice Ar kr cr]]) (by simp [results, Tryz.results45, go_sem, x0, x1, y0, y1]) rfl ?_
            first | exact HF.out | exact HF.out.drew
        · have hr1 : 0 < R := by omega
          have hv := div_neg' (n := (b : Int)) ha0 (by omega) (by rw [Int.natAbs_natCast, ← HQV.out.2]; exact hr1)
          rw [Int.natAbs_natCast, ← HQV.out.2, ← HQV.out.1] at hv
          have HVD := hid hv
          have hs1 : sgn0 ((R : Nat) : Int) = 1 := by unfold sgn0; rw [if_neg (by omega), if_neg (by omega)]
          have HS1 := hid hs1
          have hone : (1 : Int).natAbs ≤ BIG := by unfold BIG; rw [show (1000 : Nat) = 999 + 1 from rfl, zeros_succ, K.lv]; omega
          have HONE := hid hone
          have HQB : Hid ((Q : Int).natAbs ≤ BIG) := hid (by rw [Int.natAbs_natCast]; exact HQBIG.out)
          have HRB : Hid ((R : Int).natAbs ≤ BIG) := hid (by rw [Int.natAbs_natCast]; exact HRBIG.out)
          have HBB : Hid ((b : Int).natAbs ≤ BIG) := hid (by rw [Int.natAbs_natCast]; exact lb)
          have hrb : R ≤ b := by omega
          clear hv ha0 hr0 hs1 hone
          go_wp2_with fail
          refine (rsign_at0 w5 HVR5.out HS1).mono ?_
          rintro e w6 ⟨rfl, hx6⟩
          have hcur := hx6
          have HKB : Hid (∀ w', Ext w5 w' → w'.cell? ⟨w.heap.size + 1, 0, none⟩ = some (.bool nb) ∧ w'.cell? ⟨w.heap.size + 1, 1, none⟩ = some (.slice B kb cb)) := hid fun w' e => by
            obtain ⟨⟨-, -, b2, b3⟩, -⟩ := HK.out _ (HEX5.out.step e)
            exact ⟨b2, b3⟩
          clear x0 x1 x2 x3 y0 y1 y2 y3 q0 q1 r0 r1 k0 k1 k2 k3
          obtain ⟨q0, q1, r0, r1⟩ := HKQ.out _ hcur
          obtain ⟨k2, k3⟩ := HKB.out _ hcur
          obtain ⟨x0, x1, x2, x3⟩ := row_facts (S1.out.ext hcur)
          obtain ⟨y0, y1, y2, y3⟩ := row_facts (S2.out.ext hcur)
          have HB5 := hid (HB.out.ext HWW5.out)
          go_wp2_with fail
          go_region_held3 (fun w' => w'.cell? ⟨w.heap.size + 1, 0, none⟩ = some (.bool nb) ∧ w'.cell? ⟨w.heap.size + 1, 1, none⟩ = some (.slice B kb cb) ∧ w'.cell? ⟨w.heap.size + 1 + 1 + 1 + 1, 0, none⟩ = some (.bool bq) ∧ w'.cell? ⟨w.heap.size + 1 + 1 + 1 + 1, 1, none⟩ = some (.slice Aq kq cq) ∧ w'.cell? ⟨w.heap.size + 1 + 1 + 1 + 1 + 1, 0, none⟩ = some (.bool br) ∧ w'.cell? ⟨w.heap.size + 1 + 1 + 1 + 1 + 1, 1, none⟩ = some (.slice Ar kr cr)) (first | exact ⟨(HKB.out _ hcur).1, (HKB.out _ hcur).2, HKQ.out _ hcur⟩ | (refine ⟨?_, ?_, ?_, ?_, ?_, ?_⟩ <;> (repeat (rw [far2 (by omega)])) <;> (first | exact (HKB.out _ hcur).1 | exact (HKB.out _ hcur).2 | exact (HKQ.out _ hcur).1 | exact (HKQ.out _ hcur).2.1 | exact (HKQ.out _ hcur).2.2.1 | exact (HKQ.out _ hcur).2.2.2)) | go_keep)
            (first
              | (go_at_call 29; refine (of_one _).mono ?_; rintro e w7 ⟨v7, rfl, hv7, hx⟩; (try have HV10 := hid (HV10.out.ext (w' := w7) (by first | exact hx | exact Ext.undrew hx))); have HV7 := hid hv7; obtain ⟨A7, k7, c7, xs7, b7, rfl, -⟩ := hv7; have hcur := Ext.step hcur (by first | exact hx | exact Ext.undrew hx); obtain ⟨x0, x1, x2, x3⟩ := row_facts (S1.out.ext hcur); obtain ⟨y0, y1, y2, y3⟩ := row_facts (S2.out.ext hcur))
              | (go_at_call 32; refine (radd_any _ _ (Q : Int) 1 _ (HVQ5.out.ext ?_) (HV7.out.ext ?_) HQB.out HONE.out).mono ?_; (first | exact hcur | exact hcur.drew'); (first | exact Ext.rfl' _ | exact (Ext.rfl' _).drew'); rintro e w8 ⟨v8, rfl, hv8, hx⟩; (try have HV10 := hid (HV10.out.ext (w' := w8) (by first | exact hx | exact Ext.undrew hx))); have HV8 := hid hv8; obtain ⟨A8, k8, c8, xs8, b8, rfl, -⟩ := hv8; have hcur := Ext.step hcur (by first | exact hx | exact Ext.undrew hx); obtain ⟨x0, x1, x2, x3⟩ := row_facts (S1.out.ext hcur); obtain ⟨y0, y1, y2, y3⟩ := row_facts (S2.out.ext hcur))
              | (go_at_call 79; refine (rminus_any _ ((Q : Int) + 1) _ (HV8.out.ext ?_)).mono ?_; (first | exact Ext.rfl' _ | exact (Ext.rfl' _).drew'); rintro e w9 ⟨v9, rfl, hv9, hx⟩; (try have HV10 := hid (HV10.out.ext (w' := w9) (by first | exact hx | exact Ext.undrew hx))); have HV9 := hid hv9; obtain ⟨A9, k9, c9, xs9, b9, rfl, -⟩ := hv9; have hcur := Ext.step hcur (by first | exact hx | exact Ext.undrew hx); obtain ⟨x0, x1, x2, x3⟩ := row_facts (S1.out.ext hcur); obtain ⟨y0, y1, y2, y3⟩ := row_facts (S2.out.ext hcur))
              | (go_at_call 33; refine (rsub_any _ _ (b : Int) (R : Int) _ (HB5.out.ext ?_) (HVR5.out.ext ?_) HBB.out HRB.out).mono ?_; (first | exact hcur | exact hcur.drew'); (first | exact hcur | exact hcur.drew'); rintro e w10 ⟨v10, rfl, hv10, hx⟩; (try have HV7 := hid (HV7.out.ext (w' := w10) (by first | exact hx | exact Ext.undrew hx))); (try have HV8 := hid (HV8.out.ext (w' := w10) (by first | exact hx | exact Ext.undrew hx))); (try have HV9 := hid (HV9.out.ext (w' := w10) (by first | exact hx | exact Ext.undrew hx))); have HV10 := hid hv10; obtain ⟨A10, k10, c10, xs10, b10, rfl, -⟩ := hv10; have hcur := Ext.step hcur (by first | exact hx | exact Ext.undrew hx); obtain ⟨x0, x1, x2, x3⟩ := row_facts (S1.out.ext hcur); obtain ⟨y0, y1, y2, y3⟩ := row_facts (S2.out.ext hcur)))
          all_goals
            have hv9 := HV9.out
            have hv10 := HV10.out
            rw [show -((Q : Int) + 1) = a / (b : Int) by rw [HVD.out.1]; omega] at hv9
            rw [show (b : Int) - (R : Int) = a % (b : Int) by rw [HVD.out.2, Int.ofNat_sub hrb]] at hv10
            have hfin := RPair.stored (S1.out.ext hcur) (S2.out.ext hcur) (HWW5.out.step hcur) (by omega) hv9 hv10 rfl rfl
            have HF := hid hfin
            clear hfin hv9 hv10
            go_wp2
            refine bodyPost_ret (v := .tuple #[.agg #[.bool b9, .slice A9 k9 c9], .agg #[.bool b10, .slice A10 k10 c10]]) (by simp [results, Tryz.results45, go_sem, x0, x1, y0, y1]) rfl ?_
            first | exact HF.out | exact HF.out.drew
    · have hsv : 0 ≤ sgnI (R : Int) (b : Int) := by unfold sgnI; rw [if_neg (by omega)]; split <;> omega
      obtain ⟨sv, hsv2⟩ : ∃ sv, sgnI (R : Int) (b : Int) = sv := ⟨_, rfl⟩
      rw [hsv2] at hsv
      have HSV := hid hsv2
      clear hsv2
      go_wp2_with fail
      refine (rcmp_any _ _ (R : Int) (b : Int) wr HVR.out ((HB.out.ext HW4.out).ext hex) (by rw [Int.natAbs_natCast]; exact HRBIG.out) (by rw [Int.natAbs_natCast]; exact lb)).mono ?_
      rintro e w5 ⟨rfl, hx5⟩
      rw [HSV.out]
      have hex5 := hex.step hx5
      have HRQ5 := hid (HRQ.out.ext hx5)
      have HRR5 := hid (HRR.out.ext hx5)
      have HVQ5 := hid (HVQ.out.ext hx5)
      have HVR5 := hid (HVR.out.ext hx5)
      clear k0 k1 k2 k3 q0 q1 r0 r1 HRQ HRR HVQ HVR hex hx5
      obtain ⟨⟨k0, k1, k2, k3⟩, -⟩ := HK.out _ hex5
      obtain ⟨r0, r1, -, -⟩ := row_facts HRR5.out
      go_wp2_with fail
      refine (rguess_any _ _ R b w5 HVR5.out ((HB.out.ext HW4.out).ext hex5) HRBIG.out hb0 (by omega)).mono ?_
      rintro e w6 ⟨vg, g, rfl, hvg, hg1, hgb, hx6⟩
      have HVG0 := hid hvg
      obtain ⟨Ag, kg, cg, xsg, bg, rfl, -⟩ := hvg
      have hx7 : Ext w5 (w6.alloc (.cells #[.bool bg, .slice Ag kg cg] 47)) := hx6.alloc' _
      have hx67 : Ext w6 (w6.alloc (.cells #[.bool bg, .slice Ag kg cg] 47)) := (Ext.rfl' w6).alloc' _
      have hrg : Row (w6.alloc (.cells #[.bool bg, .slice Ag kg cg] 47)) w6.heap.size 47 [.bool bg, .slice Ag kg cg] := Row.new w6 _ _
      have hgl : w.heap.size + 1 + 1 + 1 + 1 + 1 < w6.heap.size := (HRR5.out.ext hx6).lt
      obtain ⟨W7, hW7⟩ : ∃ W7, w6.alloc (.cells #[.bool bg, .slice Ag kg cg] 47) = W7 := ⟨_, rfl⟩
      rw [hW7] at hx7 hx67 hrg
      have HW7 := hid hW7
      have HRG := hid hrg
      have HVG := hid (HVG0.out.ext hx67)
      have hex7 := hex5.step hx7
      have HRQ7 := hid (HRQ5.out.ext hx7)
      have HRR7 := hid (HRR5.out.ext hx7)
      have HVQ7 := hid (HVQ5.out.ext hx7)
      have HVR7 := hid (HVR5.out.ext hx7)
      clear k0 k1 k2 k3 r0 r1 HRQ5 HRR5 HVQ5 HVR5 hex5 hx7 hx67 hrg hW7 HVG0 hx6
      go_upto_region 5 with fail
      rw [HW7.out]
      obtain ⟨q0, q1, -, -⟩ := row_facts HRQ7.out
      obtain ⟨g0, g1, -, -⟩ := row_facts HRG.out
      have hgB : g ≤ BIG := by
        have h1 := Nat.le_mul_of_pos_right g hb0
        have h2 := HRBIG.out
        omega
      have HGB := hid hgB
      clear hgB
      go_wp2_with fail
      refine (radd_any _ _ (Q : Int) (g : Int) W7 HVQ7.out HVG.out (by rw [Int.natAbs_natCast]; exact HQBIG.out) (by rw [Int.natAbs_natCast]; exact HGB.out)).mono ?_
      rintro e w8 ⟨v8, rfl, hv8, hx8⟩
      have HV8 := hid hv8
      obtain ⟨A8, k8, c8, xs8, b8, rfl, -⟩ := hv8
      have hrq8 := HRQ7.out.ext hx8
      have hrr8 := HRR7.out.ext hx8
      have hrg8 := HRG.out.ext hx8
      have hrq9 : Row ((w8.setCell ⟨w.heap.size + 1 + 1 + 1 + 1, 0, none⟩ (.bool b8)).setCell ⟨w.heap.size + 1 + 1 + 1 + 1, 1, none⟩ (.slice A8 k8 c8)) (w.heap.size + 1 + 1 + 1 + 1) 47 [.bool b8, .slice A8 k8 c8] := (hrq8.set 0 _).set 1 _
      have hrr9 : Row ((w8.setCell ⟨w.heap.size + 1 + 1 + 1 + 1, 0, none⟩ (.bool b8)).setCell ⟨w.heap.size + 1 + 1 + 1 + 1, 1, none⟩ (.slice A8 k8 c8)) (w.heap.size + 1 + 1 + 1 + 1 + 1) 47 [.bool br, .slice Ar kr cr] := (hrr8.far (by show w.heap.size + 1 + 1 + 1 + 1 + 1 ≠ w.heap.size + 1 + 1 + 1 + 1; omega) _).far (by show w.heap.size + 1 + 1 + 1 + 1 + 1 ≠ w.heap.size + 1 + 1 + 1 + 1; omega) _
      have hrg9 : Row ((w8.setCell ⟨w.heap.size + 1 + 1 + 1 + 1, 0, none⟩ (.bool b8)).setCell ⟨w.heap.size + 1 + 1 + 1 + 1, 1, none⟩ (.slice A8 k8 c8)) w6.heap.size 47 [.bool bg, .slice Ag kg cg] := (hrg8.far (by show w6.heap.size ≠ w.heap.size + 1 + 1 + 1 + 1; omega) _).far (by show w6.heap.size ≠ w.heap.size + 1 + 1 + 1 + 1; omega) _
      have hv9 := HV8.out.box (a := .bool b8) (b := .slice A8 k8 c8) hrq8
      have hvr9 := (HVR7.out.ext hx8).box (a := .bool b8) (b := .slice A8 k8 c8) hrq8
      have hvg9 := (HVG.out.ext hx8).box (a := .bool b8) (b := .slice A8 k8 c8) hrq8
      have hex9 : Ext W4 ((w8.setCell ⟨w.heap.size + 1 + 1 + 1 + 1, 0, none⟩ (.bool b8)).setCell ⟨w.heap.size + 1 + 1 + 1 + 1, 1, none⟩ (.slice A8 k8 c8)) := ((hex7.step hx8).set' (by show W4.heap.size ≤ _; rw [HSZ.out]; exact Nat.le_refl _) _).set' (by show W4.heap.size ≤ _; rw [HSZ.out]; exact Nat.le_refl _) _
      obtain ⟨W9, hW9⟩ : ∃ W9, ((w8.setCell ⟨w.heap.size + 1 + 1 + 1 + 1, 0, none⟩ (.bool b8)).setCell ⟨w.heap.size + 1 + 1 + 1 + 1, 1, none⟩ (.slice A8 k8 c8)) = W9 := ⟨_, rfl⟩
      rw [hW9] at hrq9 hrr9 hrg9 hv9 hvr9 hvg9 hex9
      have HW9 := hid hW9
      have HRQ9 := hid hrq9
      have HRR9 := hid hrr9
      have HRG9 := hid hrg9
      have HV9 := hid hv9
      have HVR9 := hid hvr9
      have HVG9 := hid hvg9
      have HEX9 := hid hex9
      clear q0 q1 g0 g1
      obtain ⟨q0, q1, q2, q3⟩ := row_facts hrq8
      clear hrq8 hrr8 hrg8 hrq9 hrr9 hrg9 hv9 hvr9 hvg9 hex9 hW9 hx8 hex7 HRQ7 HRR7 HRG HVQ7 HVR7 HVG HV8
      go_upto_region 6 with fail
      rw [HW9.out]
      clear q0 q1 q2 q3
      obtain ⟨⟨k0, k1, k2, k3⟩, -⟩ := HK.out _ HEX9.out
      obtain ⟨r0, r1, r2, r3⟩ := row_facts HRR9.out
      obtain ⟨g0, g1, -, -⟩ := row_facts HRG9.out
      have hcur : Ext W9 W9 := Ext.rfl' _
      have HBW := hid ((HB.out.ext HW4.out).ext HEX9.out)
      have hgb2 : Hid (((g : Int) * (b : Int)).natAbs ≤ BIG) := hid (by rw [← Int.natCast_mul, Int.natAbs_natCast]; have := HRBIG.out; omega)
      have B1 : Hid ((g : Int).natAbs ≤ BIG) := hid (by rw [Int.natAbs_natCast]; exact HGB.out)
      have B2 : Hid ((b : Int).natAbs ≤ BIG) := hid (by rw [Int.natAbs_natCast]; exact lb)
      have B3 : Hid ((R : Int).natAbs ≤ BIG) := hid (by rw [Int.natAbs_natCast]; exact HRBIG.out)
      have HSUB : Hid ((R : Int) - (g : Int) * (b : Int) = ((R - g * b : Nat) : Int)) := hid (by rw [Int.ofNat_sub hgb, Int.natCast_mul])
      have HMEAS : Hid (R - g * b < R) := hid (by have := Nat.mul_pos (show 0 < g by omega) hb0; omega)
      have HNEW : Hid ((Q + g) * b + (R - g * b) = a.natAbs) := hid (by rw [← HQR.out, Nat.add_mul]; omega)
      have HGBL := hid hgb
      clear hgb HQR
      go_region_with (first
        | (go_at_call 31; refine (rmul_any _ _ (g : Int) (b : Int) _ (HVG9.out.ext ?_) (HBW.out.ext ?_) B1.out B2.out).mono ?_; (first | exact hcur | exact hcur.drew'); (first | exact hcur | exact hcur.drew'); rintro e w10 ⟨v10, rfl, hv10, hx⟩; have hcur := Ext.step hcur (by first | exact hx | exact Ext.undrew hx); have HV10 := hid hv10; obtain ⟨A10, k10, c10, xs10, b10, rfl, -⟩ := hv10; obtain ⟨r0, r1, r2, r3⟩ := row_facts (HRR9.out.ext hcur))
        | (go_at_call 33; refine (rsub_any _ _ (R : Int) ((g : Int) * (b : Int)) _ (HVR9.out.ext ?_) (HV10.out.ext ?_) B3.out hgb2.out).mono ?_; (first | exact hcur | exact hcur.drew'); (first | exact Ext.rfl' _ | exact (Ext.rfl' _).drew'); rintro e w11 ⟨v11, rfl, hv11, hx⟩; have hcur := Ext.step hcur (by first | exact hx | exact Ext.undrew hx); have HV11 := hid hv11; obtain ⟨A11, k11, c11, xs11, b11, rfl, -⟩ := hv11; obtain ⟨r0, r1, r2, r3⟩ := row_facts (HRR9.out.ext hcur)))
      all_goals
        have hr11 := HRR9.out.ext hcur
        have hrow : Row ((w11.setCell ⟨w.heap.size + 1 + 1 + 1 + 1 + 1, 0, none⟩ (.bool b11)).setCell ⟨w.heap.size + 1 + 1 + 1 + 1 + 1, 1, none⟩ (.slice A11 k11 c11)) (w.heap.size + 1 + 1 + 1 + 1 + 1) 47 [.bool b11, .slice A11 k11 c11] := (hr11.set 0 _).set 1 _
        have hqrow : Row ((w11.setCell ⟨w.heap.size + 1 + 1 + 1 + 1 + 1, 0, none⟩ (.bool b11)).setCell ⟨w.heap.size + 1 + 1 + 1 + 1 + 1, 1, none⟩ (.slice A11 k11 c11)) (w.heap.size + 1 + 1 + 1 + 1) 47 [.bool b8, .slice A8 k8 c8] := ((HRQ9.out.ext hcur).far (by show w.heap.size + 1 + 1 + 1 + 1 ≠ w.heap.size + 1 + 1 + 1 + 1 + 1; omega) _).far (by show w.heap.size + 1 + 1 + 1 + 1 ≠ w.heap.size + 1 + 1 + 1 + 1 + 1; omega) _
        have hvr := HV11.out.box (a := .bool b11) (b := .slice A11 k11 c11) hr11
        have hvq := (HV9.out.ext hcur).box (a := .bool b11) (b := .slice A11 k11 c11) hr11
        rw [HSUB.out] at hvr
        rw [← Int.natCast_add] at hvq
        have hexE : Ext W4 ((w11.setCell ⟨w.heap.size + 1 + 1 + 1 + 1 + 1, 0, none⟩ (.bool b11)).setCell ⟨w.heap.size + 1 + 1 + 1 + 1 + 1, 1, none⟩ (.slice A11 k11 c11)) := ((HEX9.out.step hcur).set' (by show W4.heap.size ≤ w.heap.size + 1 + 1 + 1 + 1 + 1; rw [HSZ.out]; omega) _).set' (by show W4.heap.size ≤ w.heap.size + 1 + 1 + 1 + 1 + 1; rw [HSZ.out]; omega) _
        have HROW := hid hrow
        have HQROW := hid hqrow
        have HVRN := hid hvr
        have HVQN := hid hvq
        have HEXE := hid hexE
        clear hrow hqrow hvr hvq hexE hr11 k0 k1 k2 k3 r0 r1 r2 r3 g0 g1
        go_wp2
        go_roundg (R - g * b)
        case measure => exact HMEAS.out
        case rel => exact ⟨Q + g, R - g * b, _, _, _, _, _, _, _, _, rfl, HQROW.out, HROW.out, HVQN.out, HVRN.out, HNEW, HEXE.out⟩
end Go.Proofs.YtimokpcopeldfaaGreatDoor
/- the reckoner of package word -/
namespace Go.Proofs.YtimokpcopeldfaaGreatDoor
open Go.RowKit
theorem Row.same {w : World} {g : Nat} {t : TypeId} {v : Value} (h : Row w g t [v]) : Ext w (w.setCell ⟨g, 0, none⟩ v) := by
  refine ⟨rfl, rfl, rfl, by rw [World.size_setCell]; exact Nat.le_refl _, fun j hj => ?_⟩
  by_cases e : j = g
  · subst e
    exact (h.set 0 v : Row _ _ _ [v]).trans h.symm
  · exact Below.heap_setCell w ⟨g, 0, none⟩ v j (by show j ≠ g; exact e)
def NoteW (g : Nat) (f c : Int) (w : World) : World := if f = 0 then w.setCell ⟨g, 0, none⟩ (.int .i64 c) else w
set_option maxRecDepth 100000 in
set_option maxHeartbeats 800000 in
theorem note_any (g : Nat) (s : ByteArray) (c f : Int) (w : World) (hr : Row w g 124 [.int .i64 f]) :
    Calls Tryz.prog 118 #[.pointer (some ⟨g, 0, none⟩), .string s, .int .i64 c] w (fun e w' => e = .returned (.string s) ∧ w' = NoteW g f c w) := by
  have c0 : w.cell? ⟨g, 0, none⟩ = some (.int .i64 f) := hr.cell 0
  have f0 := hr.free 0
  by_cases h : f = 0
  · subst h
    go_enter Tryz.func118, Tryz.ntmps118
    go_wp2
    go_ret
    exact ⟨rfl, rfl⟩
  · have hf : (f == 0) = false := by rw [beq_eq_false_iff_ne]; exact h
    have HN : Hid (NoteW g f c w = w) := hid (if_neg h)
    go_enter Tryz.func118, Tryz.ntmps118
    go_wp2
    go_ret
    exact ⟨rfl, HN.out.symm⟩
/-- what an operation of the reckoner leaves -/
def RecGen (r : Int) (f : Int) (g : Nat) (w0 : World) (e : Ending) (w' : World) : Prop :=
  ∃ (l : List UInt8) (f' : Int), e = .returned (.string (Str l)) ∧ Row w' g 124 [.int .i64 f'] ∧ (f' = 0 ∨ f' = 3) ∧ Hid (l.length ≤ 2001 ∧ (f = 0 → (K.fits r → f' = 0 ∧ l = K.txt r) ∧ (¬ K.fits r → f' = 3)) ∧ (f = 3 → f' = 3)) ∧ Ext w0 w'
def RecOk (r : Int) (w : World) (e : Ending) (w' : World) : Prop := e = .returned (.string (Str (K.txt r))) ∧ Ext w w'
theorem NoteW.row {g : Nat} {f c : Int} {w : World} (hr : Row w g 124 [.int .i64 f]) : Row (NoteW g f c w) g 124 [.int .i64 (if f = 0 then c else f)] := by
  unfold NoteW
  by_cases h : f = 0
  · rw [if_pos h, if_pos h]; exact hr.set 0 _
  · rw [if_neg h, if_neg h]; exact hr
theorem NoteW.ext {g : Nat} {f c : Int} {w w0 : World} (e : Ext w0 w) (hg : w0.heap.size ≤ g) : Ext w0 (NoteW g f c w) := by
  unfold NoteW
  by_cases h : f = 0
  · rw [if_pos h]; exact e.set' (by show _ ≤ g; exact hg) _
  · rw [if_neg h]; exact e
set_option maxRecDepth 100000 in
set_option maxHeartbeats 800000 in
theorem times_call (g : Nat) (a b : List UInt8) (f : Int) (w : World) (hr : Row w g 124 [.int .i64 f]) (s : ByteArray) (c : Int) {Q : World → Prop} (hc : Hid (Calls Tryz.prog 119 #[.string (Str a), .string (Str b)] w (fun e w' => e = .returned (.tuple #[.string s, .int .i64 c]) ∧ Ext w w'))) :
    Calls Tryz.prog 89 #[.pointer (some ⟨g, 0, none⟩), .string (Str a), .string (Str b)] w (fun e w' => e = .returned (.string s) ∧ ∃ w1, Ext w w1 ∧ w' = NoteW g f c w1) := by
  have HR := hid hr
  clear hr
  go_enter Tryz.func89, Tryz.ntmps89
  go_wp2_with fail
  refine hc.out.mono ?_
  rintro e w1 ⟨rfl, hx1⟩
  have HX := hid hx1
  clear hx1
  go_wp2_with fail
  refine (note_any g s c f w1 (HR.out.ext HX.out)).mono ?_
  rintro e w2 ⟨rfl, rfl⟩
  go_wp2
  go_ret
  exact ⟨rfl, w1, HX.out, rfl⟩
theorem times_ok (g : Nat) (a b : List UInt8) (w : World) (hr : Row w g 124 [.int .i64 0]) (va : K.validL a = true) (vb : K.validL b = true) (hf : K.fits (K.numL a * K.numL b)) (ht : Tab w) :
    Calls Tryz.prog 89 #[.pointer (some ⟨g, 0, none⟩), .string (Str a), .string (Str b)] w (RecOk (K.numL a * K.numL b) w) := by
  refine (times_call (Q := fun _ => True) g a b 0 w hr (Str (K.txt (K.numL a * K.numL b))) 0 (hid ((mul_ok a b w (len_of (valid_len va)) (len_of (valid_len vb)) va vb ht).mono fun e w' h => ⟨h.1 hf, h.2.2⟩))).mono ?_
  rintro e w' ⟨rfl, w1, hx, rfl⟩
  exact ⟨rfl, hx.step (by unfold NoteW; rw [if_pos rfl]; exact (hr.ext hx).same)⟩
theorem times_gen (g : Nat) (a b : List UInt8) (f : Int) (w0 w : World) (he : Ext w0 w) (hg : w0.heap.size ≤ g) (hr : Row w g 124 [.int .i64 f]) (hf : f = 0 ∨ f = 3) (la : a.length ≤ 2001) (lb : b.length ≤ 2001) (hv : Hid (f = 0 → K.validL a = true ∧ K.validL b = true)) (ht : Tab w) :
    Calls Tryz.prog 89 #[.pointer (some ⟨g, 0, none⟩), .string (Str a), .string (Str b)] w (RecGen (K.numL a * K.numL b) f g w0) := by
  have main : ∀ (l : List UInt8) (c : Int), Calls Tryz.prog 119 #[.string (Str a), .string (Str b)] w (fun e w' => e = .returned (.tuple #[.string (Str l), .int .i64 c]) ∧ Ext w w') →
      l.length ≤ 2001 → ((if f = 0 then c else f) = 0 ∨ (if f = 0 then c else f) = 3) → (f = 0 → (K.fits (K.numL a * K.numL b) → c = 0 ∧ l = K.txt (K.numL a * K.numL b)) ∧ (¬ K.fits (K.numL a * K.numL b) → c = 3)) →
      Calls Tryz.prog 89 #[.pointer (some ⟨g, 0, none⟩), .string (Str a), .string (Str b)] w (RecGen (K.numL a * K.numL b) f g w0) := by
    intro l c hc hl h3 h0
    refine (times_call (Q := fun _ => True) g a b f w hr (Str l) c (hid hc)).mono ?_
    rintro e w' ⟨rfl, w1, hx, rfl⟩
    refine ⟨l, _, rfl, NoteW.row (hr.ext hx), h3, hid ⟨hl, fun hz => ?_, fun hz => ?_⟩, NoteW.ext (he.step hx) hg⟩
    · rw [if_pos hz]; exact h0 hz
    · rw [if_neg (by omega)]; exact hz
  by_cases hval : K.validL a = true ∧ K.validL b = true
  · by_cases hfit : K.fits (K.numL a * K.numL b)
    · refine main (K.txt (K.numL a * K.numL b)) 0 ((mul_ok a b w (len_of la) (len_of lb) hval.1 hval.2 ht).mono fun e w' h => ⟨h.1 hfit, h.2.2⟩) (K.txt_len _ hfit) ?_ (fun _ => ⟨fun _ => ⟨rfl, rfl⟩, fun h => absurd hfit h⟩)
      split
      · exact .inl rfl
      · exact hf
    · refine main [] 3 ((mul_ok a b w (len_of la) (len_of lb) hval.1 hval.2 ht).mono fun e w' h => ⟨h.2.1 hfit, h.2.2⟩) (by simp) ?_ (fun _ => ⟨fun h => absurd h hfit, fun _ => rfl⟩)
      split
      · exact .inr rfl
      · exact hf
  · have hf0 : f ≠ 0 := fun e => hval (hv.out e)
    have hbad : K.validL a = false ∨ K.validL b = false := by
      cases h1 : K.validL a
      · exact .inl rfl
      · cases h2 : K.validL b
        · exact .inr rfl
        · exact absurd ⟨h1, h2⟩ hval
    refine main [] 1 ((mul_bad a b w (len_of la) (len_of lb) hbad).mono fun e w' h => h) (by simp) ?_ (fun e => absurd e hf0)
    rw [if_neg hf0]; exact hf
set_option maxRecDepth 100000 in
set_option maxHeartbeats 800000 in
theorem plus_call (g : Nat) (a b : List UInt8) (f : Int) (w : World) (hr : Row w g 124 [.int .i64 f]) (s : ByteArray) (c : Int) {Q : World → Prop} (hc : Hid (Calls Tryz.prog 120 #[.string (Str a), .string (Str b)] w (fun e w' => e = .returned (.tuple #[.string s, .int .i64 c]) ∧ Ext w w'))) :
    Calls Tryz.prog 90 #[.pointer (some ⟨g, 0, none⟩), .string (Str a), .string (Str b)] w (fun e w' => e = .returned (.string s) ∧ ∃ w1, Ext w w1 ∧ w' = NoteW g f c w1) := by
  have HR := hid hr
  clear hr
  go_enter Tryz.func90, Tryz.ntmps90
  go_wp2_with fail
  refine hc.out.mono ?_
  rintro e w1 ⟨rfl, hx1⟩
  have HX := hid hx1
  clear hx1
  go_wp2_with fail
  refine (note_any g s c f w1 (HR.out.ext HX.out)).mono ?_
  rintro e w2 ⟨rfl, rfl⟩
  go_wp2
  go_ret
  exact ⟨rfl, w1, HX.out, rfl⟩
theorem plus_ok (g : Nat) (a b : List UInt8) (w : World) (hr : Row w g 124 [.int .i64 0]) (va : K.validL a = true) (vb : K.validL b = true) (hf : K.fits (K.numL a + K.numL b)) (ht : Tab w) :
    Calls Tryz.prog 90 #[.pointer (some ⟨g, 0, none⟩), .string (Str a), .string (Str b)] w (RecOk (K.numL a + K.numL b) w) := by
  refine (plus_call (Q := fun _ => True) g a b 0 w hr (Str (K.txt (K.numL a + K.numL b))) 0 (hid ((add_ok a b w (len_of (valid_len va)) (len_of (valid_len vb)) va vb ht).mono fun e w' h => ⟨h.1 hf, h.2.2⟩))).mono ?_
  rintro e w' ⟨rfl, w1, hx, rfl⟩
  exact ⟨rfl, hx.step (by unfold NoteW; rw [if_pos rfl]; exact (hr.ext hx).same)⟩
theorem plus_gen (g : Nat) (a b : List UInt8) (f : Int) (w0 w : World) (he : Ext w0 w) (hg : w0.heap.size ≤ g) (hr : Row w g 124 [.int .i64 f]) (hf : f = 0 ∨ f = 3) (la : a.length ≤ 2001) (lb : b.length ≤ 2001) (hv : Hid (f = 0 → K.validL a = true ∧ K.validL b = true)) (ht : Tab w) :
    Calls Tryz.prog 90 #[.pointer (some ⟨g, 0, none⟩), .string (Str a), .string (Str b)] w (RecGen (K.numL a + K.numL b) f g w0) := by
  have main : ∀ (l : List UInt8) (c : Int), Calls Tryz.prog 120 #[.string (Str a), .string (Str b)] w (fun e w' => e = .returned (.tuple #[.string (Str l), .int .i64 c]) ∧ Ext w w') →
      l.length ≤ 2001 → ((if f = 0 then c else f) = 0 ∨ (if f = 0 then c else f) = 3) → (f = 0 → (K.fits (K.numL a + K.numL b) → c = 0 ∧ l = K.txt (K.numL a + K.numL b)) ∧ (¬ K.fits (K.numL a + K.numL b) → c = 3)) →
      Calls Tryz.prog 90 #[.pointer (some ⟨g, 0, none⟩), .string (Str a), .string (Str b)] w (RecGen (K.numL a + K.numL b) f g w0) := by
    intro l c hc hl h3 h0
    refine (plus_call (Q := fun _ => True) g a b f w hr (Str l) c (hid hc)).mono ?_
    rintro e w' ⟨rfl, w1, hx, rfl⟩
    refine ⟨l, _, rfl, NoteW.row (hr.ext hx), h3, hid ⟨hl, fun hz => ?_, fun hz => ?_⟩, NoteW.ext (he.step hx) hg⟩
    · rw [if_pos hz]; exact h0 hz
    · rw [if_neg (by omega)]; exact hz
  by_cases hval : K.validL a = true ∧ K.validL b = true
  · by_cases hfit : K.fits (K.numL a + K.numL b)
    · refine main (K.txt (K.numL a + K.numL b)) 0 ((add_ok a b w (len_of la) (len_of lb) hval.1 hval.2 ht).mono fun e w' h => ⟨h.1 hfit, h.2.2⟩) (K.txt_len _ hfit) ?_ (fun _ => ⟨fun _ => ⟨rfl, rfl⟩, fun h => absurd hfit h⟩)
      split
      · exact .inl rfl
      · exact hf
    · refine main [] 3 ((add_ok a b w (len_of la) (len_of lb) hval.1 hval.2 ht).mono fun e w' h => ⟨h.2.1 hfit, h.2.2⟩) (by simp) ?_ (fun _ => ⟨fun h => absurd h hfit, fun _ => rfl⟩)
      split
      · exact .inr rfl
      · exact hf
  · have hf0 : f ≠ 0 := fun e => hval (hv.out e)
    have hbad : K.validL a = false ∨ K.validL b = false := by
      cases h1 : K.validL a
      · exact .inl rfl
      · cases h2 : K.validL b
        · exact .inr rfl
        · exact absurd ⟨h1, h2⟩ hval
    refine main [] 1 ((add_bad a b w (len_of la) (len_of lb) hbad).mono fun e w' h => h) (by simp) ?_ (fun e => absurd e hf0)
    rw [if_neg hf0]; exact hf
set_option maxRecDepth 100000 in
set_option maxHeartbeats 800000 in
theorem minus_call (g : Nat) (a b : List UInt8) (f : Int) (w : World) (hr : Row w g 124 [.int .i64 f]) (s : ByteArray) (c : Int) {Q : World → Prop} (hc : Hid (Calls Tryz.prog 137 #[.string (Str a), .string (Str b)] w (fun e w' => e = .returned (.tuple #[.string s, .int .i64 c]) ∧ Ext w w'))) :
    Calls Tryz.prog 113 #[.pointer (some ⟨g, 0, none⟩), .string (Str a), .string (Str b)] w (fun e w' => e = .returned (.string s) ∧ ∃ w1, Ext w w1 ∧ w' = NoteW g f c w1) := by
  have HR := hid hr
  clear hr
  go_enter Tryz.func113, Tryz.ntmps113
  go_wp2_with fail
  refine hc.out.mono ?_
  rintro e w1 ⟨rfl, hx1⟩
  have HX := hid hx1
  clear hx1
  go_wp2_with fail
  refine (note_any g s c f w1 (HR.out.ext HX.out)).mono ?_
  rintro e w2 ⟨rfl, rfl⟩
  go_wp2
  go_ret
  exact ⟨rfl, w1, HX.out, rfl⟩
theorem minus_ok (g : Nat) (a b : List UInt8) (w : World) (hr : Row w g 124 [.int .i64 0]) (va : K.validL a = true) (vb : K.validL b = true) (hf : K.fits (K.numL a - K.numL b)) (ht : Tab w) :
    Calls Tryz.prog 113 #[.pointer (some ⟨g, 0, none⟩), .string (Str a), .string (Str b)] w (RecOk (K.numL a - K.numL b) w) := by
  refine (minus_call (Q := fun _ => True) g a b 0 w hr (Str (K.txt (K.numL a - K.numL b))) 0 (hid ((sub_ok a b w (len_of (valid_len va)) (len_of (valid_len vb)) va vb ht).mono fun e w' h => ⟨h.1 hf, h.2.2⟩))).mono ?_
  rintro e w' ⟨rfl, w1, hx, rfl⟩
  exact ⟨rfl, hx.step (by unfold NoteW; rw [if_pos rfl]; exact (hr.ext hx).same)⟩
theorem minus_gen (g : Nat) (a b : List UInt8) (f : Int) (w0 w : World) (he : Ext w0 w) (hg : w0.heap.size ≤ g) (hr : Row w g 124 [.int .i64 f]) (hf : f = 0 ∨ f = 3) (la : a.length ≤ 2001) (lb : b.length ≤ 2001) (hv : Hid (f = 0 → K.validL a = true ∧ K.validL b = true)) (ht : Tab w) :
    Calls Tryz.prog 113 #[.pointer (some ⟨g, 0, none⟩), .string (Str a), .string (Str b)] w (RecGen (K.numL a - K.numL b) f g w0) := by
  have main : ∀ (l : List UInt8) (c : Int), Calls Tryz.prog 137 #[.string (Str a), .string (Str b)] w (fun e w' => e = .returned (.tuple #[.string (Str l), .int .i64 c]) ∧ Ext w w') →
      l.length ≤ 2001 → ((if f = 0 then c else f) = 0 ∨ (if f = 0 then c else f) = 3) → (f = 0 → (K.fits (K.numL a - K.numL b) → c = 0 ∧ l = K.txt (K.numL a - K.numL b)) ∧ (¬ K.fits (K.numL a - K.numL b) → c = 3)) →
      Calls Tryz.prog 113 #[.pointer (some ⟨g, 0, none⟩), .string (Str a), .string (Str b)] w (RecGen (K.numL a - K.numL b) f g w0) := by
    intro l c hc hl h3 h0
    refine (minus_call (Q := fun _ => True) g a b f w hr (Str l) c (hid hc)).mono ?_
    rintro e w' ⟨rfl, w1, hx, rfl⟩
    refine ⟨l, _, rfl, NoteW.row (hr.ext hx), h3, hid ⟨hl, fun hz => ?_, fun hz => ?_⟩, NoteW.ext (he.step hx) hg⟩
    · rw [if_pos hz]; exact h0 hz
    · rw [if_neg (by omega)]; exact hz
  by_cases hval : K.validL a = true ∧ K.validL b = true
  · by_cases hfit : K.fits (K.numL a - K.numL b)
    · refine main (K.txt (K.numL a - K.numL b)) 0 ((sub_ok a b w (len_of la) (len_of lb) hval.1 hval.2 ht).mono fun e w' h => ⟨h.1 hfit, h.2.2⟩) (K.txt_len _ hfit) ?_ (fun _ => ⟨fun _ => ⟨rfl, rfl⟩, fun h => absurd hfit h⟩)
      split
      · exact .inl rfl
      · exact hf
    · refine main [] 3 ((sub_ok a b w (len_of la) (len_of lb) hval.1 hval.2 ht).mono fun e w' h => ⟨h.2.1 hfit, h.2.2⟩) (by simp) ?_ (fun _ => ⟨fun h => absurd h hfit, fun _ => rfl⟩)
      split
      · exact .inr rfl
      · exact hf
  · have hf0 : f ≠ 0 := fun e => hval (hv.out e)
    have hbad : K.validL a = false ∨ K.validL b = false := by
      cases h1 : K.validL a
      · exact .inl rfl
      · cases h2 : K.validL b
        · exact .inr rfl
        · exact absurd ⟨h1, h2⟩ hval
    refine main [] 1 ((sub_bad a b w (len_of la) (len_of lb) hbad).mono fun e w' h => h) (by simp) ?_ (fun e => absurd e hf0)
    rw [if_neg hf0]; exact hf
end Go.Proofs.YtimokpcopeldfaaGreatDoor
/- words and their linear maps: plain mathematics; word.check -/
namespace Go.Proofs.YtimokpcopeldfaaGreatDoor
open Go.RowKit
/-- a word of a map -/
def wordB (m : Int) (ws : List Int) : Bool := decide (ws.length ≤ 200) && ws.all fun r => decide (0 ≤ r ∧ r < m)
theorem wordB_iff {m : Int} {ws : List Int} : wordB m ws = true ↔ ws.length ≤ 200 ∧ ∀ r ∈ ws, 0 ≤ r ∧ r < m := by
  unfold wordB; simp
/-- the linear map of a word and one rest more -/
def thenL (m : Int) (us ad : List Int) (l : Int × Int × Int) (r : Int) : Int × Int × Int := (us.getD r.toNat 0 * l.1, us.getD r.toNat 0 * l.2.1 + ad.getD r.toNat 0 * l.2.2, l.2.2 * m)
def lineI (m : Int) (us ad : List Int) (ws : List Int) : Int × Int × Int := ws.foldl (thenL m us ad) (1, 0, 1)
theorem lineI_snoc (m : Int) (us ad : List Int) (ws : List Int) (r : Int) : lineI m us ad (ws ++ [r]) = thenL m us ad (lineI m us ad ws) r := by
  unfold lineI; rw [List.foldl_append]; rfl
theorem rule_of {m : Int} {us ad : List Int} (h : mapP m us ad) {r : Int} (h0 : 0 ≤ r) (h1 : r < m) : 1 ≤ us.getD r.toNat 0 ∧ us.getD r.toNat 0 ≤ 999 ∧ -999999 ≤ ad.getD r.toNat 0 ∧ ad.getD r.toNat 0 ≤ 999999 ∧ r.toNat < us.length ∧ r.toNat < ad.length := by
  have l1 : r.toNat < us.length := by have := h.2.2.1; omega
  have l2 : r.toNat < ad.length := by have := h.2.2.2.1; omega
  have hh := h.2.2.2.2 _ l1
  exact ⟨hh.1, hh.2.1, hh.2.2.1, hh.2.2.2.1, l1, l2⟩
/-- the numbers of a word's linear map are small -/
def LineB (k : Nat) (l : Int × Int × Int) : Prop := l.1.natAbs ≤ 1000 ^ k ∧ l.2.2.natAbs ≤ 1000 ^ k ∧ l.2.1.natAbs ≤ k * 1000000 * 1000 ^ k ∧ 1 ≤ l.2.2
theorem LineB.next {m : Int} {us ad : List Int} (hM : mapP m us ad) {k : Nat} {l : Int × Int × Int} (h : LineB k l) {r : Int} (h0 : 0 ≤ r) (h1 : r < m) : LineB (k + 1) (thenL m us ad l r) := by
  obtain ⟨u1, u2, a1, a2, -, -⟩ := rule_of hM h0 h1
  obtain ⟨b1, b2, b3, b4⟩ := h
  have hm1 := hM.1
  have hm2 := hM.2.1
  unfold thenL
  generalize us.getD r.toNat 0 = u at *
  generalize ad.getD r.toNat 0 = a at *
  obtain ⟨x, y, z⟩ := l
  simp only at b1 b2 b3 b4 ⊢
  have hp : 1000 ^ (k + 1) = 1000 * 1000 ^ k := by rw [Nat.pow_succ, Nat.mul_comm]
  generalize hP : 1000 ^ k = P at *
  have e1 : (u * x).natAbs ≤ 999 * P := by rw [Int.natAbs_mul]; exact Nat.mul_le_mul (by omega) b1
  have e2 : (z * m).natAbs ≤ P * 12 := by rw [Int.natAbs_mul]; exact Nat.mul_le_mul b2 (by omega)
  have e3 : (u * y).natAbs ≤ 999 * (k * 1000000 * P) := by rw [Int.natAbs_mul]; exact Nat.mul_le_mul (by omega) b3
  have e4 : (a * z).natAbs ≤ 999999 * P := by rw [Int.natAbs_mul]; exact Nat.mul_le_mul (by omega) b2
  have e5 : (u * y + a * z).natAbs ≤ (u * y).natAbs + (a * z).natAbs := Int.natAbs_add_le _ _
  refine ⟨by show (u * x).natAbs ≤ _; rw [hp]; omega, by show (z * m).natAbs ≤ _; rw [hp]; omega, ?_, ?_⟩
  · show (u * y + a * z).natAbs ≤ _
    rw [hp]
    have e6 : (k + 1) * 1000000 * (1000 * P) = 1000 * (k * 1000000 * P) + 1000000 * (1000 * P) := by
      rw [Nat.add_mul, Nat.add_mul, Nat.one_mul]
      congr 1
      rw [Nat.mul_left_comm]
    rw [e6]
    obtain ⟨R, hR⟩ : ∃ R, k * 1000000 * P = R := ⟨_, rfl⟩
    rw [hR] at e3 ⊢
    clear e6 hR b3 hP hp
    omega
  · show 1 ≤ z * m
    have : 1 * 1 ≤ z * m := Int.mul_le_mul b4 (by omega) (by omega) (by omega)
    omega
theorem LineB.zero : LineB 0 (1, 0, 1) := ⟨by simp, by simp, by simp, by simp⟩
theorem lineI_B {m : Int} {us ad : List Int} (hM : mapP m us ad) (ws : List Int) (hw : ∀ r ∈ ws, 0 ≤ r ∧ r < m) : LineB ws.length (lineI m us ad ws) := by
  obtain ⟨k, hk⟩ : ∃ k, ws.length = k := ⟨_, rfl⟩
  rw [hk]
  induction k generalizing ws with
  | zero => rw [List.eq_nil_of_length_eq_zero hk]; exact LineB.zero
  | succ k ih =>
    rcases List.eq_nil_or_concat ws with rfl | ⟨p, r, rfl⟩
    · simp at hk
    · rw [List.concat_eq_append] at *
      rw [lineI_snoc]
      have hr := hw r (by simp)
      exact (ih p (fun x hx => hw x (by simp [hx])) (by simpa using hk)).next hM hr.1 hr.2
theorem thousand_pw (k : Nat) : 1000 ^ k = K.pw (3 * k) := by
  unfold K.pw; rw [Nat.pow_mul]
theorem fits_pw {x : Int} {a b : Nat} (h : x.natAbs ≤ a * K.pw b) (ha : a < K.pw 12) (hb : b ≤ 1900) : K.fits x := by
  have h1 : a * K.pw b < K.pw 12 * K.pw b := Nat.mul_lt_mul_of_pos_right ha (K.pw_pos b)
  have h2 : K.pw 12 * K.pw b = K.pw (12 + b) := (Nat.pow_add 10 12 b).symm
  have h3 : K.pw (12 + b) ≤ K.pw 2000 := K.pw_mono (by omega)
  show x.natAbs < K.LIM
  unfold K.LIM
  omega
theorem pw12 : K.pw 12 = 1000000000000 := by decide
/-- all numbers that are met on the way of a line fit -/
theorem LineB.fits {m : Int} {us ad : List Int} (hM : mapP m us ad) {k : Nat} {l : Int × Int × Int} (h : LineB k l) (hk : k ≤ 200) {r : Int} (h0 : 0 ≤ r) (h1 : r < m) :
    K.fits l.1 ∧ K.fits l.2.1 ∧ K.fits l.2.2 ∧ K.fits (l.1 * us.getD r.toNat 0) ∧ K.fits (l.2.1 * us.getD r.toNat 0) ∧ K.fits (ad.getD r.toNat 0 * l.2.2) ∧ K.fits (l.2.1 * us.getD r.toNat 0 + ad.getD r.toNat 0 * l.2.2) ∧ K.fits (l.2.2 * m) := by
  obtain ⟨u1, u2, a1, a2, -, -⟩ := rule_of hM h0 h1
  have hn := LineB.next hM h h0 h1
  obtain ⟨b1, b2, b3, b4⟩ := h
  obtain ⟨n1, n2, n3, n4⟩ := hn
  have hm1 := hM.1
  have hm2 := hM.2.1
  unfold thenL at n1 n2 n3 n4
  simp only at n1 n2 n3 n4
  rw [show us.getD r.toNat 0 * l.2.1 = l.2.1 * us.getD r.toNat 0 from Int.mul_comm _ _] at n3
  generalize us.getD r.toNat 0 = u at *
  generalize ad.getD r.toNat 0 = a at *
  obtain ⟨x, y, z⟩ := l
  simp only at *
  rw [thousand_pw] at *
  have e1 : (x * u).natAbs ≤ 999 * K.pw (3 * k) := by rw [Int.mul_comm, Int.natAbs_mul]; exact Nat.mul_le_mul (by omega) b1
  have e3 : (y * u).natAbs ≤ 999 * (k * 1000000 * K.pw (3 * k)) := by rw [Int.mul_comm, Int.natAbs_mul]; exact Nat.mul_le_mul (by omega) b3
  have e4 : (a * z).natAbs ≤ 999999 * K.pw (3 * k) := by rw [Int.natAbs_mul]; exact Nat.mul_le_mul (by omega) b2
  refine ⟨fits_pw (a := 1) (b := 3 * k) (by omega) (by rw [pw12]; omega) (by omega), fits_pw (a := k * 1000000) (b := 3 * k) b3 (by rw [pw12]; omega) (by omega), fits_pw (a := 1) (b := 3 * k) (by omega) (by rw [pw12]; omega) (by omega), fits_pw (a := 999) (b := 3 * k) e1 (by rw [pw12]; omega) (by omega), fits_pw (a := 999 * (k * 1000000)) (b := 3 * k) (by rw [Nat.mul_assoc]; exact e3) (by rw [pw12]; omega) (by omega), fits_pw (a := 999999) (b := 3 * k) e4 (by rw [pw12]; omega) (by omega), fits_pw (a := (k + 1) * 1000000) (b := 3 * (k + 1)) n3 (by rw [pw12]; omega) (by omega), fits_pw (a := 1) (b := 3 * (k + 1)) (by omega) (by rw [pw12]; omega) (by omega)⟩
set_option maxRecDepth 100000 in
set_option maxHeartbeats 1600000 in
theorem wcheck_any (v : Value) (m : Int) (us ad : List Int) (Wd : Option Addr) (wn wc : Nat) (ws : List Int) (w : World) (hv : MapV w v m us ad) (hw : Rd w Wd (Is ws)) (hl : ws.length = wn) (hwb : wn ≤ 140737488351232) {b1 b2 : Bool} (hb1 : Hid (mapB m us ad = b1)) (hb2 : Hid (wordB m ws = b2)) {c : Int} (hc : Hid (c = if b1 = true then (if b2 = true then 0 else 2) else 1)) :
    Calls Tryz.prog 86 #[v, .slice Wd wn wc] w (fun e w' => e = .returned (.int .i64 c) ∧ Ext w w') := by
  have HV := hid hv
  obtain ⟨A, n, cc, B, n2, d, rfl, -⟩ := hv
  have hx : Ext w (w.alloc (.cells #[.int .i64 m, .slice A n cc, .slice B n2 d] 24)) := (Ext.rfl' w).alloc' _
  have hrw : Row (w.alloc (.cells #[.int .i64 m, .slice A n cc, .slice B n2 d] 24)) w.heap.size 24 [.int .i64 m, .slice A n cc, .slice B n2 d] := Row.new w _ _
  obtain ⟨W1, hW1⟩ : ∃ W1, (w.alloc (.cells #[.int .i64 m, .slice A n cc, .slice B n2 d] 24)) = W1 := ⟨_, rfl⟩
  rw [hW1] at hx hrw
  have HX := hid hx
  have HR := hid hrw
  have HW1 := hid hW1
  have HWD := hid (hw.ext hx)
  have HL := hid hl
  have wn63 : wn ≤ 9223372036854775807 := by omega
  obtain ⟨f0, f1, f2, -, -, -⟩ := row_facts3 hrw
  clear hW1 hx hrw hw hl
  cases b1 with
  | false =>
    obtain rfl : c = 1 := hc.out
    go_enter Tryz.func86, Tryz.ntmps86
    go_upto_region 1 with fail
    rw [HW1.out]
    go_wp2_with fail
    refine (stepvalid_any _ m us ad W1 (HV.out.ext HX.out) hb1).mono ?_
    rintro e w2 ⟨rfl, hx2⟩
    have HY := hid (HX.out.step hx2)
    clear f0 f1 f2 hx2
    go_wp2
    go_ret
    exact ⟨rfl, HY.out⟩
  | true =>
    have HC : Hid (c = if b2 = true then 0 else 2) := hid hc.out
    clear hc
    by_cases hlen : wn ≤ 200
    · have hlz : ¬ (200 : Int) < (wn : Int) := by omega
      go_enter Tryz.func86, Tryz.ntmps86
      go_upto_region 1 with fail
      rw [HW1.out]
      go_wp2_with fail
      refine (stepvalid_any _ m us ad W1 (HV.out.ext HX.out) hb1).mono ?_
      rintro e w2 ⟨rfl, hx2⟩
      have HX2 := hid hx2
      clear f0 f1 f2 hx2
      go_wp2_with fail
      go_loopw [15] (fun iz wr => ∃ j : Nat, j ≤ wn ∧ iz = .int .i64 (j : Int) ∧ Hid (∀ i, i < j → 0 ≤ ws.getD i 0 ∧ ws.getD i 0 < m) ∧ Ext w2 wr) (fun iz _ => wn - (intOf iz).toNat)
      case atStart => exact ⟨0, by omega, rfl, hid (fun i hi => by omega), Ext.rfl' _⟩
      case round =>
        obtain ⟨j, hj, rfl, HALL, hex⟩ := hrel
        have HEX := hid hex
        have HEW := hid (HX.out.step (HX2.out.step hex))
        obtain ⟨f0, f1, f2, -, -, -⟩ := row_facts3 (HR.out.ext (HX2.out.step HEX.out))
        clear hex
        by_cases hlt : j < wn
        · obtain ⟨b3, o3, e3, -, hc3⟩ := (HWD.out.ext (HX2.out.step HEX.out)).atI (k := j) (by rw [HL.out]; exact hlt)
          subst e3
          have hjn : (j : Int) < (wn : Int) := by omega
          obtain ⟨r, hr⟩ : ∃ r, ws.getD j 0 = r := ⟨_, rfl⟩
          rw [hr] at hc3
          have HRR := hid hr
          clear hr
          have HMEM : Hid (r ∈ ws) := hid (by rw [← HRR.out, List.getD_eq_getElem?_getD, List.getElem?_eq_getElem (by rw [HL.out]; exact hlt)]; exact List.getElem_mem _)
          by_cases hr0 : r < 0
          · have HB : Hid (b2 = false) := hid (by rw [← hb2.out]; exact Bool.eq_false_iff.2 (fun h => by have := (wordB_iff.1 h).2 r HMEM.out; omega))
            have HC2 : Hid (c = 2) := hid (by rw [HC.out, HB.out]; rfl)
            go_wp2
            go_ret
            exact ⟨by rw [HC2.out]; rfl, HEW.out⟩
          · by_cases hrm : m ≤ r
            · have HB : Hid (b2 = false) := hid (by rw [← hb2.out]; exact Bool.eq_false_iff.2 (fun h => by have := (wordB_iff.1 h).2 r HMEM.out; omega))
              have HC2 : Hid (c = 2) := hid (by rw [HC.out, HB.out]; rfl)
              go_wp2
              go_ret
              exact ⟨by rw [HC2.out]; rfl, HEW.out⟩
            · have HNX : Hid (∀ i, i < j + 1 → 0 ≤ ws.getD i 0 ∧ ws.getD i 0 < m) := hid (fun i hi => by
                rcases Nat.lt_or_ge i j with h | h
                · exact HALL.out i h
                · obtain rfl : i = j := by omega
                  rw [HRR.out]; omega)
              go_wp2
              go_roundw
              case rel => exact ⟨j + 1, by omega, by simp, HNX, HEX.out⟩
              case measure => first | (simp [intOf]; done) | (simp [intOf]; omega)
        · obtain rfl : j = wn := by omega
          have HB : Hid (b2 = true) := hid (by
            rw [← hb2.out]
            refine wordB_iff.2 ⟨by rw [HL.out]; exact hlen, fun r hr => ?_⟩
            obtain ⟨i, hi, rfl⟩ := List.getElem_of_mem hr
            have := HALL.out i (by rw [HL.out] at hi; exact hi)
            rwa [List.getD_eq_getElem?_getD, List.getElem?_eq_getElem hi] at this)
          have HC2 : Hid (c = 0) := hid (by rw [HC.out, HB.out]; rfl)
          go_wp2
          go_ret
          exact ⟨by rw [HC2.out]; rfl, HEW.out⟩
    · have hlz : (200 : Int) < (wn : Int) := by omega
      have HB : Hid (b2 = false) := hid (by rw [← hb2.out]; exact Bool.eq_false_iff.2 (fun h => by have := (wordB_iff.1 h).1; rw [HL.out] at this; omega))
      have HC2 : Hid (c = 2) := hid (by rw [HC.out, HB.out]; rfl)
      go_enter Tryz.func86, Tryz.ntmps86
      go_upto_region 1 with fail
      rw [HW1.out]
      go_wp2_with fail
      refine (stepvalid_any _ m us ad W1 (HV.out.ext HX.out) hb1).mono ?_
      rintro e w2 ⟨rfl, hx2⟩
      have HY := hid (HX.out.step hx2)
      clear f0 f1 f2 hx2
      go_wp2
      go_ret
      exact ⟨by rw [HC2.out]; rfl, HY.out⟩
end Go.Proofs.YtimokpcopeldfaaGreatDoor
/- the reference's Valid, of a map -/
namespace Go.Proofs.YtimokpcopeldfaaGreatDoor
open Go.RowKit
set_option maxRecDepth 100000 in
set_option maxHeartbeats 1600000 in
theorem refvalid_any (v : Value) (m : Int) (us ad : List Int) (w : World) (hv : MapV w v m us ad) {b : Bool} (hb : Hid (mapB m us ad = b)) :
    Calls Tryz.prog 13 #[v] w (fun e w' => e = .returned (.bool b) ∧ Ext w w') := by
  obtain ⟨A, k, c, B, l, d, rfl, hk, hkc, hl, hld, ra, rb, bk, bl⟩ := hv
  have hno : ∀ (_ : ¬ mapP m us ad), Hid (b = false) := fun h => hid (by
    rw [← hb.out]
    cases hB : mapB m us ad with
    | false => rfl
    | true => exact absurd ((mapB_iff m us ad).1 hB) h)
  have hbk : k ≤ 9223372036854775807 := by omega
  have hbl : l ≤ 9223372036854775807 := by omega
  have hx : Ext w (w.alloc (.cells #[.int .i64 m, .slice A k c, .slice B l d] 24)) := (Ext.rfl' w).alloc' _
  have hk3 : ∀ w', Ext (w.alloc (.cells #[.int .i64 m, .slice A k c, .slice B l d] 24)) w' → _ := fun w' e => three_facts e rfl
  by_cases c1 : m < 2
  · have HF := hno (fun h => by have := h.1; omega)
    have HX := hid hx
    clear hno hb hk hl ra rb hx hk3
    go_enter Tryz.func13, Tryz.ntmps13
    go_wp2
    go_ret
    exact ⟨by rw [HF.out]; rfl, HX.out⟩
  · by_cases c2 : 12 < m
    · have HF := hno (fun h => by have := h.2.1; omega)
      have HX := hid hx
      clear hno hb hk hl ra rb hx hk3
      go_enter Tryz.func13, Tryz.ntmps13
      go_wp2
      go_ret
      exact ⟨by rw [HF.out]; rfl, HX.out⟩
    · by_cases c3 : (k : Int) = m
      · by_cases c4 : (l : Int) = m
        · subst c3
          obtain rfl : l = k := by omega
          have HNO := hid hno
          have HK := hid hk
          have HL := hid hl
          have HX := hid hx
          have HK3 := hid hk3
          have HRA := hid ra
          have HRB := hid rb
          have k12 : l ≤ 12 := by omega
          have k2 : 2 ≤ l := by omega
          obtain ⟨f0, f1, f2, -⟩ := hk3 _ (Ext.rfl' _)
          obtain ⟨W1, hW1⟩ : ∃ W1, w.alloc (.cells #[.int .i64 (l : Int), .slice A l c, .slice B l d] 24) = W1 := ⟨_, rfl⟩
          rw [hW1] at HX HK3 f0 f1 f2
          have HW1 := hid hW1
          clear hno hk hl hx hk3 hW1 ra rb c4 hbk hbl c1 c2
          go_enter Tryz.func13, Tryz.ntmps13
          go_upto_region 1 with fail
          rw [HW1.out]
          go_wp2_with fail
          clear f0 f1 f2
          go_loopw [3] (fun iz wr => ∃ j : Nat, j ≤ l ∧ iz = .int .i64 (j : Int) ∧ Hid (∀ r : Nat, r < j → ruleP (l : Int) r (us.getD r 0) (ad.getD r 0)) ∧ Ext W1 wr) (fun iz _ => l - (intOf iz).toNat)
          case atStart => exact ⟨0, by omega, rfl, hid (fun r h => absurd h (by omega)), Ext.rfl' _⟩
          case round =>
            obtain ⟨j, hj, rfl, HR, hex⟩ := hrel
            obtain ⟨f0, f1, f2, -⟩ := HK3.out _ hex
            by_cases hlt : j < l
            · obtain ⟨ba, oa, eA, hba, hca⟩ := ((HRA.out.ext HX.out).ext hex).atI (k := j) (by rw [HK.out]; exact hlt)
              obtain ⟨bb, ob, eB, hbb, hcb⟩ := ((HRB.out.ext HX.out).ext hex).atI (k := j) (by rw [HL.out]; exact hlt)
              subst eA eB
              obtain ⟨u, hu⟩ : ∃ u, us.getD j 0 = u := ⟨_, rfl⟩
              obtain ⟨a, ha⟩ : ∃ a, ad.getD j 0 = a := ⟨_, rfl⟩
              rw [hu] at hca
              rw [ha] at hcb
              have HU := hid hu
              have HA := hid ha
              have hnb : ¬ ruleP (l : Int) j u a → Hid (b = false) := fun hr => HNO.out (fun h => hr (by have := h.2.2.2.2 j (by rw [HK.out]; exact hlt); rwa [HU.out, HA.out] at this))
              have HNB := hid hnb
              have HXE := hid (HX.out.step hex)
              have hj0 : (0 : Int) ≤ (j : Int) := by omega
              have hjl : (j : Int) < (l : Int) := by omega
              clear hu ha hba hbb hnb
              by_cases d1 : u < 1
              · have HF := HNB.out (fun h => by unfold ruleP at h; omega)
                have ed1 : decide (u < 1) = true := decide_eq_true d1
                go_wp2_with fail
                go_quiet (fail)
                have HY := hid (HXE.out.drewN nq)
                go_wp2
                go_ret
                exact ⟨by rw [HF.out]; rfl, HY.out⟩
              · have ed1 : decide (u < 1) = false := decide_eq_false d1
                by_cases d2 : 999 < u
                · have HF := HNB.out (fun h => by unfold ruleP at h; omega)
                  have ed2 : decide (999 < u) = true := decide_eq_true d2
                  go_wp2_with fail
                  go_quiet (fail)
                  have HY := hid (HXE.out.drewN nq)
                  go_wp2
                  go_ret
                  exact ⟨by rw [HF.out]; rfl, HY.out⟩
                · have ed2 : decide (999 < u) = false := decide_eq_false d2
                  by_cases d3 : a < -999999
                  · have HF := HNB.out (fun h => by unfold ruleP at h; omega)
                    have ed3 : decide (a < -999999) = true := decide_eq_true d3
                    go_wp2_with fail
                    go_quiet (fail)
                    have HY := hid (HXE.out.drewN nq)
                    go_wp2
                    go_ret
                    exact ⟨by rw [HF.out]; rfl, HY.out⟩
                  · have ed3 : decide (a < -999999) = false := decide_eq_false d3
                    by_cases d4 : 999999 < a
                    · have HF := HNB.out (fun h => by unfold ruleP at h; omega)
                      have ed4 : decide (999999 < a) = true := decide_eq_true d4
                      go_wp2_with fail
                      go_quiet (fail)
                      have HY := hid (HXE.out.drewN nq)
                      go_wp2
                      go_ret
                      exact ⟨by rw [HF.out]; rfl, HY.out⟩
                    · have ed4 : decide (999999 < a) = false := decide_eq_false d4
                      have hp : 0 ≤ u * (j : Int) ∧ u * (j : Int) ≤ 10989 := by
                        refine ⟨Int.mul_nonneg (by omega) hj0, ?_⟩
                        have := Int.mul_le_mul (show u ≤ 999 by omega) (show (j : Int) ≤ 11 by omega) hj0 (by omega)
                        omega
                      obtain ⟨q, hq⟩ : ∃ q, u * (j : Int) = q := ⟨_, rfl⟩
                      rw [hq] at hp
                      have hp1 := hp.1
                      have hp2 := hp.2
                      have w1 : IntKind.i64.wrap (u * (j : Int)) = q := by rw [hq]; exact IntWalk.i64_in _ (by omega)
                      have w2 : IntKind.i64.wrap (q + a) = q + a := IntWalk.i64_in _ (by omega)
                      have HQ := hid hq
                      clear hq hp
                      by_cases d5 : (q + a).tmod (l : Int) = 0
                      · have HNEXT : Hid (∀ r : Nat, r < j + 1 → ruleP (l : Int) r (us.getD r 0) (ad.getD r 0)) := hid (by
                          intro r h
                          rcases Nat.lt_or_ge r j with h1 | h1
                          · exact HR.out r h1
                          · obtain rfl : r = j := by omega
                            rw [HU.out, HA.out]
                            exact ⟨by omega, by omega, by omega, by omega, by rw [HQ.out]; exact tmod_zero.1 d5⟩)
                        have e5 : ((q + a).tmod (l : Int) == 0) = true := by rw [beq_iff_eq]; exact d5
                        have e6 : ((q + a).tmod (l : Int) != 0) = false := by rw [bne_eq_false_iff_eq]; exact d5
                        go_wp2_with fail
                        go_quiet (fail)
                        have hex2 := hex.drewN nq
                        clear w1 w2 e5 e6 d5
                        go_wp2
                        go_roundw
                        case rel => exact ⟨j + 1, by omega, by simp, HNEXT, hex2⟩
                        case measure => simp [intOf]; omega
                      · have HF := HNB.out (fun h => d5 (tmod_zero.2 (by rw [← HQ.out]; exact h.2.2.2.2)))
                        have e5 : ((q + a).tmod (l : Int) == 0) = false := by rw [beq_eq_false_iff_ne]; exact d5
                        have e6 : ((q + a).tmod (l : Int) != 0) = true := by rw [bne_iff_ne]; exact d5
                        go_wp2_with fail
                        go_quiet (fail)
                        have HY := hid (HXE.out.drewN nq)
                        go_wp2
                        go_ret
                        exact ⟨by rw [HF.out]; rfl, HY.out⟩
            · have HF : Hid (b = true) := hid (by
                rw [← hb.out]
                exact (mapB_iff _ _ _).2 ⟨by omega, by omega, by rw [HK.out], by rw [HL.out], fun r h => HR.out r (by rw [HK.out] at h; omega)⟩)
              have HY := hid (HX.out.step hex)
              go_wp2
              go_ret
              exact ⟨by rw [HF.out]; rfl, HY.out⟩
        · have HF := hno (fun h => c4 (by have := h.2.2.2.1; omega))
          have HX := hid hx
          subst c3
          have e4 : ((l : Int) == (k : Int)) = false := by rw [beq_eq_false_iff_ne]; exact c4
          have e5 : (l == k) = false := by rw [beq_eq_false_iff_ne]; omega
          clear hno hb hk hl ra rb hx hk3 c4
          go_enter Tryz.func13, Tryz.ntmps13
          go_wp2
          go_ret
          exact ⟨by rw [HF.out]; rfl, HX.out⟩
      · have HF := hno (fun h => c3 (by have := h.2.2.1; omega))
        have HX := hid hx
        have e3 : ((k : Int) == m) = false := by rw [beq_eq_false_iff_ne]; exact c3
        clear hno hb hk hl ra rb hx hk3 c3
        go_enter Tryz.func13, Tryz.ntmps13
        go_wp2
        go_ret
        exact ⟨by rw [HF.out]; rfl, HX.out⟩
end Go.Proofs.YtimokpcopeldfaaGreatDoor
/- the reference's Is of layer 3 -/
namespace Go.Proofs.YtimokpcopeldfaaGreatDoor
open Go.RowKit
end Go.Proofs.YtimokpcopeldfaaGreatDoor
