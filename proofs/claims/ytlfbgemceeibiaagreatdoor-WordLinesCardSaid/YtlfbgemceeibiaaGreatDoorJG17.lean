/- Joined texts: word.Rest; word.timesPlus, word.Apply; word.Apply; the word law package's awake. -/
import Derived.Test.YtlfbgemceeibiaaGreatDoorJG16
import Derived.Test.YtlfbgemceeibiaaGreatDoorJG14
import Derived.Test.YtlfbgemceeibiaaGreatDoorJG15
import Derived.Test.YtlfbgemceeibiaaGreatDoorJG11
set_option linter.unusedSimpArgs false
set_option linter.unusedVariables false
/- word.Rest -/
namespace Go.Proofs.YtlfbgemceeibiaaGreatDoor
open Go.RowKit
theorem class_fits {m : Int} {us ad : List Int} (hM : mapP m us ad) {k : Nat} (hk : k ≤ 200) {R D x a u : Int} (h0 : 0 ≤ R) (hRD : R < D) (hD : D.natAbs ≤ 1000 ^ k) (ha : a.natAbs ≤ 1000 ^ k) (hx : ClassB k x) (hu1 : 1 ≤ u) (hu2 : u ≤ 999) :
    (K.fits R ∧ K.fits D ∧ K.fits x ∧ K.fits a ∧ K.fits (D * m) ∧ K.fits (a * u)) ∧ ∀ t : Int, 0 ≤ t → t < m → K.fits t ∧ K.fits (t * D) ∧ K.fits (R + t * D) ∧ K.fits (t * a) ∧ K.fits (x + t * a) ∧ K.fits (stepI m us ad (x + t * a)) := by
  have hm1 := hM.1
  have hm2 := hM.2.1
  have hnx := fun t (h1 : 0 ≤ t) (h2 : t ≤ 11) => hx.next hM h1 h2 ha
  have hx2 : x.natAbs ≤ k * 2000000 * 1000 ^ k := hx
  unfold ClassB at hnx
  have hp : 1 ≤ K.pw (3 * k) := K.pw_pos _
  rw [thousand_pw] at *
  have e1 : (D * m).natAbs ≤ K.pw (3 * k) * 12 := by rw [Int.natAbs_mul]; exact Nat.mul_le_mul hD (by omega)
  have e2 : (a * u).natAbs ≤ K.pw (3 * k) * 999 := by rw [Int.natAbs_mul]; exact Nat.mul_le_mul ha (by omega)
  refine ⟨⟨fits_pw (a := 1) (b := 3 * k) (by omega) (by rw [pw12]; omega) (by omega), fits_pw (a := 1) (b := 3 * k) (by omega) (by rw [pw12]; omega) (by omega), fits_pw (a := k * 2000000) (b := 3 * k) hx2 (by rw [pw12]; omega) (by omega), fits_pw (a := 1) (b := 3 * k) (by omega) (by rw [pw12]; omega) (by omega), fits_pw (a := 12) (b := 3 * k) (by omega) (by rw [pw12]; omega) (by omega), fits_pw (a := 999) (b := 3 * k) (by omega) (by rw [pw12]; omega) (by omega)⟩, fun t h1 h2 => ?_⟩
  have e3 : (t * D).natAbs ≤ 11 * K.pw (3 * k) := by rw [Int.natAbs_mul]; exact Nat.mul_le_mul (by omega) hD
  have e4 : (t * a).natAbs ≤ 11 * K.pw (3 * k) := by rw [Int.natAbs_mul]; exact Nat.mul_le_mul (by omega) ha
  have e5 := hnx t h1 (by omega)
  rw [thousand_pw] at e5
  exact ⟨fits_pw (a := 11) (b := 3 * k) (by omega) (by rw [pw12]; omega) (by omega), fits_pw (a := 11) (b := 3 * k) e3 (by rw [pw12]; omega) (by omega), fits_pw (a := 12) (b := 3 * k) (by omega) (by rw [pw12]; omega) (by omega), fits_pw (a := 11) (b := 3 * k) e4 (by rw [pw12]; omega) (by omega), fits_pw (a := k * 2000000 + 11) (b := 3 * k) e5.1 (by rw [pw12]; omega) (by omega), fits_pw (a := (k + 1) * 2000000) (b := 3 * (k + 1)) e5.2 (by rw [pw12]; omega) (by omega)⟩
theorem narrowed_any (v : Value) (sR sD sI sM : ByteArray) (R D x a m : Int) (r : Int) (us ad : List Int) (w : World) (HRs : Hid (Str (K.txt R) = sR)) (HDs : Hid (Str (K.txt D) = sD)) (HIs : Hid (Str (K.txt x) = sI)) (HMs : Hid (Str (K.txt a) = sM))
    (hmv : MapV w v m us ad) (hM : Hid (mapP m us ad)) (hr0 : 0 ≤ r) (hrm : r < m) (ht : Tab w) (hexi : Hid (∃ t : Nat, (t : Int) < m ∧ (x + (t : Int) * a) % m = r)) {k : Nat} (hk : k ≤ 200) (hB : Hid (0 ≤ R ∧ R < D ∧ D.natAbs ≤ 1000 ^ k ∧ a.natAbs ≤ 1000 ^ k ∧ ClassB k x)) :
    Calls Tryz.prog 78 #[.agg #[.string sR, .string sD, .string sI, .string sM], v, .int .i64 r] w (fun e w' => ∃ t : Nat, e = .returned (.tuple #[.agg #[.string (Str (K.txt (R + (t : Int) * D))), .string (Str (K.txt (D * m))), .string (Str (K.txt (stepI m us ad (x + (t : Int) * a)))), .string (Str (K.txt (a * us.getD r.toNat 0)))], .int .i64 0]) ∧ (t : Int) < m ∧ (x + (t : Int) * a) % m = r ∧ Ext w w') := by
  obtain ⟨u1, u2, a1, a2, l1, l2⟩ := rule_of hM.out hr0 hrm
  have hmv2 := hmv
  obtain ⟨A, n, cc, B, n2, d, rfl, e1, e2, e3, e4, e5, e6, -, -⟩ := hmv
  obtain ⟨ba, oa, eA, -, -⟩ := e5.atI l1
  subst eA
  obtain ⟨q, rfl⟩ : ∃ q : Nat, r = (q : Int) := ⟨r.toNat, by omega⟩
  rw [Int.toNat_natCast] at *
  have hF := class_fits (u := us.getD q 0) hM.out hk hB.out.1 hB.out.2.1 hB.out.2.2.1 hB.out.2.2.2.1 hB.out.2.2.2.2 u1 u2
  exact narrowed_l sR sD sI sM R D x a m _ q ba oa n cc n2 d B us ad w HRs HDs HIs HMs hmv2 hM e5 e1 (by omega) (hid rfl) u1 u2 hrm ht hexi (hid hF.1) (hid hF.2)
def RestNo (c : Int) (w : World) (e : Ending) (w' : World) : Prop := e = .returned (.tuple #[.string ⟨#[]⟩, .string ⟨#[]⟩, .int .i64 c]) ∧ Ext w w'
set_option maxRecDepth 100000 in
set_option maxHeartbeats 1600000 in
theorem wrest_bad (v : Value) (m : Int) (us ad : List Int) (Wd : Option Addr) (wn wc : Nat) (ws : List Int) (w : World) (hv : MapV w v m us ad) (hw : Rd w Wd (Is ws)) (hl : ws.length = wn) (hwb : wn ≤ 140737488351232) {b1 b2 : Bool} (hb1 : Hid (mapB m us ad = b1)) (hb2 : Hid (wordB m ws = b2)) {c : Int} (hc : Hid (c = if b1 = true then (if b2 = true then 0 else 2) else 1)) (hc0 : (c == 0) = false) (hcn : (c != 0) = true) :
    Calls Tryz.prog 24 #[v, .slice Wd wn wc] w (RestNo c w) := by
  have HV := hid hv
  obtain ⟨A, n, cc, B, n2, d, rfl, -⟩ := hv
  have hx : Ext w (w.alloc (.cells #[.int .i64 m, .slice A n cc, .slice B n2 d] 24)) := (Ext.rfl' w).alloc' _
  have hrw : Row (w.alloc (.cells #[.int .i64 m, .slice A n cc, .slice B n2 d] 24)) w.heap.size 24 [.int .i64 m, .slice A n cc, .slice B n2 d] := Row.new w _ _
  obtain ⟨W1, hW1⟩ : ∃ W1, (w.alloc (.cells #[.int .i64 m, .slice A n cc, .slice B n2 d] 24)) = W1 := ⟨_, rfl⟩
  rw [hW1] at hx hrw
  have HX := hid hx
  have HR := hid hrw
  have HW1 := hid hW1
  have HWD := hid hw
  have HL := hid hl
  obtain ⟨f0, f1, f2, -, -, -⟩ := row_facts3 hrw
  clear hW1 hx hrw hw hl
  go_enter Tryz.func24, Tryz.ntmps24
  go_upto_region 1 with fail
  rw [HW1.out]
  go_wp2_with fail
  refine (wcheck_any _ m us ad Wd wn wc ws W1 (HV.out.ext HX.out) (HWD.out.ext HX.out) HL.out hwb hb1 hb2 hc).mono ?_
  rintro e w3 ⟨rfl, hx3⟩
  have HF := hid (HX.out.step hx3)
  clear f0 f1 f2 hx3
  go_wp2
  go_ret3
  exact ⟨rfl, HF.out⟩
set_option maxRecDepth 100000 in
set_option maxHeartbeats 1600000 in
theorem wrest_irr (v : Value) (m : Int) (us ad : List Int) (Wd : Option Addr) (wn wc : Nat) (ws : List Int) (w : World) (hv : MapV w v m us ad) (hw : Rd w Wd (Is ws)) (hl : ws.length = wn) (hwb : wn ≤ 140737488351232) (hM : Hid (mapP m us ad)) (hW : Hid (wordB m ws = true)) (hR : Hid (regB m us = false)) :
    Calls Tryz.prog 24 #[v, .slice Wd wn wc] w (RestNo 2 w) := by
  have HV := hid hv
  obtain ⟨A, n, cc, B, n2, d, rfl, -⟩ := hv
  have hx : Ext w (w.alloc (.cells #[.int .i64 m, .slice A n cc, .slice B n2 d] 24)) := (Ext.rfl' w).alloc' _
  have hrw : Row (w.alloc (.cells #[.int .i64 m, .slice A n cc, .slice B n2 d] 24)) w.heap.size 24 [.int .i64 m, .slice A n cc, .slice B n2 d] := Row.new w _ _
  obtain ⟨W1, hW1⟩ : ∃ W1, (w.alloc (.cells #[.int .i64 m, .slice A n cc, .slice B n2 d] 24)) = W1 := ⟨_, rfl⟩
  rw [hW1] at hx hrw
  have HX := hid hx
  have HR := hid hrw
  have HW1 := hid hW1
  have HWD := hid hw
  have HL := hid hl
  obtain ⟨f0, f1, f2, -, -, -⟩ := row_facts3 hrw
  clear hW1 hx hrw hw hl
  go_enter Tryz.func24, Tryz.ntmps24
  go_upto_region 1 with fail
  rw [HW1.out]
  go_wp2_with fail
  refine (wcheck_any _ m us ad Wd wn wc ws W1 (HV.out.ext HX.out) (HWD.out.ext HX.out) HL.out hwb (hid ((mapB_iff m us ad).2 hM.out)) hW (c := 0) (hid rfl)).mono ?_
  rintro e w3 ⟨rfl, hx3⟩
  have HX3 := hid hx3
  clear f0 f1 f2 hx3
  obtain ⟨f0, f1, f2, -, -, -⟩ := row_facts3 (HR.out.ext HX3.out)
  go_wp2_with fail
  refine (regular_ok _ m us ad w3 (HV.out.ext (HX.out.step HX3.out)) hM).mono ?_
  rintro e w4 ⟨rfl, hx4⟩
  rw [hR.out]
  have HF := hid (HX.out.step (HX3.out.step hx4))
  clear f0 f1 f2 hx4
  go_wp2
  go_ret3
  exact ⟨rfl, HF.out⟩
def RestYes (m : Int) (us ad : List Int) (ws : List Int) (w : World) (e : Ending) (w' : World) : Prop := ∃ R : Int, e = .returned (.tuple #[.string (Str (K.txt R)), .string (Str (K.txt (m ^ ws.length))), .int .i64 0]) ∧ 0 ≤ R ∧ R < m ^ ws.length ∧ IsWord m us ad ws R ∧ Ext w w'
theorem Row.put4 {W : World} {H : Nat} {t : TypeId} {p q r s a b c d : Value} (h : Row W H t [p, q, r, s]) : Row ((((W.setCell ⟨H, 0, none⟩ a).setCell ⟨H, 1, none⟩ b).setCell ⟨H, 2, none⟩ c).setCell ⟨H, 3, none⟩ d) H t [a, b, c, d] :=
  (((h.set 0 a).set 1 b).set 2 c).set 3 d
theorem Row.set4 {W : World} {H g : Nat} {t : TypeId} {vs : List Value} {a b c d : Value} (h : Row W g t vs) (hne : g ≠ H) : Row ((((W.setCell ⟨H, 0, none⟩ a).setCell ⟨H, 1, none⟩ b).setCell ⟨H, 2, none⟩ c).setCell ⟨H, 3, none⟩ d) g t vs :=
  (((h.far (by show g ≠ H; exact hne) _).far (by show g ≠ H; exact hne) _).far (by show g ≠ H; exact hne) _).far (by show g ≠ H; exact hne) _
theorem Ext.set4 {w W : World} {H : Nat} {a b c d : Value} (h : Ext w W) (hH : w.heap.size ≤ H) : Ext w ((((W.setCell ⟨H, 0, none⟩ a).setCell ⟨H, 1, none⟩ b).setCell ⟨H, 2, none⟩ c).setCell ⟨H, 3, none⟩ d) :=
  (((h.set' (by show _ ≤ H; exact hH) _).set' (by show _ ≤ H; exact hH) _).set' (by show _ ≤ H; exact hH) _).set' (by show _ ≤ H; exact hH) _
set_option maxRecDepth 100000 in
set_option maxHeartbeats 6400000 in
theorem wrest_ok (v : Value) (m : Int) (us ad : List Int) (Wd : Option Addr) (wn wc : Nat) (ws : List Int) (w : World) (hv : MapV w v m us ad) (hw : Rd w Wd (Is ws)) (hl : ws.length = wn) (hwb : wn ≤ 140737488351232) (hM : Hid (mapP m us ad)) (hW : Hid (wordB m ws = true)) (hR : Hid (regB m us = true)) (ht : Tab w) :
    Calls Tryz.prog 24 #[v, .slice Wd wn wc] w (RestYes m us ad ws w) := by
  have HT := hid ht
  have HWB := hid (wordB_iff.1 hW.out)
  have hw200 : wn ≤ 200 := by rw [← hl]; exact HWB.out.1
  have HM0 := hid (show 0 < m by have := hM.out.1; omega)
  have HV := hid hv
  obtain ⟨A, n, cc, B, n2, d, rfl, -⟩ := hv
  have hx : Ext w (w.alloc (.cells #[.int .i64 m, .slice A n cc, .slice B n2 d] 24)) := (Ext.rfl' w).alloc' _
  have hrw : Row (w.alloc (.cells #[.int .i64 m, .slice A n cc, .slice B n2 d] 24)) w.heap.size 24 [.int .i64 m, .slice A n cc, .slice B n2 d] := Row.new w _ _
  obtain ⟨W1, hW1⟩ : ∃ W1, (w.alloc (.cells #[.int .i64 m, .slice A n cc, .slice B n2 d] 24)) = W1 := ⟨_, rfl⟩
  rw [hW1] at hx hrw
  have HX := hid hx
  have HR := hid hrw
  have HW1 := hid hW1
  have HWD := hid hw
  have HL := hid hl
  obtain ⟨f0, f1, f2, -, -, -⟩ := row_facts3 hrw
  clear hW1 hx hrw hw hl
  go_enter Tryz.func24, Tryz.ntmps24
  go_upto_region 1 with fail
  rw [HW1.out]
  go_wp2_with fail
  refine (wcheck_any _ m us ad Wd wn wc ws W1 (HV.out.ext HX.out) (HWD.out.ext HX.out) HL.out hwb (hid ((mapB_iff m us ad).2 hM.out)) hW (c := 0) (hid rfl)).mono ?_
  rintro e w2 ⟨rfl, hx2⟩
  have HX2 := hid hx2
  clear f0 f1 f2 hx2
  obtain ⟨f0, f1, f2, -, -, -⟩ := row_facts3 (HR.out.ext HX2.out)
  go_wp2_with fail
  refine (regular_ok _ m us ad w2 (HV.out.ext (HX.out.step HX2.out)) hM).mono ?_
  rintro e w3 ⟨rfl, hx3⟩
  rw [hR.out]
  have HX3 := hid (HX2.out.step hx3)
  clear f0 f1 f2 hx3
  go_wp2_with fail
  refine (every_any w3).mono ?_
  rintro e w4 ⟨rfl, hx4⟩
  have HX4 := hid (HX3.out.step hx4)
  have hx5 : Ext w4 (w4.alloc (.cells #[.string ⟨#[48]⟩, .string ⟨#[49]⟩, .string ⟨#[48]⟩, .string ⟨#[49]⟩] 111)) := (Ext.rfl' w4).alloc' _
  have r5 : Row (w4.alloc (.cells #[.string ⟨#[48]⟩, .string ⟨#[49]⟩, .string ⟨#[48]⟩, .string ⟨#[49]⟩] 111)) w4.heap.size 111 [.string ⟨#[48]⟩, .string ⟨#[49]⟩, .string ⟨#[48]⟩, .string ⟨#[49]⟩] := Row.new w4 _ _
  obtain ⟨W5, hW5⟩ : ∃ W5, (w4.alloc (.cells #[.string ⟨#[48]⟩, .string ⟨#[49]⟩, .string ⟨#[48]⟩, .string ⟨#[49]⟩] 111)) = W5 := ⟨_, rfl⟩
  rw [hW5] at hx5 r5
  have HW5 := hid hW5
  have H5 := hid r5
  have HX5 := hid (HX4.out.step hx5)
  have HSZ : Hid (w.heap.size < w4.heap.size) := hid ((HR.out.ext HX4.out).lt)
  have hsz := HSZ.out
  clear hW5 hx5 r5 hx4
  go_upto_region 8 with fail
  rw [HW5.out]
  go_wp2_with fail
  go_loopw [35] (fun iz wr => ∃ (j : Nat) (R : Int), j ≤ wn ∧ iz = .int .i64 (j : Int) ∧ Row wr w.heap.size 24 [.int .i64 m, .slice A n cc, .slice B n2 d] ∧ Row wr w4.heap.size 111 [.string (Str (K.txt R)), .string (Str (K.txt (m ^ j))), .string (Str (K.txt (orbN m us ad j R))), .string (Str (K.txt (lineI m us ad (ws.take j)).1))] ∧ Hid (0 ≤ R ∧ R < m ^ j ∧ IsWord m us ad (ws.take j) R ∧ ClassB j (orbN m us ad j R)) ∧ Ext w wr) (fun iz _ => wn - (intOf iz).toNat)
  case atStart =>
    refine ⟨0, 0, by omega, rfl, HR.out.ext HX5.out, ?_, hid ⟨Int.le_refl _, by rw [Int.pow_zero]; omega, by rw [List.take_zero]; exact IsWord.nil _ _ _ _, by show (0 : Int).natAbs ≤ _; simp⟩, HX.out.step HX5.out⟩
    rw [List.take_zero, Int.pow_zero]
    show Row _ _ _ [.string (Str (K.txt 0)), .string (Str (K.txt 1)), .string (Str (K.txt 0)), .string (Str (K.txt 1))]
    rw [txt_one, txt_zero2]
    exact H5.out
  case round =>
    obtain ⟨j, R, hj, rfl, hrm, hrc, HINV, hex⟩ := hrel
    have RM := hid hrm
    have EX := hid hex
    by_cases hlt : j < wn
    · obtain ⟨b3, o3, e3, -, hc3⟩ := (HWD.out.ext hex).atI (k := j) (by rw [HL.out]; exact hlt)
      subst e3
      have hjn : (j : Int) < (wn : Int) := by omega
      obtain ⟨r, hr⟩ : ∃ r, ws.getD j 0 = r := ⟨_, rfl⟩
      rw [hr] at hc3
      have HRR : Hid (0 ≤ r ∧ r < m) := hid (HWB.out.2 r (by rw [← hr, List.getD_eq_getElem?_getD, List.getElem?_eq_getElem (by rw [HL.out]; exact hlt)]; exact List.getElem_mem _))
      have htk : ws.take (j + 1) = ws.take j ++ [r] := by rw [take_succ_I (by rw [HL.out]; exact hlt), hr]
      have hlen : (ws.take j).length = j := by rw [List.length_take, HL.out]; omega
      have hmem : ∀ x ∈ ws.take j, 0 ≤ x ∧ x < m := fun x hx => HWB.out.2 x (List.mem_of_mem_take hx)
      have hLB := lineI_B hM.out (ws.take j) hmem
      have hdv := lineI_div m us ad (ws.take j)
      have hcop := line_cop hM.out hR.out (ws.take j) hmem
      rw [hlen] at hLB hdv
      obtain ⟨a, ha⟩ : ∃ a, (lineI m us ad (ws.take j)).1 = a := ⟨_, rfl⟩
      obtain ⟨x, hx⟩ : ∃ x, orbN m us ad j R = x := ⟨_, rfl⟩
      obtain ⟨D, hD⟩ : ∃ D, m ^ j = D := ⟨_, rfl⟩
      rw [ha] at hcop
      have HEXI : Hid (∃ t : Nat, (t : Int) < m ∧ (x + (t : Int) * a) % m = r) := hid (sol_int hM.out.1 hM.out.2.1 (by omega) hcop.1 HRR.out.1 HRR.out.2)
      have HB : Hid (0 ≤ R ∧ R < D ∧ D.natAbs ≤ 1000 ^ j ∧ a.natAbs ≤ 1000 ^ j ∧ ClassB j x) := hid ⟨HINV.out.1, by rw [← hD]; exact HINV.out.2.1, by rw [← hD, ← hdv]; exact hLB.2.1, by rw [← ha]; exact hLB.1, by rw [← hx]; exact HINV.out.2.2.2⟩
      have HNEXT : Hid (∀ t : Nat, (t : Int) < m → (x + (t : Int) * a) % m = r → IsWord m us ad (ws.take (j + 1)) (R + (t : Int) * D) ∧ orbN m us ad (j + 1) (R + (t : Int) * D) = stepI m us ad (x + (t : Int) * a) ∧ 0 ≤ R + (t : Int) * D ∧ R + (t : Int) * D < m ^ (j + 1) ∧ ClassB (j + 1) (stepI m us ad (x + (t : Int) * a)) ∧ m ^ (j + 1) = D * m ∧ (lineI m us ad (ws.take (j + 1))).1 = a * us.getD r.toNat 0) := hid (fun t h1 h2 => by
        have hn := IsWord.next (t := (t : Int)) (r := r) HM0.out HINV.out.2.2.1 (by rw [hlen, hx, ha]; exact h2)
        rw [hlen, hx, ha, hD] at hn
        have hDp : 0 < D := by rw [← hD]; exact Int.pow_pos HM0.out
        have htD : (t : Int) * D ≤ (m - 1) * D := Int.mul_le_mul_of_nonneg_right (by omega) (by omega)
        have hmD : m ^ (j + 1) = D * m := by rw [Int.pow_succ, hD]
        have hmD2 : D * m = (m - 1) * D + D := by rw [Int.sub_mul, Int.one_mul, Int.mul_comm]; omega
        have htp : 0 ≤ (t : Int) * D := Int.mul_nonneg (by omega) (by omega)
        have hB1 := HB.out.1
        have hB2 := HB.out.2.1
        refine ⟨by rw [htk]; exact hn.1, ?_, by omega, by rw [hmD, hmD2]; omega, (HB.out.2.2.2.2.next hM.out (by omega) (by have := hM.out.2.1; omega) HB.out.2.2.2.1).2, hmD, ?_⟩
        · rw [orbN, hn.2]
        · rw [htk, lineI_snoc]
          show us.getD r.toNat 0 * (lineI m us ad (ws.take j)).1 = _
          rw [ha, Int.mul_comm])
      rw [hx, hD, ha] at hrc
      obtain ⟨sR, hsR⟩ : ∃ sR, Str (K.txt R) = sR := ⟨_, rfl⟩
      obtain ⟨sD, hsD⟩ : ∃ sD, Str (K.txt D) = sD := ⟨_, rfl⟩
      obtain ⟨sI, hsI⟩ : ∃ sI, Str (K.txt x) = sI := ⟨_, rfl⟩
      obtain ⟨sM, hsM⟩ : ∃ sM, Str (K.txt a) = sM := ⟨_, rfl⟩
      rw [hsR, hsD, hsI, hsM] at hrc
      have RC := hid hrc
      have HRs := hid hsR
      have HDs := hid hsD
      have HIs := hid hsI
      have HMs := hid hsM
      obtain ⟨f0, f1, f2, -, -, -⟩ := row_facts3 hrm
      obtain ⟨g0, g1, g2, g3, -, -, -, -⟩ := row_facts4 hrc
      clear hr htk hlen hmem hLB hdv hcop ha hx hD hsR hsD hsI hsM hrm hrc hex
      go_wp2_with fail
      refine (narrowed_any _ sR sD sI sM R D x a m r us ad wr HRs HDs HIs HMs (HV.out.ext EX.out) hM HRR.out.1 HRR.out.2 (HT.out.ext EX.out) HEXI (k := j) (by omega) HB).mono ?_
      rintro e w7 ⟨t, rfl, htm, hts, hx7⟩
      have HN := hid (HNEXT.out t htm hts)
      obtain ⟨tR, htR⟩ : ∃ tR, Str (K.txt (R + (t : Int) * D)) = tR := ⟨_, rfl⟩
      obtain ⟨tD, htD⟩ : ∃ tD, Str (K.txt (D * m)) = tD := ⟨_, rfl⟩
      obtain ⟨tI, htI⟩ : ∃ tI, Str (K.txt (stepI m us ad (x + (t : Int) * a))) = tI := ⟨_, rfl⟩
      obtain ⟨tM, htM⟩ : ∃ tM, Str (K.txt (a * us.getD r.toNat 0)) = tM := ⟨_, rfl⟩
      rw [htR, htD, htI, htM]
      have hx8 : Ext w7 (w7.alloc (.cells #[.string tR, .string tD, .string tI, .string tM] 111)) := (Ext.rfl' w7).alloc' _
      have r8 : Row (w7.alloc (.cells #[.string tR, .string tD, .string tI, .string tM] 111)) w7.heap.size 111 [.string tR, .string tD, .string tI, .string tM] := Row.new w7 _ _
      obtain ⟨w8, hw8⟩ : ∃ w8, (w7.alloc (.cells #[.string tR, .string tD, .string tI, .string tM] 111)) = w8 := ⟨_, rfl⟩
      rw [hw8] at hx8 r8
      have HW8 := hid hw8
      have HX8 := hid (hx7.step hx8)
      have R8 := hid r8
      have HFIN : Hid (∃ (j' : Nat) (R' : Int), j' ≤ wn ∧ Value.int .i64 ((j : Int) + 1) = .int .i64 (j' : Int) ∧ Row ((((w8.setCell ⟨w4.heap.size, 0, none⟩ (.string tR)).setCell ⟨w4.heap.size, 1, none⟩ (.string tD)).setCell ⟨w4.heap.size, 2, none⟩ (.string tI)).setCell ⟨w4.heap.size, 3, none⟩ (.string tM)) w.heap.size 24 [.int .i64 m, .slice A n cc, .slice B n2 d] ∧ Row ((((w8.setCell ⟨w4.heap.size, 0, none⟩ (.string tR)).setCell ⟨w4.heap.size, 1, none⟩ (.string tD)).setCell ⟨w4.heap.size, 2, none⟩ (.string tI)).setCell ⟨w4.heap.size, 3, none⟩ (.string tM)) w4.heap.size 111 [.string (Str (K.txt R')), .string (Str (K.txt (m ^ j'))), .string (Str (K.txt (orbN m us ad j' R'))), .string (Str (K.txt (lineI m us ad (ws.take j')).1))] ∧ Hid (0 ≤ R' ∧ R' < m ^ j' ∧ IsWord m us ad (ws.take j') R' ∧ ClassB j' (orbN m us ad j' R')) ∧ Ext w ((((w8.setCell ⟨w4.heap.size, 0, none⟩ (.string tR)).setCell ⟨w4.heap.size, 1, none⟩ (.string tD)).setCell ⟨w4.heap.size, 2, none⟩ (.string tI)).setCell ⟨w4.heap.size, 3, none⟩ (.string tM))) := hid (by
        refine ⟨j + 1, R + (t : Int) * D, by omega, by simp, (RM.out.ext HX8.out).set4 (by omega), ?_, hid ⟨HN.out.2.2.1, HN.out.2.2.2.1, HN.out.1, by rw [HN.out.2.1]; exact HN.out.2.2.2.2.1⟩, (EX.out.step HX8.out).set4 (by omega)⟩
        rw [HN.out.2.1, HN.out.2.2.2.2.2.1, HN.out.2.2.2.2.2.2, htR, htD, htI, htM]
        exact (RC.out.ext HX8.out).put4)
      clear f0 f1 f2 g0 g1 g2 g3 hx7 hx8 r8 hw8 htR htD htI htM htm hts
      obtain ⟨g0, g1, g2, g3, g4, g5, g6, g7⟩ := row_facts4 (RC.out.ext HX8.out)
      obtain ⟨t0, t1, t2, t3, -, -, -, -⟩ := row_facts4 R8.out
      go_upto_region 12 with fail
      rw [HW8.out]
      go_wp2
      go_roundw
      case rel => exact HFIN.out
      case measure => first | (simp [intOf]; done) | (simp [intOf]; omega)
    · obtain rfl : j = wn := by omega
      have htk : ws.take j = ws := List.take_of_length_le (by rw [HL.out]; exact Nat.le_refl _)
      have HF : Hid (∀ w', Ext wr w' → RestYes m us ad ws w (.returned (.tuple #[.string (Str (K.txt R)), .string (Str (K.txt (m ^ j))), .int .i64 0])) w') := hid (fun w' e => ⟨R, by rw [HL.out], HINV.out.1, by rw [HL.out]; exact HINV.out.2.1, by have := HINV.out.2.2.1; rwa [htk] at this, EX.out.step e⟩)
      obtain ⟨D, hD⟩ : ∃ D, m ^ j = D := ⟨_, rfl⟩
      rw [hD] at hrc HF
      obtain ⟨g0, g1, g2, g3, -, -, -, -⟩ := row_facts4 hrc
      clear hrm hrc hex htk hD
      go_wp2_with fail
      first | (go_quiet (fail)) | (go_region)
      all_goals
        go_wp2
        go_ret3
        exact HF.out _ (by first | exact Ext.rfl' _ | exact (Ext.rfl' _).drew' | exact (Ext.rfl' _).drewN _)
end Go.Proofs.YtlfbgemceeibiaaGreatDoor
/- word.timesPlus, word.Apply -/
namespace Go.Proofs.YtlfbgemceeibiaaGreatDoor
open Go.RowKit
theorem cutMinus_any (l : List UInt8) (w : World) :
    Calls Tryz.prog 132 #[.string (Str l), .string ⟨#[45]⟩] w fun e w' => e = .returned (.tuple #[.string (Str (K.body l)), .bool (decide (l.head? = some 45))]) ∧ w = w' :=
  (Shelf.l_strings_CutPrefix (Str l) ⟨#[45]⟩ w).mono fun e w' ⟨he, hw⟩ => by
    have e1 : Lib.trimPrefix (Str l).data.toList (⟨#[45]⟩ : ByteArray).data.toList = K.body l := trim_minus l
    have e2 : Lib.hasPrefix (Str l).data.toList (⟨#[45]⟩ : ByteArray).data.toList = decide (l.head? = some 45) := by
      show Lib.hasPrefix l [45] = _
      unfold Lib.hasPrefix
      cases l with
      | nil => rfl
      | cons x r =>
        show ((45 : UInt8) == x && [].isPrefixOf r) = _
        rw [show ([] : List UInt8).isPrefixOf r = true from by cases r <;> rfl, Bool.and_true]
        simp only [List.head?_cons, Option.some.injEq]
        rw [Bool.eq_iff_iff, beq_iff_eq, decide_eq_true_iff]
        exact eq_comm
    rw [e1, e2] at he
    exact ⟨he, hw.symm⟩
theorem body_txt2 (n : Int) : K.body (K.txt n) = K.txt (n.natAbs : Int) := by
  rw [K.body_txt]
  unfold K.txt
  rw [if_neg (by omega), Int.natAbs_natCast]
theorem rec_use {f f' r S : Int} {l : List UInt8} (h : l.length ≤ 2001 ∧ (f = 0 → (K.fits r → f' = 0 ∧ l = K.txt r) ∧ (¬ K.fits r → f' = 3)) ∧ (f = 3 → f' = 3)) (hf : f = 0 ∨ f = 3) (hr : f = 0 → r = S) :
    (f' = 0 → f = 0 ∧ K.fits S ∧ l = K.txt S) ∧ (f = 0 → K.fits S → f' = 0) := by
  refine ⟨fun h0 => ?_, fun h0 hs => ?_⟩
  · rcases hf with hf | hf
    · have h1 := h.2.1 hf
      rw [hr hf] at h1
      by_cases hs : K.fits S
      · exact ⟨hf, hs, (h1.1 hs).2⟩
      · have := h1.2 hs; omega
    · have := h.2.2 hf; omega
  · have h1 := h.2.1 h0
    rw [hr h0] at h1
    exact (h1.1 hs).1
/-- no number on the way is too long where the sum is not -/
theorem tp_way {P Q A : Int} {L : Nat} (hs : (0 ≤ P ∧ 0 ≤ Q) ∨ (P ≤ 0 ∧ Q ≤ 0)) (hA : A.natAbs < L) (hT : (P + A + P + Q).natAbs < L) : P.natAbs < L ∧ (P + A).natAbs < L ∧ (P + A + P).natAbs < L := by
  rcases hs with h | h <;> omega
theorem half_parts (M N : Int) (hN : 0 ≤ N) : (0 ≤ M * (N / 2) ∧ 0 ≤ M * (N % 2)) ∨ (M * (N / 2) ≤ 0 ∧ M * (N % 2) ≤ 0) := by
  have h1 : 0 ≤ N / 2 := Int.ediv_nonneg hN (by omega)
  have h2 : 0 ≤ N % 2 := Int.emod_nonneg _ (by omega)
  rcases Int.le_total 0 M with h | h
  · exact .inl ⟨Int.mul_nonneg h h1, Int.mul_nonneg h h2⟩
  · exact .inr ⟨Int.mul_nonpos_of_nonpos_of_nonneg h h1, Int.mul_nonpos_of_nonpos_of_nonneg h h2⟩
theorem half_sum (M N A : Int) : M * (N / 2) + A + M * (N / 2) + M * (N % 2) = M * N + A := by
  have h := Int.mul_ediv_add_emod N 2
  have : M * N = M * (N / 2) + M * (N / 2) + M * (N % 2) := by
    rw [← Int.mul_add, ← Int.mul_add]
    congr 1
    omega
  omega
theorem odd_fits {M N : Int} (hM : K.fits M) : K.fits (M * (N % 2)) := by
  have h2 : N % 2 = 0 ∨ N % 2 = 1 := by omega
  rcases h2 with h | h
  · rw [h, Int.mul_zero]; exact K.LIM_pos
  · rw [h, Int.mul_one]; exact hM
/-- what timesPlus returns: the text, or ErrSize -/
def TPPost (S : Int) (w : World) (e : Ending) (w' : World) : Prop := ∃ (s : ByteArray) (c : Int), e = .returned (.tuple #[.string s, .int .i64 c]) ∧ Hid (Told2 S s c) ∧ Ext w w'
theorem two_ok : K.validL [50] = true := by decide +kernel
theorem two_num : K.numL [50] = 2 := by decide +kernel
theorem zero_ok : K.validL [48] = true := by decide +kernel
theorem zero_num : K.numL [48] = 0 := by decide +kernel
theorem fits_neg {M : Int} (h : K.fits M) : K.fits (0 - M) := by
  show (0 - M).natAbs < K.LIM
  have h2 : M.natAbs < K.LIM := h
  omega
theorem fits_half {N : Int} (h0 : 0 ≤ N) (h : K.fits N) : K.fits (N / 2) ∧ K.fits (N % 2) := by
  have h2 : N.natAbs < K.LIM := h
  have h3 := K.LIM_pos
  refine ⟨?_, ?_⟩
  · show (N / 2).natAbs < K.LIM
    omega
  · show (N % 2).natAbs < K.LIM
    have h4 : (1 : Nat) < K.LIM := by
      have h5 : K.pw 1 ≤ K.pw 2000 := K.pw_mono (by omega)
      have h6 : K.pw 1 = 10 := by decide
      unfold K.LIM
      omega
    omega
theorem minus_s (g : Nat) (M : Int) (w : World) (hr : Row w g 103 [.int .i64 0]) (hf : K.fits M) (ht : Tab w) :
    Calls Tryz.prog 133 #[.pointer (some ⟨g, 0, none⟩), .string ⟨#[48]⟩, .string (Str (K.txt M))] w (RecOk (0 - M) w) := by
  have h := minus_ok g [48] (K.txt M) w hr zero_ok (K.valid_txt _ hf) (by rw [zero_num, K.numL_txt]; exact fits_neg hf) ht
  rwa [zero_num, K.numL_txt] at h
set_option maxRecDepth 100000 in
set_option maxHeartbeats 6400000 in
theorem tplus_any (M N A : Int) (w : World) (FM0 : Hid (K.fits M)) (FN : Hid (K.fits N)) (FA : Hid (K.fits A)) (ht : Tab w) :
    Calls Tryz.prog 107 #[.string (Str (K.txt M)), .string (Str (K.txt N)), .string (Str (K.txt A))] w (TPPost (M * N + A) w) := by
  have HT := hid ht
  have hr0 := Row.new w 103 [.int .i64 0]
  have hx0 : Ext w (w.alloc (.cells #[.int .i64 0] 103)) := (Ext.rfl' w).alloc' _
  obtain ⟨W1, hW1⟩ : ∃ W1, (w.alloc (.cells #[.int .i64 0] 103)) = W1 := ⟨_, rfl⟩
  have hr0 : Row W1 w.heap.size 103 [.int .i64 0] := by rw [← hW1]; exact hr0
  rw [hW1] at hx0
  have HW1 := hid hW1
  have RG0 := hid hr0
  have E0 := hid hx0
  clear hW1 hr0 hx0
  by_cases hn : N < 0
  · obtain ⟨M1, hM1⟩ : ∃ M1, 0 - M = M1 := ⟨_, rfl⟩
    obtain ⟨N1, hN1⟩ : ∃ N1, -N = N1 := ⟨_, rfl⟩
    have HM1 := hid hM1
    have HN1 := hid hN1
    have HB : Hid (K.body (K.txt N) = K.txt N1) := hid (by rw [body_txt2, ← hN1]; congr 1; omega)
    have HD : Hid (decide ((K.txt N).head? = some 45) = true) := hid (decide_eq_true ((K.head_txt N).2 hn))
    have HN0 : Hid (0 ≤ N1) := hid (by omega)
    have FNN : Hid (K.fits N1) := hid (by rw [← hN1]; show (-N).natAbs < K.LIM; have h2 : N.natAbs < K.LIM := FN.out; omega)
    have HVN : Hid (K.validL (K.txt N1) = true) := hid (K.valid_txt _ FNN.out)
    have FM : Hid (K.fits M1) := hid (by rw [← hM1]; exact fits_neg FM0.out)
    have HTOT : Hid (M1 * N1 + A = M * N + A) := hid (by rw [← hM1, ← hN1, Int.zero_sub, Int.neg_mul_neg])
    obtain ⟨hh, hhh⟩ : ∃ hh, N1 / 2 = hh := ⟨_, rfl⟩
    obtain ⟨qq, hqq⟩ : ∃ qq, N1 % 2 = qq := ⟨_, rfl⟩
    have FH : Hid (K.fits hh) := hid (by rw [← hhh]; exact (fits_half HN0.out FNN.out).1)
    have FO : Hid (K.fits qq) := hid (by rw [← hqq]; exact (fits_half HN0.out FNN.out).2)
    have HHH := hid hhh
    have HQQ := hid hqq
    clear hM1 hN1 hhh hqq
    go_enter Tryz.func107, Tryz.ntmps107
    go_upto_region 2 with fail
    rw [HW1.out]
    go_wp2_with fail
    refine (cutMinus_any (K.txt N) W1).mono ?_
    rintro e wz ⟨rfl, rfl⟩
    rw [HB.out, HD.out]
    go_wp2_with fail
    refine (minus_s w.heap.size M W1 RG0.out FM0.out (HT.out.ext E0.out)).mono ?_
    rintro e wm ⟨rfl, hxm⟩
    rw [HM1.out]
    have RG := hid (RG0.out.ext hxm)
    have E1 := hid (E0.out.step hxm)
    clear hxm
    go_wp2_with fail
    refine (divide_ok (K.txt N1) [50] wm (len_of (valid_len HVN.out)) (by decide) HVN.out two_ok (by rw [two_num]; omega) (HT.out.ext E1.out)).mono ?_
    rintro e wd ⟨rfl, hxd⟩
    rw [K.numL_txt, two_num, HHH.out, HQQ.out]
    have RD := hid (RG.out.ext hxd)
    have ED := hid (E1.out.step hxd)
    clear hxd
    go_wp2_with fail
    refine (times_gen w.heap.size (K.txt M1) (K.txt hh) 0 w wd ED.out (Nat.le_refl _) RD.out (.inl rfl) (K.txt_len _ FM.out) (K.txt_len _ FH.out) (hid (fun _ => ⟨K.valid_txt _ FM.out, K.valid_txt _ FH.out⟩)) (HT.out.ext ED.out)).mono ?_
    rintro e w1 ⟨l1, f1, rfl, hr1, hf1, HQ1, hx1⟩
    have U1 := hid (rec_use (S := M1 * hh) HQ1.out (.inl rfl) (fun _ => by rw [K.numL_txt, K.numL_txt]))
    have RA := hid hr1
    have EA := hid hx1
    clear hr1 hx1
    go_wp2_with fail
    refine (plus_gen w.heap.size l1 (K.txt A) f1 w w1 EA.out (Nat.le_refl _) RA.out hf1 HQ1.out.1 (K.txt_len _ FA.out) (hid (fun h => by rw [(U1.out.1 h).2.2]; exact ⟨K.valid_txt _ (U1.out.1 h).2.1, K.valid_txt _ FA.out⟩)) (HT.out.ext EA.out)).mono ?_
    rintro e w2 ⟨l2, f2, rfl, hr2, hf2, HQ2, hx2⟩
    have U2 := hid (rec_use (S := M1 * hh + A) HQ2.out hf1 (fun h => by rw [(U1.out.1 h).2.2, K.numL_txt, K.numL_txt]))
    have RB := hid hr2
    have EB := hid hx2
    clear hr2 hx2
    go_wp2_with fail
    refine (plus_gen w.heap.size l2 l1 f2 w w2 EB.out (Nat.le_refl _) RB.out hf2 HQ2.out.1 HQ1.out.1 (hid (fun h => by have h2 := U2.out.1 h; have h1 := U1.out.1 h2.1; rw [h2.2.2, h1.2.2]; exact ⟨K.valid_txt _ h2.2.1, K.valid_txt _ h1.2.1⟩)) (HT.out.ext EB.out)).mono ?_
    rintro e w3 ⟨l3, f3, rfl, hr3, hf3, HQ3, hx3⟩
    have U3 := hid (rec_use (S := M1 * hh + A + M1 * hh) HQ3.out hf2 (fun h => by have h2 := U2.out.1 h; have h1 := U1.out.1 h2.1; rw [h2.2.2, h1.2.2, K.numL_txt, K.numL_txt]))
    have RC := hid hr3
    have EC := hid hx3
    clear hr3 hx3
    go_wp2_with fail
    refine (times_gen w.heap.size (K.txt M1) (K.txt qq) f3 w w3 EC.out (Nat.le_refl _) RC.out hf3 (K.txt_len _ FM.out) (K.txt_len _ FO.out) (hid (fun _ => ⟨K.valid_txt _ FM.out, K.valid_txt _ FO.out⟩)) (HT.out.ext EC.out)).mono ?_
    rintro e w4 ⟨l4, f4, rfl, hr4, hf4, HQ4, hx4⟩
    have U4 := hid (rec_use (S := M1 * qq) HQ4.out hf3 (fun _ => by rw [K.numL_txt, K.numL_txt]))
    have RDD := hid hr4
    have EDD := hid hx4
    clear hr4 hx4
    go_wp2_with fail
    refine (plus_gen w.heap.size l3 l4 f4 w w4 EDD.out (Nat.le_refl _) RDD.out hf4 HQ3.out.1 HQ4.out.1 (hid (fun h => by have h4 := U4.out.1 h; have h3 := U3.out.1 h4.1; rw [h4.2.2, h3.2.2]; exact ⟨K.valid_txt _ h3.2.1, K.valid_txt _ h4.2.1⟩)) (HT.out.ext EDD.out)).mono ?_
    rintro e w5 ⟨l5, f5, rfl, hr5, hf5, HQ5, hx5⟩
    have U5 := hid (rec_use (S := M1 * hh + A + M1 * hh + M1 * qq) HQ5.out hf4 (fun h => by have h4 := U4.out.1 h; have h3 := U3.out.1 h4.1; rw [h4.2.2, h3.2.2, K.numL_txt, K.numL_txt]))
    have RE := hid hr5
    have EE := hid hx5
    clear hr5 hx5
    have c0 : w5.cell? ⟨w.heap.size, 0, none⟩ = some (.int .i64 f5) := RE.out.cell 0
    rcases hf5 with rfl | rfl
    · have HF : Hid (Told2 (M * N + A) (Str l5) 0) := hid (by
        have h5 := (U5.out.1 (by trivial)).2
        rw [← HHH.out, ← HQQ.out, half_sum, HTOT.out] at h5
        exact ⟨fun _ => ⟨by rw [h5.2], rfl⟩, fun h => absurd h5.1 h⟩)
      clear U1 U2 U3 U4 U5 HQ1 HQ2 HQ3 HQ4 HQ5
      go_wp2
      go_ret2
      exact ⟨_, _, rfl, HF, EE.out⟩
    · have HF : Hid (Told2 (M * N + A) ⟨#[]⟩ 3) := hid ⟨fun h => by
        exfalso
        have hT : K.fits (M1 * hh + A + M1 * hh + M1 * qq) := by rw [← HHH.out, ← HQQ.out, half_sum, HTOT.out]; exact h
        have hw := tp_way (by rw [← HHH.out, ← HQQ.out]; exact half_parts M1 N1 HN0.out) FA.out hT
        have g1 := U1.out.2 (by trivial) hw.1
        have g2 := U2.out.2 g1 hw.2.1
        have g3 := U3.out.2 g2 hw.2.2
        have g4 := U4.out.2 g3 (by rw [← HQQ.out]; exact odd_fits FM.out)
        have g5 := U5.out.2 g4 hT
        omega, fun _ => ⟨rfl, rfl⟩⟩
      clear U1 U2 U3 U4 U5 HQ1 HQ2 HQ3 HQ4 HQ5
      go_wp2_with fail
      first | (go_quiet (fail)) | (go_region)
      all_goals
        have HE5 := hid (show Ext w _ from EE.out.drewN nq)
        go_wp2
        go_ret2
        exact ⟨_, _, rfl, HF, HE5.out⟩
  · have HB : Hid (K.body (K.txt N) = K.txt N) := hid (by rw [body_txt2]; congr 1; omega)
    have HD : Hid (decide ((K.txt N).head? = some 45) = false) := hid (decide_eq_false (fun h => hn ((K.head_txt N).1 h)))
    have HN0 : Hid (0 ≤ N) := hid (by omega)
    have HVN : Hid (K.validL (K.txt N) = true) := hid (K.valid_txt _ FN.out)
    have FM := FM0
    obtain ⟨hh, hhh⟩ : ∃ hh, N / 2 = hh := ⟨_, rfl⟩
    obtain ⟨qq, hqq⟩ : ∃ qq, N % 2 = qq := ⟨_, rfl⟩
    have FH : Hid (K.fits hh) := hid (by rw [← hhh]; exact (fits_half HN0.out FN.out).1)
    have FO : Hid (K.fits qq) := hid (by rw [← hqq]; exact (fits_half HN0.out FN.out).2)
    have HHH := hid hhh
    have HQQ := hid hqq
    clear hhh hqq
    go_enter Tryz.func107, Tryz.ntmps107
    go_upto_region 2 with fail
    rw [HW1.out]
    go_wp2_with fail
    refine (cutMinus_any (K.txt N) W1).mono ?_
    rintro e wz ⟨rfl, rfl⟩
    rw [HD.out]
    have RG := RG0
    go_wp2_with fail
    refine (divide_ok (K.txt N) [50] W1 (len_of (valid_len HVN.out)) (by decide) HVN.out two_ok (by rw [two_num]; omega) (HT.out.ext E0.out)).mono ?_
    rintro e wd ⟨rfl, hxd⟩
    rw [K.numL_txt, two_num, HHH.out, HQQ.out]
    have RD := hid (RG.out.ext hxd)
    have ED := hid (E0.out.step hxd)
    clear hxd
    go_wp2_with fail
    refine (times_gen w.heap.size (K.txt M) (K.txt hh) 0 w wd ED.out (Nat.le_refl _) RD.out (.inl rfl) (K.txt_len _ FM.out) (K.txt_len _ FH.out) (hid (fun _ => ⟨K.valid_txt _ FM.out, K.valid_txt _ FH.out⟩)) (HT.out.ext ED.out)).mono ?_
    rintro e w1 ⟨l1, f1, rfl, hr1, hf1, HQ1, hx1⟩
    have U1 := hid (rec_use (S := M * hh) HQ1.out (.inl rfl) (fun _ => by rw [K.numL_txt, K.numL_txt]))
    have RA := hid hr1
    have EA := hid hx1
    clear hr1 hx1
    go_wp2_with fail
    refine (plus_gen w.heap.size l1 (K.txt A) f1 w w1 EA.out (Nat.le_refl _) RA.out hf1 HQ1.out.1 (K.txt_len _ FA.out) (hid (fun h => by rw [(U1.out.1 h).2.2]; exact ⟨K.valid_txt _ (U1.out.1 h).2.1, K.valid_txt _ FA.out⟩)) (HT.out.ext EA.out)).mono ?_
    rintro e w2 ⟨l2, f2, rfl, hr2, hf2, HQ2, hx2⟩
    have U2 := hid (rec_use (S := M * hh + A) HQ2.out hf1 (fun h => by rw [(U1.out.1 h).2.2, K.numL_txt, K.numL_txt]))
    have RB := hid hr2
    have EB := hid hx2
    clear hr2 hx2
    go_wp2_with fail
    refine (plus_gen w.heap.size l2 l1 f2 w w2 EB.out (Nat.le_refl _) RB.out hf2 HQ2.out.1 HQ1.out.1 (hid (fun h => by have h2 := U2.out.1 h; have h1 := U1.out.1 h2.1; rw [h2.2.2, h1.2.2]; exact ⟨K.valid_txt _ h2.2.1, K.valid_txt _ h1.2.1⟩)) (HT.out.ext EB.out)).mono ?_
    rintro e w3 ⟨l3, f3, rfl, hr3, hf3, HQ3, hx3⟩
    have U3 := hid (rec_use (S := M * hh + A + M * hh) HQ3.out hf2 (fun h => by have h2 := U2.out.1 h; have h1 := U1.out.1 h2.1; rw [h2.2.2, h1.2.2, K.numL_txt, K.numL_txt]))
    have RC := hid hr3
    have EC := hid hx3
    clear hr3 hx3
    go_wp2_with fail
    refine (times_gen w.heap.size (K.txt M) (K.txt qq) f3 w w3 EC.out (Nat.le_refl _) RC.out hf3 (K.txt_len _ FM.out) (K.txt_len _ FO.out) (hid (fun _ => ⟨K.valid_txt _ FM.out, K.valid_txt _ FO.out⟩)) (HT.out.ext EC.out)).mono ?_
    rintro e w4 ⟨l4, f4, rfl, hr4, hf4, HQ4, hx4⟩
    have U4 := hid (rec_use (S := M * qq) HQ4.out hf3 (fun _ => by rw [K.numL_txt, K.numL_txt]))
    have RDD := hid hr4
    have EDD := hid hx4
    clear hr4 hx4
    go_wp2_with fail
    refine (plus_gen w.heap.size l3 l4 f4 w w4 EDD.out (Nat.le_refl _) RDD.out hf4 HQ3.out.1 HQ4.out.1 (hid (fun h => by have h4 := U4.out.1 h; have h3 := U3.out.1 h4.1; rw [h4.2.2, h3.2.2]; exact ⟨K.valid_txt _ h3.2.1, K.valid_txt _ h4.2.1⟩)) (HT.out.ext EDD.out)).mono ?_
    rintro e w5 ⟨l5, f5, rfl, hr5, hf5, HQ5, hx5⟩
    have U5 := hid (rec_use (S := M * hh + A + M * hh + M * qq) HQ5.out hf4 (fun h => by have h4 := U4.out.1 h; have h3 := U3.out.1 h4.1; rw [h4.2.2, h3.2.2, K.numL_txt, K.numL_txt]))
    have RE := hid hr5
    have EE := hid hx5
    clear hr5 hx5
    have c0 : w5.cell? ⟨w.heap.size, 0, none⟩ = some (.int .i64 f5) := RE.out.cell 0
    rcases hf5 with rfl | rfl
    · have HF : Hid (Told2 (M * N + A) (Str l5) 0) := hid (by
        have h5 := (U5.out.1 (by trivial)).2
        rw [← HHH.out, ← HQQ.out, half_sum] at h5
        exact ⟨fun _ => ⟨by rw [h5.2], rfl⟩, fun h => absurd h5.1 h⟩)
      clear U1 U2 U3 U4 U5 HQ1 HQ2 HQ3 HQ4 HQ5
      go_wp2
      go_ret2
      exact ⟨_, _, rfl, HF, EE.out⟩
    · have HF : Hid (Told2 (M * N + A) ⟨#[]⟩ 3) := hid ⟨fun h => by
        exfalso
        have hT : K.fits (M * hh + A + M * hh + M * qq) := by rw [← HHH.out, ← HQQ.out, half_sum]; exact h
        have hw := tp_way (by rw [← HHH.out, ← HQQ.out]; exact half_parts M N HN0.out) FA.out hT
        have g1 := U1.out.2 (by trivial) hw.1
        have g2 := U2.out.2 g1 hw.2.1
        have g3 := U3.out.2 g2 hw.2.2
        have g4 := U4.out.2 g3 (by rw [← HQQ.out]; exact odd_fits FM.out)
        have g5 := U5.out.2 g4 hT
        omega, fun _ => ⟨rfl, rfl⟩⟩
      clear U1 U2 U3 U4 U5 HQ1 HQ2 HQ3 HQ4 HQ5
      go_wp2_with fail
      first | (go_quiet (fail)) | (go_region)
      all_goals
        have HE5 := hid (show Ext w _ from EE.out.drewN nq)
        go_wp2
        go_ret2
        exact ⟨_, _, rfl, HF, HE5.out⟩
end Go.Proofs.YtlfbgemceeibiaaGreatDoor
/- word.Apply -/
namespace Go.Proofs.YtlfbgemceeibiaaGreatDoor
open Go.RowKit
theorem txt_not_zero {z : Int} (h : z ≠ 0) : Str (K.txt z) ≠ ⟨#[48]⟩ := by
  intro e
  have h2 : K.txt z = [48] := by
    have := congrArg (fun b : ByteArray => b.data.toList) e
    simpa [Str] using this
  rw [← txt_zero2] at h2
  exact h (K.txt_inj h2)
set_option maxRecDepth 100000 in
set_option maxHeartbeats 1600000 in
theorem apply_bad0 (lm la ld ln : List UInt8) (w : World) (h1 : lm.length ≤ 140737488351232) (h2 : la.length ≤ 140737488351232) (h3 : ld.length ≤ 140737488351232) (h4 : ln.length ≤ 140737488351232) (v0 : Hid (K.validL lm = false)) :
    Calls Tryz.prog 47 #[.agg #[.string (Str lm), .string (Str la), .string (Str ld)], .string (Str ln)] w (fun e w' => e = .returned (.tuple #[.string ⟨#[]⟩, .bool false, .int .i64 1]) ∧ Ext w w') := by
  have hx : Ext w (w.alloc (.cells #[.string (Str lm), .string (Str la), .string (Str ld)] 41)) := (Ext.rfl' w).alloc' _
  have hrw : Row (w.alloc (.cells #[.string (Str lm), .string (Str la), .string (Str ld)] 41)) w.heap.size 41 [.string (Str lm), .string (Str la), .string (Str ld)] := Row.new w _ _
  obtain ⟨W1, hW1⟩ : ∃ W1, (w.alloc (.cells #[.string (Str lm), .string (Str la), .string (Str ld)] 41)) = W1 := ⟨_, rfl⟩
  rw [hW1] at hx hrw
  have HX := hid hx
  have HR := hid hrw
  have HW1 := hid hW1
  have HY0 := hid (Ext.rfl' W1)
  obtain ⟨f0, f1, f2, -, -, -⟩ := row_facts3 hrw
  clear hW1 hx hrw
  go_enter Tryz.func47, Tryz.ntmps47
  go_upto_region 1 with fail
  rw [HW1.out]
  go_wp2_with fail
  refine (valid_at lm W1 v0 h1).mono ?_
  rintro e w2 ⟨rfl, hx⟩
  have HY1 := hid (HY0.out.step hx)
  clear f0 f1 f2 hx
  obtain ⟨f0, f1, f2, -, -, -⟩ := row_facts3 (HR.out.ext HY1.out)
  have HF := hid (HX.out.step HY1.out)
  clear f0 f1 f2
  go_wp2
  go_ret3
  exact ⟨rfl, HF.out⟩
set_option maxRecDepth 100000 in
set_option maxHeartbeats 1600000 in
theorem apply_bad1 (lm la ld ln : List UInt8) (w : World) (h1 : lm.length ≤ 140737488351232) (h2 : la.length ≤ 140737488351232) (h3 : ld.length ≤ 140737488351232) (h4 : ln.length ≤ 140737488351232) (v0 : Hid (K.validL lm = true)) (v1 : Hid (K.validL la = false)) :
    Calls Tryz.prog 47 #[.agg #[.string (Str lm), .string (Str la), .string (Str ld)], .string (Str ln)] w (fun e w' => e = .returned (.tuple #[.string ⟨#[]⟩, .bool false, .int .i64 1]) ∧ Ext w w') := by
  have hx : Ext w (w.alloc (.cells #[.string (Str lm), .string (Str la), .string (Str ld)] 41)) := (Ext.rfl' w).alloc' _
  have hrw : Row (w.alloc (.cells #[.string (Str lm), .string (Str la), .string (Str ld)] 41)) w.heap.size 41 [.string (Str lm), .string (Str la), .string (Str ld)] := Row.new w _ _
  obtain ⟨W1, hW1⟩ : ∃ W1, (w.alloc (.cells #[.string (Str lm), .string (Str la), .string (Str ld)] 41)) = W1 := ⟨_, rfl⟩
  rw [hW1] at hx hrw
  have HX := hid hx
  have HR := hid hrw
  have HW1 := hid hW1
  have HY0 := hid (Ext.rfl' W1)
  obtain ⟨f0, f1, f2, -, -, -⟩ := row_facts3 hrw
  clear hW1 hx hrw
  go_enter Tryz.func47, Tryz.ntmps47
  go_upto_region 1 with fail
  rw [HW1.out]
  go_wp2_with fail
  refine (valid_at lm W1 v0 h1).mono ?_
  rintro e w2 ⟨rfl, hx⟩
  have HY1 := hid (HY0.out.step hx)
  clear f0 f1 f2 hx
  obtain ⟨f0, f1, f2, -, -, -⟩ := row_facts3 (HR.out.ext HY1.out)
  go_wp2_with fail
  refine (valid_at la w2 v1 h2).mono ?_
  rintro e w3 ⟨rfl, hx⟩
  have HY2 := hid (HY1.out.step hx)
  clear f0 f1 f2 hx
  obtain ⟨f0, f1, f2, -, -, -⟩ := row_facts3 (HR.out.ext HY2.out)
  have HF := hid (HX.out.step HY2.out)
  clear f0 f1 f2
  go_wp2
  go_ret3
  exact ⟨rfl, HF.out⟩
set_option maxRecDepth 100000 in
set_option maxHeartbeats 1600000 in
theorem apply_bad2 (lm la ld ln : List UInt8) (w : World) (h1 : lm.length ≤ 140737488351232) (h2 : la.length ≤ 140737488351232) (h3 : ld.length ≤ 140737488351232) (h4 : ln.length ≤ 140737488351232) (v0 : Hid (K.validL lm = true)) (v1 : Hid (K.validL la = true)) (v2 : Hid (K.validL ld = false)) :
    Calls Tryz.prog 47 #[.agg #[.string (Str lm), .string (Str la), .string (Str ld)], .string (Str ln)] w (fun e w' => e = .returned (.tuple #[.string ⟨#[]⟩, .bool false, .int .i64 1]) ∧ Ext w w') := by
  have hx : Ext w (w.alloc (.cells #[.string (Str lm), .string (Str la), .string (Str ld)] 41)) := (Ext.rfl' w).alloc' _
  have hrw : Row (w.alloc (.cells #[.string (Str lm), .string (Str la), .string (Str ld)] 41)) w.heap.size 41 [.string (Str lm), .string (Str la), .string (Str ld)] := Row.new w _ _
  obtain ⟨W1, hW1⟩ : ∃ W1, (w.alloc (.cells #[.string (Str lm), .string (Str la), .string (Str ld)] 41)) = W1 := ⟨_, rfl⟩
  rw [hW1] at hx hrw
  have HX := hid hx
  have HR := hid hrw
  have HW1 := hid hW1
  have HY0 := hid (Ext.rfl' W1)
  obtain ⟨f0, f1, f2, -, -, -⟩ := row_facts3 hrw
  clear hW1 hx hrw
  go_enter Tryz.func47, Tryz.ntmps47
  go_upto_region 1 with fail
  rw [HW1.out]
  go_wp2_with fail
  refine (valid_at lm W1 v0 h1).mono ?_
  rintro e w2 ⟨rfl, hx⟩
  have HY1 := hid (HY0.out.step hx)
  clear f0 f1 f2 hx
  obtain ⟨f0, f1, f2, -, -, -⟩ := row_facts3 (HR.out.ext HY1.out)
  go_wp2_with fail
  refine (valid_at la w2 v1 h2).mono ?_
  rintro e w3 ⟨rfl, hx⟩
  have HY2 := hid (HY1.out.step hx)
  clear f0 f1 f2 hx
  obtain ⟨f0, f1, f2, -, -, -⟩ := row_facts3 (HR.out.ext HY2.out)
  go_wp2_with fail
  refine (valid_at ld w3 v2 h3).mono ?_
  rintro e w4 ⟨rfl, hx⟩
  have HY3 := hid (HY2.out.step hx)
  clear f0 f1 f2 hx
  obtain ⟨f0, f1, f2, -, -, -⟩ := row_facts3 (HR.out.ext HY3.out)
  have HF := hid (HX.out.step HY3.out)
  clear f0 f1 f2
  go_wp2
  go_ret3
  exact ⟨rfl, HF.out⟩
set_option maxRecDepth 100000 in
set_option maxHeartbeats 1600000 in
theorem apply_bad3 (lm la ld ln : List UInt8) (w : World) (h1 : lm.length ≤ 140737488351232) (h2 : la.length ≤ 140737488351232) (h3 : ld.length ≤ 140737488351232) (h4 : ln.length ≤ 140737488351232) (v0 : Hid (K.validL lm = true)) (v1 : Hid (K.validL la = true)) (v2 : Hid (K.validL ld = true)) (v3 : Hid (K.validL ln = false)) :
    Calls Tryz.prog 47 #[.agg #[.string (Str lm), .string (Str la), .string (Str ld)], .string (Str ln)] w (fun e w' => e = .returned (.tuple #[.string ⟨#[]⟩, .bool false, .int .i64 1]) ∧ Ext w w') := by
  have hx : Ext w (w.alloc (.cells #[.string (Str lm), .string (Str la), .string (Str ld)] 41)) := (Ext.rfl' w).alloc' _
  have hrw : Row (w.alloc (.cells #[.string (Str lm), .string (Str la), .string (Str ld)] 41)) w.heap.size 41 [.string (Str lm), .string (Str la), .string (Str ld)] := Row.new w _ _
  obtain ⟨W1, hW1⟩ : ∃ W1, (w.alloc (.cells #[.string (Str lm), .string (Str la), .string (Str ld)] 41)) = W1 := ⟨_, rfl⟩
  rw [hW1] at hx hrw
  have HX := hid hx
  have HR := hid hrw
  have HW1 := hid hW1
  have HY0 := hid (Ext.rfl' W1)
  obtain ⟨f0, f1, f2, -, -, -⟩ := row_facts3 hrw
  clear hW1 hx hrw
  go_enter Tryz.func47, Tryz.ntmps47
  go_upto_region 1 with fail
  rw [HW1.out]
  go_wp2_with fail
  refine (valid_at lm W1 v0 h1).mono ?_
  rintro e w2 ⟨rfl, hx⟩
  have HY1 := hid (HY0.out.step hx)
  clear f0 f1 f2 hx
  obtain ⟨f0, f1, f2, -, -, -⟩ := row_facts3 (HR.out.ext HY1.out)
  go_wp2_with fail
  refine (valid_at la w2 v1 h2).mono ?_
  rintro e w3 ⟨rfl, hx⟩
  have HY2 := hid (HY1.out.step hx)
  clear f0 f1 f2 hx
  obtain ⟨f0, f1, f2, -, -, -⟩ := row_facts3 (HR.out.ext HY2.out)
  go_wp2_with fail
  refine (valid_at ld w3 v2 h3).mono ?_
  rintro e w4 ⟨rfl, hx⟩
  have HY3 := hid (HY2.out.step hx)
  clear f0 f1 f2 hx
  obtain ⟨f0, f1, f2, -, -, -⟩ := row_facts3 (HR.out.ext HY3.out)
  go_wp2_with fail
  refine (valid_at ln w4 v3 h4).mono ?_
  rintro e w5 ⟨rfl, hx⟩
  have HY4 := hid (HY3.out.step hx)
  clear f0 f1 f2 hx
  obtain ⟨f0, f1, f2, -, -, -⟩ := row_facts3 (HR.out.ext HY4.out)
  have HF := hid (HX.out.step HY4.out)
  clear f0 f1 f2
  go_wp2
  go_ret3
  exact ⟨rfl, HF.out⟩
theorem apply_bad (lm la ld ln : List UInt8) (w : World) (h1 : lm.length ≤ 140737488351232) (h2 : la.length ≤ 140737488351232) (h3 : ld.length ≤ 140737488351232) (h4 : ln.length ≤ 140737488351232) (hb : ¬ (K.validL lm = true ∧ K.validL la = true ∧ K.validL ld = true ∧ K.validL ln = true)) :
    Calls Tryz.prog 47 #[.agg #[.string (Str lm), .string (Str la), .string (Str ld)], .string (Str ln)] w (fun e w' => e = .returned (.tuple #[.string ⟨#[]⟩, .bool false, .int .i64 1]) ∧ Ext w w') := by
  cases a : K.validL lm with
  | false => exact apply_bad0 lm la ld ln w h1 h2 h3 h4 (hid a)
  | true =>
    cases b : K.validL la with
    | false => exact apply_bad1 lm la ld ln w h1 h2 h3 h4 (hid a) (hid b)
    | true =>
      cases c : K.validL ld with
      | false => exact apply_bad2 lm la ld ln w h1 h2 h3 h4 (hid a) (hid b) (hid c)
      | true =>
        cases d : K.validL ln with
        | false => exact apply_bad3 lm la ld ln w h1 h2 h3 h4 (hid a) (hid b) (hid c) (hid d)
        | true => exact absurd ⟨a, b, c, d⟩ hb
set_option maxRecDepth 100000 in
set_option maxHeartbeats 3200000 in
theorem apply_arg (M A D N : Int) (w : World) (FM : Hid (K.fits M)) (FA : Hid (K.fits A)) (FD : Hid (K.fits D)) (FN : Hid (K.fits N)) (ht : Tab w) (hd : D ≤ 0) :
    Calls Tryz.prog 47 #[.agg #[.string (Str (K.txt M)), .string (Str (K.txt A)), .string (Str (K.txt D))], .string (Str (K.txt N))] w (fun e w' => e = .returned (.tuple #[.string ⟨#[]⟩, .bool false, .int .i64 2]) ∧ Ext w w') := by
  have HT := hid ht
  obtain ⟨sg, hsg⟩ : ∃ sg, sgnI D 0 = sg := ⟨_, rfl⟩
  have HSG := hid hsg
  have hs0 : sg ≤ 0 := by rw [← hsg]; unfold sgnI; rw [if_neg (show ¬ 0 < D by omega)]; split <;> omega
  clear hsg
  have hx : Ext w (w.alloc (.cells #[.string (Str (K.txt M)), .string (Str (K.txt A)), .string (Str (K.txt D))] 41)) := (Ext.rfl' w).alloc' _
  have hrw : Row (w.alloc (.cells #[.string (Str (K.txt M)), .string (Str (K.txt A)), .string (Str (K.txt D))] 41)) w.heap.size 41 [.string (Str (K.txt M)), .string (Str (K.txt A)), .string (Str (K.txt D))] := Row.new w _ _
  obtain ⟨W1, hW1⟩ : ∃ W1, (w.alloc (.cells #[.string (Str (K.txt M)), .string (Str (K.txt A)), .string (Str (K.txt D))] 41)) = W1 := ⟨_, rfl⟩
  rw [hW1] at hx hrw
  have HX := hid hx
  have HR := hid hrw
  have HW1 := hid hW1
  have HY0 := hid (Ext.rfl' W1)
  obtain ⟨f0, f1, f2, -, -, -⟩ := row_facts3 hrw
  clear hW1 hx hrw
  go_enter Tryz.func47, Tryz.ntmps47
  go_upto_region 1 with fail
  rw [HW1.out]
  go_wp2_with fail
  refine (valid_at (K.txt M) W1 (hid (K.valid_txt _ FM.out)) (len_of (K.txt_len _ FM.out))).mono ?_
  rintro e w2 ⟨rfl, hx⟩
  have HY1 := hid (HY0.out.step hx)
  clear f0 f1 f2 hx
  obtain ⟨f0, f1, f2, -, -, -⟩ := row_facts3 (HR.out.ext HY1.out)
  go_wp2_with fail
  refine (valid_at (K.txt A) w2 (hid (K.valid_txt _ FA.out)) (len_of (K.txt_len _ FA.out))).mono ?_
  rintro e w3 ⟨rfl, hx⟩
  have HY2 := hid (HY1.out.step hx)
  clear f0 f1 f2 hx
  obtain ⟨f0, f1, f2, -, -, -⟩ := row_facts3 (HR.out.ext HY2.out)
  go_wp2_with fail
  refine (valid_at (K.txt D) w3 (hid (K.valid_txt _ FD.out)) (len_of (K.txt_len _ FD.out))).mono ?_
  rintro e w4 ⟨rfl, hx⟩
  have HY3 := hid (HY2.out.step hx)
  clear f0 f1 f2 hx
  obtain ⟨f0, f1, f2, -, -, -⟩ := row_facts3 (HR.out.ext HY3.out)
  go_wp2_with fail
  refine (valid_at (K.txt N) w4 (hid (K.valid_txt _ FN.out)) (len_of (K.txt_len _ FN.out))).mono ?_
  rintro e w5 ⟨rfl, hx⟩
  have HY4 := hid (HY3.out.step hx)
  clear f0 f1 f2 hx
  obtain ⟨f0, f1, f2, -, -, -⟩ := row_facts3 (HR.out.ext HY4.out)
  go_wp2_with fail
  refine (compare_ok (K.txt D) [48] w5 (len_of (K.txt_len _ FD.out)) (by decide) (K.valid_txt _ FD.out) zero_ok).mono ?_
  rintro e w6 ⟨rfl, hx⟩
  rw [K.numL_txt, zero_num, HSG.out]
  have HY5 := hid (HY4.out.step hx)
  clear f0 f1 f2 hx
  obtain ⟨f0, f1, f2, -, -, -⟩ := row_facts3 (HR.out.ext HY5.out)
  have HF := hid (HX.out.step HY5.out)
  clear f0 f1 f2
  go_wp2
  go_ret3
  exact ⟨rfl, HF.out⟩
set_option maxRecDepth 100000 in
set_option maxHeartbeats 3200000 in
theorem apply_size (M A D N : Int) (w : World) (FM : Hid (K.fits M)) (FA : Hid (K.fits A)) (FD : Hid (K.fits D)) (FN : Hid (K.fits N)) (ht : Tab w) (hd : 0 < D) (hf : Hid (¬ K.fits (M * N + A))) :
    Calls Tryz.prog 47 #[.agg #[.string (Str (K.txt M)), .string (Str (K.txt A)), .string (Str (K.txt D))], .string (Str (K.txt N))] w (fun e w' => e = .returned (.tuple #[.string ⟨#[]⟩, .bool false, .int .i64 3]) ∧ Ext w w') := by
  have HT := hid ht
  obtain ⟨sg, hsg⟩ : ∃ sg, sgnI D 0 = sg := ⟨_, rfl⟩
  have HSG := hid hsg
  have hs0 : ¬ sg ≤ 0 := by rw [← hsg]; unfold sgnI; rw [if_neg (by omega), if_pos (by omega)]; omega
  clear hsg
  have hx : Ext w (w.alloc (.cells #[.string (Str (K.txt M)), .string (Str (K.txt A)), .string (Str (K.txt D))] 41)) := (Ext.rfl' w).alloc' _
  have hrw : Row (w.alloc (.cells #[.string (Str (K.txt M)), .string (Str (K.txt A)), .string (Str (K.txt D))] 41)) w.heap.size 41 [.string (Str (K.txt M)), .string (Str (K.txt A)), .string (Str (K.txt D))] := Row.new w _ _
  obtain ⟨W1, hW1⟩ : ∃ W1, (w.alloc (.cells #[.string (Str (K.txt M)), .string (Str (K.txt A)), .string (Str (K.txt D))] 41)) = W1 := ⟨_, rfl⟩
  rw [hW1] at hx hrw
  have HX := hid hx
  have HR := hid hrw
  have HW1 := hid hW1
  have HY0 := hid (Ext.rfl' W1)
  obtain ⟨f0, f1, f2, -, -, -⟩ := row_facts3 hrw
  clear hW1 hx hrw
  go_enter Tryz.func47, Tryz.ntmps47
  go_upto_region 1 with fail
  rw [HW1.out]
  go_wp2_with fail
  refine (valid_at (K.txt M) W1 (hid (K.valid_txt _ FM.out)) (len_of (K.txt_len _ FM.out))).mono ?_
  rintro e w2 ⟨rfl, hx⟩
  have HY1 := hid (HY0.out.step hx)
  clear f0 f1 f2 hx
  obtain ⟨f0, f1, f2, -, -, -⟩ := row_facts3 (HR.out.ext HY1.out)
  go_wp2_with fail
  refine (valid_at (K.txt A) w2 (hid (K.valid_txt _ FA.out)) (len_of (K.txt_len _ FA.out))).mono ?_
  rintro e w3 ⟨rfl, hx⟩
  have HY2 := hid (HY1.out.step hx)
  clear f0 f1 f2 hx
  obtain ⟨f0, f1, f2, -, -, -⟩ := row_facts3 (HR.out.ext HY2.out)
  go_wp2_with fail
  refine (valid_at (K.txt D) w3 (hid (K.valid_txt _ FD.out)) (len_of (K.txt_len _ FD.out))).mono ?_
  rintro e w4 ⟨rfl, hx⟩
  have HY3 := hid (HY2.out.step hx)
  clear f0 f1 f2 hx
  obtain ⟨f0, f1, f2, -, -, -⟩ := row_facts3 (HR.out.ext HY3.out)
  go_wp2_with fail
  refine (valid_at (K.txt N) w4 (hid (K.valid_txt _ FN.out)) (len_of (K.txt_len _ FN.out))).mono ?_
  rintro e w5 ⟨rfl, hx⟩
  have HY4 := hid (HY3.out.step hx)
  clear f0 f1 f2 hx
  obtain ⟨f0, f1, f2, -, -, -⟩ := row_facts3 (HR.out.ext HY4.out)
  go_wp2_with fail
  refine (compare_ok (K.txt D) [48] w5 (len_of (K.txt_len _ FD.out)) (by decide) (K.valid_txt _ FD.out) zero_ok).mono ?_
  rintro e w6 ⟨rfl, hx⟩
  rw [K.numL_txt, zero_num, HSG.out]
  have HY5 := hid (HY4.out.step hx)
  clear f0 f1 f2 hx
  obtain ⟨f0, f1, f2, -, -, -⟩ := row_facts3 (HR.out.ext HY5.out)
  go_wp2_with fail
  refine (tplus_any M N A w6 FM FN FA (HT.out.ext (HX.out.step HY5.out))).mono ?_
  rintro e w7 ⟨s, c, rfl, HTD, hx⟩
  have HY6 := hid (HY5.out.step hx)
  clear f0 f1 f2 hx
  obtain ⟨f0, f1, f2, -, -, -⟩ := row_facts3 (HR.out.ext HY6.out)
  obtain ⟨rfl, rfl⟩ := HTD.out.2 hf.out
  have HF := hid (HX.out.step HY6.out)
  clear f0 f1 f2
  go_wp2
  go_ret3
  exact ⟨rfl, HF.out⟩
set_option maxRecDepth 100000 in
set_option maxHeartbeats 3200000 in
theorem apply_frac (M A D N : Int) (w : World) (FM : Hid (K.fits M)) (FA : Hid (K.fits A)) (FD : Hid (K.fits D)) (FN : Hid (K.fits N)) (ht : Tab w) (hd : 0 < D) (hf : Hid (K.fits (M * N + A))) (hr : (M * N + A) % D ≠ 0) :
    Calls Tryz.prog 47 #[.agg #[.string (Str (K.txt M)), .string (Str (K.txt A)), .string (Str (K.txt D))], .string (Str (K.txt N))] w (fun e w' => e = .returned (.tuple #[.string ⟨#[]⟩, .bool false, .int .i64 0]) ∧ Ext w w') := by
  have HT := hid ht
  obtain ⟨sg, hsg⟩ : ∃ sg, sgnI D 0 = sg := ⟨_, rfl⟩
  have HSG := hid hsg
  have hs0 : ¬ sg ≤ 0 := by rw [← hsg]; unfold sgnI; rw [if_neg (by omega), if_pos (by omega)]; omega
  clear hsg
  obtain ⟨rs, hrs⟩ : ∃ rs, Str (K.txt ((M * N + A) % D)) = rs := ⟨_, rfl⟩
  obtain ⟨qs, hqs⟩ : ∃ qs, Str (K.txt ((M * N + A) / D)) = qs := ⟨_, rfl⟩
  have HRS := hid hrs
  have HQS := hid hqs
  have hne : rs ≠ ⟨#[48]⟩ := by rw [← hrs]; exact txt_not_zero hr
  have hnl : (rs.toList == [48]) = false := by
    rw [beq_eq_false_iff_ne]
    intro e
    exact hne (by rw [← hrs, Str_toList] at e; rw [← hrs, e]; rfl)
  have hnl2 : (rs.toList != [48]) = true := by rw [bne, hnl]; rfl
  clear hrs hqs hr
  have hx : Ext w (w.alloc (.cells #[.string (Str (K.txt M)), .string (Str (K.txt A)), .string (Str (K.txt D))] 41)) := (Ext.rfl' w).alloc' _
  have hrw : Row (w.alloc (.cells #[.string (Str (K.txt M)), .string (Str (K.txt A)), .string (Str (K.txt D))] 41)) w.heap.size 41 [.string (Str (K.txt M)), .string (Str (K.txt A)), .string (Str (K.txt D))] := Row.new w _ _
  obtain ⟨W1, hW1⟩ : ∃ W1, (w.alloc (.cells #[.string (Str (K.txt M)), .string (Str (K.txt A)), .string (Str (K.txt D))] 41)) = W1 := ⟨_, rfl⟩
  rw [hW1] at hx hrw
  have HX := hid hx
  have HR := hid hrw
  have HW1 := hid hW1
  have HY0 := hid (Ext.rfl' W1)
  obtain ⟨f0, f1, f2, -, -, -⟩ := row_facts3 hrw
  clear hW1 hx hrw
  go_enter Tryz.func47, Tryz.ntmps47
  go_upto_region 1 with fail
  rw [HW1.out]
  go_wp2_with fail
  refine (valid_at (K.txt M) W1 (hid (K.valid_txt _ FM.out)) (len_of (K.txt_len _ FM.out))).mono ?_
  rintro e w2 ⟨rfl, hx⟩
  have HY1 := hid (HY0.out.step hx)
  clear f0 f1 f2 hx
  obtain ⟨f0, f1, f2, -, -, -⟩ := row_facts3 (HR.out.ext HY1.out)
  go_wp2_with fail
  refine (valid_at (K.txt A) w2 (hid (K.valid_txt _ FA.out)) (len_of (K.txt_len _ FA.out))).mono ?_
  rintro e w3 ⟨rfl, hx⟩
  have HY2 := hid (HY1.out.step hx)
  clear f0 f1 f2 hx
  obtain ⟨f0, f1, f2, -, -, -⟩ := row_facts3 (HR.out.ext HY2.out)
  go_wp2_with fail
  refine (valid_at (K.txt D) w3 (hid (K.valid_txt _ FD.out)) (len_of (K.txt_len _ FD.out))).mono ?_
  rintro e w4 ⟨rfl, hx⟩
  have HY3 := hid (HY2.out.step hx)
  clear f0 f1 f2 hx
  obtain ⟨f0, f1, f2, -, -, -⟩ := row_facts3 (HR.out.ext HY3.out)
  go_wp2_with fail
  refine (valid_at (K.txt N) w4 (hid (K.valid_txt _ FN.out)) (len_of (K.txt_len _ FN.out))).mono ?_
  rintro e w5 ⟨rfl, hx⟩
  have HY4 := hid (HY3.out.step hx)
  clear f0 f1 f2 hx
  obtain ⟨f0, f1, f2, -, -, -⟩ := row_facts3 (HR.out.ext HY4.out)
  go_wp2_with fail
  refine (compare_ok (K.txt D) [48] w5 (len_of (K.txt_len _ FD.out)) (by decide) (K.valid_txt _ FD.out) zero_ok).mono ?_
  rintro e w6 ⟨rfl, hx⟩
  rw [K.numL_txt, zero_num, HSG.out]
  have HY5 := hid (HY4.out.step hx)
  clear f0 f1 f2 hx
  obtain ⟨f0, f1, f2, -, -, -⟩ := row_facts3 (HR.out.ext HY5.out)
  go_wp2_with fail
  refine (tplus_any M N A w6 FM FN FA (HT.out.ext (HX.out.step HY5.out))).mono ?_
  rintro e w7 ⟨s, c, rfl, HTD, hx⟩
  have HY6 := hid (HY5.out.step hx)
  clear f0 f1 f2 hx
  obtain ⟨f0, f1, f2, -, -, -⟩ := row_facts3 (HR.out.ext HY6.out)
  have hst := HTD.out.1 hf.out
  obtain ⟨rfl, rfl⟩ := hst
  go_wp2_with fail
  refine (divide_ok (K.txt (M * N + A)) (K.txt D) w7 (len_of (K.txt_len _ hf.out)) (len_of (K.txt_len _ FD.out)) (K.valid_txt _ hf.out) (K.valid_txt _ FD.out) (by rw [K.numL_txt]; exact hd) (HT.out.ext (HX.out.step HY6.out))).mono ?_
  rintro e w8 ⟨rfl, hx⟩
  rw [K.numL_txt, K.numL_txt, HRS.out, HQS.out]
  have HY7 := hid (HY6.out.step hx)
  clear f0 f1 f2 hx
  obtain ⟨f0, f1, f2, -, -, -⟩ := row_facts3 (HR.out.ext HY7.out)
  have HF := hid (HX.out.step HY7.out)
  clear f0 f1 f2
  go_wp2
  go_ret3
  exact ⟨rfl, HF.out⟩
set_option maxRecDepth 100000 in
set_option maxHeartbeats 3200000 in
theorem apply_yes (M A D N : Int) (w : World) (FM : Hid (K.fits M)) (FA : Hid (K.fits A)) (FD : Hid (K.fits D)) (FN : Hid (K.fits N)) (ht : Tab w) (hd : 0 < D) (hf : Hid (K.fits (M * N + A))) (hr : (M * N + A) % D = 0) :
    Calls Tryz.prog 47 #[.agg #[.string (Str (K.txt M)), .string (Str (K.txt A)), .string (Str (K.txt D))], .string (Str (K.txt N))] w (fun e w' => e = .returned (.tuple #[.string (Str (K.txt ((M * N + A) / D))), .bool true, .int .i64 0]) ∧ Ext w w') := by
  have HT := hid ht
  obtain ⟨sg, hsg⟩ : ∃ sg, sgnI D 0 = sg := ⟨_, rfl⟩
  have HSG := hid hsg
  have hs0 : ¬ sg ≤ 0 := by rw [← hsg]; unfold sgnI; rw [if_neg (by omega), if_pos (by omega)]; omega
  clear hsg
  obtain ⟨rs, hrs⟩ : ∃ rs, Str (K.txt ((M * N + A) % D)) = rs := ⟨_, rfl⟩
  obtain ⟨qs, hqs⟩ : ∃ qs, Str (K.txt ((M * N + A) / D)) = qs := ⟨_, rfl⟩
  have HRS := hid hrs
  have HQS := hid hqs
  obtain rfl : rs = ⟨#[48]⟩ := by rw [← hrs, hr, txt_zero2]; rfl
  clear hrs hqs hr
  have hx : Ext w (w.alloc (.cells #[.string (Str (K.txt M)), .string (Str (K.txt A)), .string (Str (K.txt D))] 41)) := (Ext.rfl' w).alloc' _
  have hrw : Row (w.alloc (.cells #[.string (Str (K.txt M)), .string (Str (K.txt A)), .string (Str (K.txt D))] 41)) w.heap.size 41 [.string (Str (K.txt M)), .string (Str (K.txt A)), .string (Str (K.txt D))] := Row.new w _ _
  obtain ⟨W1, hW1⟩ : ∃ W1, (w.alloc (.cells #[.string (Str (K.txt M)), .string (Str (K.txt A)), .string (Str (K.txt D))] 41)) = W1 := ⟨_, rfl⟩
  rw [hW1] at hx hrw
  have HX := hid hx
  have HR := hid hrw
  have HW1 := hid hW1
  have HY0 := hid (Ext.rfl' W1)
  obtain ⟨f0, f1, f2, -, -, -⟩ := row_facts3 hrw
  clear hW1 hx hrw
  go_enter Tryz.func47, Tryz.ntmps47
  go_upto_region 1 with fail
  rw [HW1.out]
  go_wp2_with fail
  refine (valid_at (K.txt M) W1 (hid (K.valid_txt _ FM.out)) (len_of (K.txt_len _ FM.out))).mono ?_
  rintro e w2 ⟨rfl, hx⟩
  have HY1 := hid (HY0.out.step hx)
  clear f0 f1 f2 hx
  obtain ⟨f0, f1, f2, -, -, -⟩ := row_facts3 (HR.out.ext HY1.out)
  go_wp2_with fail
  refine (valid_at (K.txt A) w2 (hid (K.valid_txt _ FA.out)) (len_of (K.txt_len _ FA.out))).mono ?_
  rintro e w3 ⟨rfl, hx⟩
  have HY2 := hid (HY1.out.step hx)
  clear f0 f1 f2 hx
  obtain ⟨f0, f1, f2, -, -, -⟩ := row_facts3 (HR.out.ext HY2.out)
  go_wp2_with fail
  refine (valid_at (K.txt D) w3 (hid (K.valid_txt _ FD.out)) (len_of (K.txt_len _ FD.out))).mono ?_
  rintro e w4 ⟨rfl, hx⟩
  have HY3 := hid (HY2.out.step hx)
  clear f0 f1 f2 hx
  obtain ⟨f0, f1, f2, -, -, -⟩ := row_facts3 (HR.out.ext HY3.out)
  go_wp2_with fail
  refine (valid_at (K.txt N) w4 (hid (K.valid_txt _ FN.out)) (len_of (K.txt_len _ FN.out))).mono ?_
  rintro e w5 ⟨rfl, hx⟩
  have HY4 := hid (HY3.out.step hx)
  clear f0 f1 f2 hx
  obtain ⟨f0, f1, f2, -, -, -⟩ := row_facts3 (HR.out.ext HY4.out)
  go_wp2_with fail
  refine (compare_ok (K.txt D) [48] w5 (len_of (K.txt_len _ FD.out)) (by decide) (K.valid_txt _ FD.out) zero_ok).mono ?_
  rintro e w6 ⟨rfl, hx⟩
  rw [K.numL_txt, zero_num, HSG.out]
  have HY5 := hid (HY4.out.step hx)
  clear f0 f1 f2 hx
  obtain ⟨f0, f1, f2, -, -, -⟩ := row_facts3 (HR.out.ext HY5.out)
  go_wp2_with fail
  refine (tplus_any M N A w6 FM FN FA (HT.out.ext (HX.out.step HY5.out))).mono ?_
  rintro e w7 ⟨s, c, rfl, HTD, hx⟩
  have HY6 := hid (HY5.out.step hx)
  clear f0 f1 f2 hx
  obtain ⟨f0, f1, f2, -, -, -⟩ := row_facts3 (HR.out.ext HY6.out)
  have hst := HTD.out.1 hf.out
  obtain ⟨rfl, rfl⟩ := hst
  go_wp2_with fail
  refine (divide_ok (K.txt (M * N + A)) (K.txt D) w7 (len_of (K.txt_len _ hf.out)) (len_of (K.txt_len _ FD.out)) (K.valid_txt _ hf.out) (K.valid_txt _ FD.out) (by rw [K.numL_txt]; exact hd) (HT.out.ext (HX.out.step HY6.out))).mono ?_
  rintro e w8 ⟨rfl, hx⟩
  rw [K.numL_txt, K.numL_txt, HRS.out, HQS.out]
  have HY7 := hid (HY6.out.step hx)
  clear f0 f1 f2 hx
  obtain ⟨f0, f1, f2, -, -, -⟩ := row_facts3 (HR.out.ext HY7.out)
  have HF := hid (HX.out.step HY7.out)
  clear f0 f1 f2
  go_wp2
  go_ret3
  exact ⟨by rw [HQS.out]; rfl, HF.out⟩
end Go.Proofs.YtlfbgemceeibiaaGreatDoor
/- the word law package's awake -/
namespace Go.Proofs.YtlfbgemceeibiaaGreatDoor
open Go.RowKit
theorem line110 : lineI 2 [1, 3] [0, 1] [1, 1, 0] = (9, 5, 8) := by decide +kernel
theorem word110 : wordB 2 [1, 1, 0] = true := by decide +kernel
theorem reg13 : regB 2 [1, 3] = true := by decide +kernel
theorem rest3B : ((List.range 8).all fun n => !((List.range 3).all fun i => orbN 2 [1, 3] [0, 1] i (n : Int) % 2 == ([1, 1, 0] : List Int).getD i 0) || n == 3) = true := by decide +kernel
theorem rest3 {R : Int} (h0 : 0 ≤ R) (h8 : R < 2 ^ ([1, 1, 0] : List Int).length) (h : IsWord 2 [1, 3] [0, 1] [1, 1, 0] R) : R = 3 := by
  obtain ⟨n, rfl⟩ : ∃ n : Nat, R = (n : Int) := ⟨R.toNat, by omega⟩
  have h8' : (n : Int) < 8 := h8
  have h1 := List.all_eq_true.1 rest3B n (List.mem_range.2 (by omega))
  rw [Bool.or_eq_true] at h1
  rcases h1 with h1 | h1
  · exfalso
    rw [Bool.not_eq_true'] at h1
    rw [← Bool.not_eq_true] at h1
    exact h1 (List.all_eq_true.2 fun i hi => beq_iff_eq.2 (h i (List.mem_range.1 hi)))
  · rw [beq_iff_eq.1 h1]; rfl
theorem word7 : wordI 2 [1, 3] [0, 1] (3 + 1) 7 = [1, 1, 1, 0] := by decide +kernel
theorem seq73 : seqO 2 [1, 3] [0, 1] 3 7 = [some 11, some 17, some 26] := by decide +kernel
theorem txt3 : K.txt 3 = [51] := K.txt_of_lit [51] 3 (by decide +kernel) (by decide +kernel)
theorem txt5 : K.txt 5 = [53] := K.txt_of_lit [53] 5 (by decide +kernel) (by decide +kernel)
theorem txt8 : K.txt 8 = [56] := K.txt_of_lit [56] 8 (by decide +kernel) (by decide +kernel)
theorem txt9 : K.txt 9 = [57] := K.txt_of_lit [57] 9 (by decide +kernel) (by decide +kernel)
theorem txt11 : K.txt 11 = [49, 49] := K.txt_of_lit [49, 49] 11 (by decide +kernel) (by decide +kernel)
theorem txt12 : K.txt 12 = [49, 50] := K.txt_of_lit [49, 50] 12 (by decide +kernel) (by decide +kernel)
theorem txt13 : K.txt 13 = [49, 51] := K.txt_of_lit [49, 51] 13 (by decide +kernel) (by decide +kernel)
theorem line110_ok (v : Value) (g : Nat) (w : World) (hv : MapV w v 2 [1, 3] [0, 1]) (hw : Rd w (some ⟨g, 0, none⟩) [.int .i64 1, .int .i64 1, .int .i64 0]) (ht : Tab w) :
    Calls Tryz.prog 23 #[v, .slice (some ⟨g, 0, none⟩) 3 3] w (fun e w' => e = .returned (.tuple #[.agg #[.string ⟨#[57]⟩, .string ⟨#[53]⟩, .string ⟨#[56]⟩], .int .i64 0]) ∧ Ext w w') := by
  refine (line_ok v 2 [1, 3] [0, 1] _ 3 3 [1, 1, 0] w hv hw rfl (by omega) (hid coll_ok) (hid word110) ht).mono ?_
  rintro e w' ⟨rfl, h2⟩
  rw [line110]
  refine ⟨?_, h2⟩
  unfold lineV
  simp only [txt9, txt5, txt8]
  rfl
theorem rest110_ok (v : Value) (g : Nat) (w : World) (hv : MapV w v 2 [1, 3] [0, 1]) (hw : Rd w (some ⟨g, 0, none⟩) [.int .i64 1, .int .i64 1, .int .i64 0]) (ht : Tab w) :
    Calls Tryz.prog 24 #[v, .slice (some ⟨g, 0, none⟩) 3 3] w (fun e w' => e = .returned (.tuple #[.string ⟨#[51]⟩, .string ⟨#[56]⟩, .int .i64 0]) ∧ Ext w w') := by
  refine (wrest_ok v 2 [1, 3] [0, 1] _ 3 3 [1, 1, 0] w hv hw rfl (by omega) (hid coll_ok) (hid word110) (hid reg13) ht).mono ?_
  rintro e w' ⟨R, rfl, h0, h1, h2, h3⟩
  rw [rest3 h0 h1 h2, show ((2 : Int) ^ ([1, 1, 0] : List Int).length) = 8 from rfl, txt3, txt8]
  exact ⟨rfl, h3⟩
theorem word7_ok (v : Value) (w : World) (hv : MapV w v 2 [1, 3] [0, 1]) (ht : Tab w) :
    Calls Tryz.prog 15 #[v, .string ⟨#[55]⟩, .int .i64 4] w (fun e w' => ∃ g, e = .returned (.tuple #[.slice (some ⟨g, 0, none⟩) 4 4, .int .i64 0]) ∧ Rd w' (some ⟨g, 0, none⟩) (Is [1, 1, 1, 0]) ∧ Ext w w') := by
  refine (word_ok v 2 [1, 3] [0, 1] [55] 3 w hv (by simp) (hid ((mapB_iff _ _ _).2 coll_ok)) (hid seven_ok) (by omega) ht (hid (by rw [seven_num, seq73]; simp))).mono ?_
  rintro e w' ⟨g, rfl, h1, -, h3⟩
  rw [seven_num, word7] at h1
  exact ⟨g, rfl, h1.rd0, h3⟩
theorem apply11 (w : World) (ht : Tab w) :
    Calls Tryz.prog 47 #[.agg #[.string ⟨#[57]⟩, .string ⟨#[53]⟩, .string ⟨#[56]⟩], .string ⟨#[49, 49]⟩] w (fun e w' => e = .returned (.tuple #[.string ⟨#[49, 51]⟩, .bool true, .int .i64 0]) ∧ Ext w w') := by
  have h := apply_yes 9 5 8 11 w (hid (fits_small (by decide))) (hid (fits_small (by decide))) (hid (fits_small (by decide))) (hid (fits_small (by decide))) ht (by omega) (hid (fits_small (by decide))) (by decide)
  rw [txt9, txt5, txt8, txt11, show ((9 : Int) * 11 + 5) / 8 = 13 from rfl, txt13] at h
  exact h
theorem apply12 (w : World) (ht : Tab w) :
    Calls Tryz.prog 47 #[.agg #[.string ⟨#[57]⟩, .string ⟨#[53]⟩, .string ⟨#[56]⟩], .string ⟨#[49, 50]⟩] w (fun e w' => e = .returned (.tuple #[.string ⟨#[]⟩, .bool false, .int .i64 0]) ∧ Ext w w') := by
  have h := apply_frac 9 5 8 12 w (hid (fits_small (by decide))) (hid (fits_small (by decide))) (hid (fits_small (by decide))) (hid (fits_small (by decide))) ht (by omega) (hid (fits_small (by decide))) (by decide)
  rw [txt9, txt5, txt8, txt12] at h
  exact h
end Go.Proofs.YtlfbgemceeibiaaGreatDoor
