/- Joined texts: word.class: everyNumber, first, narrowed; package sieve: root, falls, stays, floor, decimal, restsOf; package sieve: child; the reference's Of, at negative numbers; the reference of layer 2: Rest, Step; the reference's Value of layer 3; append to a list of numbers of the reference's: rows of boxes; the reference's Is of layer 3; word.class.narrowed; word.Rest. -/
import Derived.Test.YtleccblkafcidaaGreatDoorJG14
import Derived.Test.YtleccblkafcidaaGreatDoorJG13
import Derived.Test.YtleccblkafcidaaGreatDoorJG06
import Derived.Test.YtleccblkafcidaaGreatDoorJG11
import Derived.Test.YtleccblkafcidaaGreatDoorJG08
import Derived.IntWalk
import Derived.Test.YtleccblkafcidaaGreatDoorJG07
import Derived.Test.YtleccblkafcidaaGreatDoorJG12
import Derived.Deep.RegionHeld3
import Derived.Deep.DeepCutAuto
set_option linter.unusedSimpArgs false
set_option linter.unusedVariables false
/- word.class: everyNumber, first, narrowed -/
namespace Go.Proofs.YtleccblkafcidaaGreatDoor
open Go.RowKit
theorem row_facts4 {w : World} {g : Nat} {t : TypeId} {a b c d : Value} (h : Row w g t [a, b, c, d]) : w.cell? ⟨g, 0, none⟩ = some a ∧ w.cell? ⟨g, 1, none⟩ = some b ∧ w.cell? ⟨g, 2, none⟩ = some c ∧ w.cell? ⟨g, 3, none⟩ = some d ∧ w.frozen? ⟨g, 0, none⟩ = false ∧ w.frozen? ⟨g, 1, none⟩ = false ∧ w.frozen? ⟨g, 2, none⟩ = false ∧ w.frozen? ⟨g, 3, none⟩ = false :=
  ⟨by rw [h.cell]; rfl, by rw [h.cell]; rfl, by rw [h.cell]; rfl, by rw [h.cell]; rfl, h.free 0, h.free 1, h.free 2, h.free 3⟩
theorem rest_s (x m : Int) (s : ByteArray) (w : World) (hs : Hid (Str (K.txt x) = s)) (hf : K.fits x) (hm : 1 ≤ m) (hm2 : m ≤ 2147483647) :
    Calls Tryz.prog 79 #[.string s, .int .i64 m] w (fun e w' => e = .returned (.tuple #[.int .i64 (x % m), .int .i64 0]) ∧ Ext w w') := by
  obtain ⟨d, rfl⟩ : ∃ d : Nat, m = (d : Int) := ⟨m.toNat, by omega⟩
  have h := rest_ok (K.txt x) d w (len_of (K.txt_len _ hf)) (K.valid_txt _ hf) (by omega) (by omega)
  rwa [hs.out, K.numL_txt] at h
theorem itoa_s (n : Int) (s : ByteArray) (w : World) (hs : Hid (Str (K.txt n) = s)) (h0 : -9223372036854775808 ≤ n) (h1 : n ≤ 9223372036854775807) (ht : Tab w) :
    Calls Tryz.prog 124 #[.int .i64 n] w (fun e w' => e = .returned (.string s) ∧ Ext w w') :=
  (itoa_any n w h0 h1 ht).mono fun e w' h => ⟨by rw [h.1, hs.out], h.2⟩
theorem mod_form {x a m : Int} (t : Nat) : (x % m + (t : Int) * (a % m)) % m = (x + (t : Int) * a) % m := by
  rw [Int.add_emod, Int.emod_emod_of_dvd _ (Int.dvd_refl m), Int.mul_emod, Int.emod_emod_of_dvd _ (Int.dvd_refl m), ← Int.mul_emod, ← Int.add_emod]
end Go.Proofs.YtleccblkafcidaaGreatDoor
/- package sieve: root, falls, stays, floor, decimal, restsOf -/
namespace Go.Proofs.YtleccblkafcidaaGreatDoor
open Go.RowKit
/-- a place: steps, rest, the linear map of its word -/
def PlV (s r mu ad di : Int) : Value := .agg #[.int .i64 s, .int .i64 r, .int .i64 mu, .int .i64 ad, .int .i64 di]
theorem row_facts5 {w : World} {g : Nat} {t : TypeId} {a b c d e : Value} (h : Row w g t [a, b, c, d, e]) :
    w.cell? ⟨g, 0, none⟩ = some a ∧ w.cell? ⟨g, 1, none⟩ = some b ∧ w.cell? ⟨g, 2, none⟩ = some c ∧ w.cell? ⟨g, 3, none⟩ = some d ∧ w.cell? ⟨g, 4, none⟩ = some e :=
  ⟨by rw [h.cell]; rfl, by rw [h.cell]; rfl, by rw [h.cell]; rfl, by rw [h.cell]; rfl, by rw [h.cell]; rfl⟩
set_option maxRecDepth 100000 in
set_option maxHeartbeats 800000 in
theorem root_any (w : World) : Calls Tryz.prog 69 #[] w (fun e w' => e = .returned (PlV 0 0 1 0 1) ∧ Ext w w') := by
  go_enter Tryz.func69, Tryz.ntmps69
  go_wp2
  refine bodyPost_ret (v := PlV 0 0 1 0 1) (by simp [results, Tryz.results69, go_sem, PlV]) rfl ⟨rfl, (Ext.rfl' w).alloc' _⟩
set_option maxRecDepth 100000 in
set_option maxHeartbeats 800000 in
theorem falls_any (s r mu ad di : Int) (w : World) {b : Bool} (hb : Hid (b = true ↔ mu < di)) :
    Calls Tryz.prog 64 #[PlV s r mu ad di] w (fun e w' => e = .returned (.bool b) ∧ Ext w w') := by
  unfold PlV
  have hx : Ext w (w.alloc (.cells #[.int .i64 s, .int .i64 r, .int .i64 mu, .int .i64 ad, .int .i64 di] 104)) := (Ext.rfl' w).alloc' _
  have hr : Row (w.alloc (.cells #[.int .i64 s, .int .i64 r, .int .i64 mu, .int .i64 ad, .int .i64 di] 104)) w.heap.size 104 [.int .i64 s, .int .i64 r, .int .i64 mu, .int .i64 ad, .int .i64 di] := Row.new w _ _
  obtain ⟨W1, hW1⟩ : ∃ W1, (w.alloc (.cells #[.int .i64 s, .int .i64 r, .int .i64 mu, .int .i64 ad, .int .i64 di] 104)) = W1 := ⟨_, rfl⟩
  rw [hW1] at hx hr
  have HX := hid hx
  have HW1 := hid hW1
  obtain ⟨p0, p1, p2, p3, p4⟩ := row_facts5 hr
  clear hW1 hx hr
  have hbb : decide (mu < di) = b := by
    cases b with
    | true => exact decide_eq_true (hb.out.1 rfl)
    | false => exact decide_eq_false (fun h => by have := hb.out.2 h; cases this)
  go_enter Tryz.func64, Tryz.ntmps64
  go_upto_region 1 with fail
  rw [HW1.out]
  go_wp2
  go_ret
  exact ⟨rfl, HX.out⟩
set_option maxRecDepth 100000 in
set_option maxHeartbeats 800000 in
theorem stays_any (s r mu ad di wh : Int) (w : World) {b : Bool} (hb : Hid (b = true ↔ (wh ≤ mu ∨ di = wh))) :
    Calls Tryz.prog 66 #[PlV s r mu ad di, .int .i64 wh] w (fun e w' => e = .returned (.bool b) ∧ Ext w w') := by
  unfold PlV
  have hx : Ext w (w.alloc (.cells #[.int .i64 s, .int .i64 r, .int .i64 mu, .int .i64 ad, .int .i64 di] 104)) := (Ext.rfl' w).alloc' _
  have hr : Row (w.alloc (.cells #[.int .i64 s, .int .i64 r, .int .i64 mu, .int .i64 ad, .int .i64 di] 104)) w.heap.size 104 [.int .i64 s, .int .i64 r, .int .i64 mu, .int .i64 ad, .int .i64 di] := Row.new w _ _
  obtain ⟨W1, hW1⟩ : ∃ W1, (w.alloc (.cells #[.int .i64 s, .int .i64 r, .int .i64 mu, .int .i64 ad, .int .i64 di] 104)) = W1 := ⟨_, rfl⟩
  rw [hW1] at hx hr
  have HX := hid hx
  have HW1 := hid hW1
  obtain ⟨p0, p1, p2, p3, p4⟩ := row_facts5 hr
  clear hW1 hx hr
  by_cases h1 : wh ≤ mu
  · obtain rfl : b = true := hb.out.2 (.inl h1)
    clear hb
    go_enter Tryz.func66, Tryz.ntmps66
    go_upto_region 1 with fail
    rw [HW1.out]
    go_wp2
    go_ret
    exact ⟨rfl, HX.out⟩
  · by_cases h2 : di = wh
    · obtain rfl : b = true := hb.out.2 (.inr h2)
      subst h2
      clear hb
      go_enter Tryz.func66, Tryz.ntmps66
      go_upto_region 1 with fail
      rw [HW1.out]
      go_wp2
      go_ret
      exact ⟨by simp, HX.out⟩
    · obtain rfl : b = false := by
        cases b with
        | false => rfl
        | true => rcases hb.out.1 rfl with h | h <;> contradiction
      have q1 : (di == wh) = false := beq_eq_false_iff_ne.2 h2
      clear hb
      go_enter Tryz.func66, Tryz.ntmps66
      go_upto_region 1 with fail
      rw [HW1.out]
      go_wp2
      go_ret
      exact ⟨by simp [q1], HX.out⟩
theorem floor_eq {a b : Int} (hb : 0 < b) : a / b = if Int.tmod a b < 0 then Int.tdiv a b - 1 else Int.tdiv a b := by
  obtain ⟨n, rfl⟩ := Int.eq_ofNat_of_zero_le (show 0 ≤ b by omega)
  rcases Int.le_total 0 a with h | h
  · obtain ⟨k, rfl⟩ := Int.eq_ofNat_of_zero_le h
    rw [Int.tmod_eq_emod_of_nonneg h, Int.tdiv_eq_ediv_of_nonneg h, if_neg (by have := Int.emod_nonneg (k : Int) (show (n : Int) ≠ 0 by omega); omega)]
  · obtain ⟨k, hk⟩ := Int.eq_ofNat_of_zero_le (show 0 ≤ -a by omega)
    obtain rfl : a = -(k : Int) := by omega
    rw [Int.neg_tmod, Int.neg_tdiv, Int.tmod_eq_emod_of_nonneg (by omega), Int.tdiv_eq_ediv_of_nonneg (by omega)]
    have h1 := Int.emod_nonneg (k : Int) (show (n : Int) ≠ 0 by omega)
    have h2 := Int.emod_lt_of_pos (k : Int) hb
    have h3 := Int.emod_add_mul_ediv (k : Int) (n : Int)
    by_cases h0 : (k : Int) % (n : Int) = 0
    · rw [if_neg (by omega)]
      have e : -(k : Int) = (n : Int) * (-((k : Int) / (n : Int))) := by rw [Int.mul_neg]; omega
      rw [e, Int.mul_ediv_cancel_left _ (by omega)]
    · rw [if_pos (by omega)]
      have e : -(k : Int) = ((n : Int) - (k : Int) % (n : Int)) + (n : Int) * (-((k : Int) / (n : Int)) - 1) := by rw [Int.mul_sub, Int.mul_neg, Int.mul_one]; omega
      rw [e, Int.add_mul_ediv_left _ _ (by omega), Int.ediv_eq_zero_of_lt (by omega) (by omega)]
      omega
set_option maxRecDepth 100000 in
set_option maxHeartbeats 1600000 in
theorem floor_any (a b : Int) (w : World) (hb : 0 < b) (h0 : -9223372036854775808 < a) (h1 : a ≤ 9223372036854775807) (h2 : b ≤ 9223372036854775807) :
    Calls Tryz.prog 109 #[.int .i64 a, .int .i64 b] w (fun e w' => e = .returned (.int .i64 (a / b)) ∧ Ext w w') := by
  have hb0 : ¬ b = 0 := by omega
  have hq : (Int.tdiv a b).natAbs ≤ a.natAbs := by rw [Int.natAbs_tdiv]; exact Nat.div_le_self _ _
  have e := floor_eq (a := a) hb
  have HQ : IntKind.i64.wrap (Int.tdiv a b) = Int.tdiv a b := IntWalk.i64_in _ (by omega)
  by_cases hn : Int.tmod a b < 0
  · rw [if_pos hn] at e
    have hlt : -9223372036854775808 ≤ Int.tdiv a b - 1 := by
      have h3 : Int.tdiv a b - 1 = a / b := e.symm
      omega
    have HQ2 : IntKind.i64.wrap (Int.tdiv a b - 1) = Int.tdiv a b - 1 := IntWalk.i64_in _ (by omega)
    have HE := hid e
    clear e hq hlt
    go_enter Tryz.func109, Tryz.ntmps109
    go_wp2
    go_ret
    exact ⟨by rw [HE.out]; rfl, Ext.rfl' _⟩
  · rw [if_neg hn] at e
    have HE := hid e
    clear e hq
    go_enter Tryz.func109, Tryz.ntmps109
    go_wp2
    go_ret
    exact ⟨by rw [HE.out]; rfl, Ext.rfl' _⟩
set_option maxRecDepth 100000 in
set_option maxHeartbeats 800000 in
theorem decimal_s (n : Int) (s : ByteArray) (w : World) (hs : Hid (Str (K.txt n) = s)) (h0 : -9223372036854775808 ≤ n) (h1 : n ≤ 9223372036854775807) (ht : Tab w) :
    Calls Tryz.prog 108 #[.int .i64 n] w (fun e w' => e = .returned (.string s) ∧ Ext w w') := by
  have HT := hid ht
  go_enter Tryz.func108, Tryz.ntmps108
  go_wp2_with fail
  refine (format_any n w h0 h1 HT.out).mono ?_
  rintro e w2 ⟨rfl, hx⟩
  rw [hs.out]
  have HX := hid hx
  clear hx
  go_wp2
  go_ret
  exact ⟨rfl, HX.out⟩
end Go.Proofs.YtleccblkafcidaaGreatDoor
/- package sieve: child -/
namespace Go.Proofs.YtleccblkafcidaaGreatDoor
open Go.RowKit
theorem mulB {a b : Int} {A B : Nat} (ha : a.natAbs ≤ A) (hb : b.natAbs ≤ B) : (a * b).natAbs ≤ A * B := by
  rw [Int.natAbs_mul]; exact Nat.mul_le_mul ha hb
theorem tmod_bd {q m : Int} (hm : 0 < m) : (Int.tmod q m).natAbs < m.natAbs := by
  rw [Int.natAbs_tmod]; exact Nat.mod_lt _ (by omega)
theorem tmod_up {q m : Int} (hm : 0 < m) : (Int.tmod q m + m).tmod m = q % m := by
  have h1 := tmod_bd (q := q) hm
  rw [Int.tmod_eq_emod_of_nonneg (by omega), Int.add_emod_right]
  have e : q = m * (Int.tdiv q m) + Int.tmod q m := (Int.mul_tdiv_add_tmod q m).symm
  conv => rhs; rw [e]
  rw [Int.add_comm, Int.add_mul_emod_self_left]
set_option maxRecDepth 100000 in
set_option maxHeartbeats 6400000 in
theorem child_l (ba oa bb ob n cc n2 d2 rr : Nat) (s r mu ad di m t q u a : Int) (us ads : List Int) (w : World) (hra : Rd w (some ⟨ba, oa, none⟩) (Is us)) (hrb : Rd w (some ⟨bb, ob, none⟩) (Is ads)) (hn1 : us.length = n) (hn2 : ads.length = n2)
    (hm : 2 ≤ m) (hm2 : m ≤ 12) (hs : 0 ≤ s) (hs2 : s ≤ 1000) (hr : 0 ≤ r) (hr2 : r < di) (hd : 1 ≤ di) (hd2 : di ≤ 65536) (ht : 0 ≤ t) (ht2 : t < m) (hu1 : 1 ≤ mu) (hu2 : mu ≤ 65536) (hA : ad.natAbs ≤ 4294967296000000)
    (hq : Hid (mu * (r + t * di) + ad = di * q)) (hrr : Hid ((rr : Int) = q % m)) (hrn : rr < n) (hrn2 : rr < n2) (hu : Hid (us.getD rr 0 = u)) (ha : Hid (ads.getD rr 0 = a)) (hw1 : 1 ≤ u) (hw2 : u ≤ 999) (ha1 : -999999 ≤ a) (ha2 : a ≤ 999999) :
    Calls Tryz.prog 68 #[PlV s r mu ad di, .agg #[.int .i64 m, .slice (some ⟨ba, oa, none⟩) n cc, .slice (some ⟨bb, ob, none⟩) n2 d2], .int .i64 t] w (fun e w' => e = .returned (PlV (s + 1) (r + t * di) (u * mu) (u * ad + a * di) (m * di)) ∧ Ext w w') := by
  have c1 := mulB (a := t) (b := di) (A := 11) (B := 65536) (by omega) (by omega)
  have c1p : 0 ≤ t * di := Int.mul_nonneg ht (by omega)
  have c2 := mulB (a := mu) (b := (r + t * di)) (A := 65536) (B := 786432) (by omega) (by omega)
  have c3 : q.natAbs ≤ 4294967296000000 + 65536 * 786432 := by
    have h1 : (di * q).natAbs ≤ 4294967296000000 + 65536 * 786432 := by rw [← hq.out]; omega
    rw [Int.natAbs_mul] at h1
    exact Nat.le_trans (Nat.le_mul_of_pos_left _ (by omega)) h1
  have c4 := mulB (a := u) (b := mu) (A := 999) (B := 65536) (by omega) (by omega)
  have c5 := mulB (a := u) (b := ad) (A := 999) (B := 4294967296000000) (by omega) (by omega)
  have c6 := mulB (a := a) (b := di) (A := 999999) (B := 65536) (by omega) (by omega)
  have c7 := mulB (a := m) (b := di) (A := 12) (B := 65536) (by omega) (by omega)
  have c8 : (Int.tmod q m).natAbs ≤ 12 := by
    have h1 := tmod_bd (q := q) (show 0 < m by omega)
    omega
  have W1 : IntKind.i64.wrap (t * di) = t * di := IntWalk.i64_in _ (by omega)
  have W2 : IntKind.i64.wrap (r + t * di) = (r + t * di) := IntWalk.i64_in _ (by omega)
  have W3 : IntKind.i64.wrap (mu * (r + t * di)) = mu * (r + t * di) := IntWalk.i64_in _ (by omega)
  have W4 : IntKind.i64.wrap (mu * (r + t * di) + ad) = mu * (r + t * di) + ad := IntWalk.i64_in _ (by omega)
  have W5 : (mu * (r + t * di) + ad).tdiv di = q := by rw [hq.out, Int.mul_tdiv_cancel_left _ (by omega)]
  have W5w : IntKind.i64.wrap q = q := IntWalk.i64_in _ (by omega)
  have W6 : IntKind.i64.wrap (Int.tmod q m + m) = Int.tmod q m + m := IntWalk.i64_in _ (by omega)
  have W7 : (Int.tmod q m + m).tmod m = (rr : Int) := by rw [tmod_up (by omega), hrr.out]
  have W8 : IntKind.i64.wrap (s + 1) = s + 1 := IntWalk.i64_in _ (by omega)
  have W9 : IntKind.i64.wrap (u * mu) = u * mu := IntWalk.i64_in _ (by omega)
  have W10 : IntKind.i64.wrap (u * ad) = u * ad := IntWalk.i64_in _ (by omega)
  have W11 : IntKind.i64.wrap (a * di) = a * di := IntWalk.i64_in _ (by omega)
  have W12 : IntKind.i64.wrap (u * ad + a * di) = u * ad + a * di := IntWalk.i64_in _ (by omega)
  have W13 : IntKind.i64.wrap (m * di) = m * di := IntWalk.i64_in _ (by omega)
  have D0 : ¬ di = 0 := by omega
  have M0 : ¬ m = 0 := by omega
  have i0 : (0 : Int) ≤ (rr : Int) := by omega
  have i1 : (rr : Int) < (n : Int) := by omega
  have i2 : (rr : Int) < (n2 : Int) := by omega
  unfold PlV
  have hx : Ext w (((w.alloc (.cells #[.int .i64 s, .int .i64 r, .int .i64 mu, .int .i64 ad, .int .i64 di] 104)).alloc (.cells #[.int .i64 m, .slice (some ⟨ba, oa, none⟩) n cc, .slice (some ⟨bb, ob, none⟩) n2 d2] 24)).alloc (.cells #[.int .i64 0, .int .i64 0, .int .i64 0, .int .i64 0, .int .i64 0] 104)) := (((Ext.rfl' w).alloc' _).alloc' _).alloc' _
  have h1 : Row (((w.alloc (.cells #[.int .i64 s, .int .i64 r, .int .i64 mu, .int .i64 ad, .int .i64 di] 104)).alloc (.cells #[.int .i64 m, .slice (some ⟨ba, oa, none⟩) n cc, .slice (some ⟨bb, ob, none⟩) n2 d2] 24)).alloc (.cells #[.int .i64 0, .int .i64 0, .int .i64 0, .int .i64 0, .int .i64 0] 104)) w.heap.size 104 [.int .i64 s, .int .i64 r, .int .i64 mu, .int .i64 ad, .int .i64 di] := ((Row.new w _ _).alloc _).alloc _
  have h2 : Row (((w.alloc (.cells #[.int .i64 s, .int .i64 r, .int .i64 mu, .int .i64 ad, .int .i64 di] 104)).alloc (.cells #[.int .i64 m, .slice (some ⟨ba, oa, none⟩) n cc, .slice (some ⟨bb, ob, none⟩) n2 d2] 24)).alloc (.cells #[.int .i64 0, .int .i64 0, .int .i64 0, .int .i64 0, .int .i64 0] 104)) (w.heap.size + 1) 24 [.int .i64 m, .slice (some ⟨ba, oa, none⟩) n cc, .slice (some ⟨bb, ob, none⟩) n2 d2] := by
    have := (Row.new (w.alloc (.cells #[.int .i64 s, .int .i64 r, .int .i64 mu, .int .i64 ad, .int .i64 di] 104)) 24 [.int .i64 m, .slice (some ⟨ba, oa, none⟩) n cc, .slice (some ⟨bb, ob, none⟩) n2 d2]).alloc (.cells #[.int .i64 0, .int .i64 0, .int .i64 0, .int .i64 0, .int .i64 0] 104)
    rwa [World.size_alloc] at this
  have h3 : Row (((w.alloc (.cells #[.int .i64 s, .int .i64 r, .int .i64 mu, .int .i64 ad, .int .i64 di] 104)).alloc (.cells #[.int .i64 m, .slice (some ⟨ba, oa, none⟩) n cc, .slice (some ⟨bb, ob, none⟩) n2 d2] 24)).alloc (.cells #[.int .i64 0, .int .i64 0, .int .i64 0, .int .i64 0, .int .i64 0] 104)) (w.heap.size + 1 + 1) 104 [.int .i64 0, .int .i64 0, .int .i64 0, .int .i64 0, .int .i64 0] := by
    have := Row.new ((w.alloc (.cells #[.int .i64 s, .int .i64 r, .int .i64 mu, .int .i64 ad, .int .i64 di] 104)).alloc (.cells #[.int .i64 m, .slice (some ⟨ba, oa, none⟩) n cc, .slice (some ⟨bb, ob, none⟩) n2 d2] 24)) 104 [.int .i64 0, .int .i64 0, .int .i64 0, .int .i64 0, .int .i64 0]
    rwa [World.size_alloc, World.size_alloc] at this
  obtain ⟨b1, o1, e1, -, hc1⟩ := (hra.ext hx).atI (k := rr) (by omega)
  obtain ⟨b2, o2, e2, -, hc2⟩ := (hrb.ext hx).atI (k := rr) (by omega)
  cases e1
  cases e2
  rw [hu.out] at hc1
  rw [ha.out] at hc2
  obtain ⟨W, hW⟩ : ∃ W, (((w.alloc (.cells #[.int .i64 s, .int .i64 r, .int .i64 mu, .int .i64 ad, .int .i64 di] 104)).alloc (.cells #[.int .i64 m, .slice (some ⟨ba, oa, none⟩) n cc, .slice (some ⟨bb, ob, none⟩) n2 d2] 24)).alloc (.cells #[.int .i64 0, .int .i64 0, .int .i64 0, .int .i64 0, .int .i64 0] 104)) = W := ⟨_, rfl⟩
  rw [hW] at hx h1 h2 h3 hc1 hc2
  have HX := hid hx
  have HW := hid hW
  have H3 := hid h3
  obtain ⟨p0, p1, p2, p3, p4⟩ := row_facts5 h1
  obtain ⟨f0, f1, f2, -, -, -⟩ := row_facts3 h2
  obtain ⟨z0, z1, z2, z3, z4⟩ := row_facts5 h3
  have y0 := h3.free 0
  have y1 := h3.free 1
  have y2 := h3.free 2
  have y3 := h3.free 3
  have y4 := h3.free 4
  clear hW hx h1 h2 h3 c1 c1p c2 c3 c4 c5 c6 c7 c8 hra hrb hn1 hn2 hr hr2 hs hs2 hd hd2 ht ht2 hu1 hu2 hA hw1 hw2 ha1 ha2 hm hm2 hrn hrn2
  go_enter Tryz.func68, Tryz.ntmps68
  go_upto_region 1 with fail
  rw [HW.out]
  go_upto_region 5 with fail
  go_quiet (fail)
  go_wp2
  refine bodyPost_ret (v := .agg #[.int .i64 (s + 1), .int .i64 (r + t * di), .int .i64 (u * mu), .int .i64 (u * ad + a * di), .int .i64 (m * di)]) (by simp [results, Tryz.results68, go_sem, z0, z1, z2, z3, z4]) rfl ⟨rfl, ?_⟩
  exact (((((HX.out.drewN _).set' (by show _ ≤ w.heap.size + 1 + 1; omega) _).set' (by show _ ≤ w.heap.size + 1 + 1; omega) _).set' (by show _ ≤ w.heap.size + 1 + 1; omega) _).set' (by show _ ≤ w.heap.size + 1 + 1; omega) _).set' (by show _ ≤ w.heap.size + 1 + 1; omega) _
end Go.Proofs.YtleccblkafcidaaGreatDoor
/- the reference's Of, at negative numbers -/
namespace Go.Proofs.YtleccblkafcidaaGreatDoor
open Go.RowKit
set_option maxRecDepth 100000 in
set_option maxHeartbeats 3200000 in
theorem of_neg (n : Nat) (w : World) (hn : n < 1000000000000000000) (hp : 0 < n) :
    Calls Tryz.prog 28 #[.int .i64 (-(n : Int))] w (RefPost (-(n : Int)) w) := by
  obtain ⟨i0, hi, hz0, hz1, hz2⟩ := info_parts infoI
  have hlt : -(n : Int) < 0 := by omega
  have hwr : IntKind.i64.wrap (n : Int) = (n : Int) := IntWalk.i64_in _ (by omega)
  go_enter Tryz.func28, Tryz.ntmps28
  go_wp2_with fail
  generalize hW0 : w.alloc (.cells #[.bool false, .slice none 0 0] 47) = W0
  have hE : Ext w W0 := by rw [← hW0]; exact (Ext.rfl' w).alloc' _
  have hR : Row W0 w.heap.size 47 [.bool false, .slice none 0 0] := by rw [← hW0]; exact Row.new w _ _
  clear hW0
  go_loopw [0, 4] (fun z v wr => ∃ (j q : Nat) (xs : List Nat) (A : Option Addr) (c : Nat), v = .slice A j c ∧ z = .int .i64 (q : Int) ∧ q ≤ n ∧ wr.ownsRow W0.heap.size 3 1 (.slice A j c) j (I64s xs) ∧ Ext W0 wr ∧ W0.heap.size ≤ wr.heap.size ∧
      Hid (xs.length = j ∧ K.lv xs + 1000000000 ^ j * q = n ∧ (∀ x ∈ xs, x < 1000000000) ∧ (0 < q ∨ xs.getLast? ≠ some 0) ∧ j ≤ 2)) (fun z _ _ => (intOf z).toNat)
  case atStart =>
    exact ⟨0, n, [], none, 0, rfl, rfl, Nat.le_refl _, World.ownsRow_nil _ _ _ _, Ext.rfl' _, Nat.le_refl _, hid ⟨rfl, by simp [K.lv], by simp, by simp, by omega⟩⟩
  case round =>
    obtain ⟨j, q, xs, A, c, rfl, rfl, hqn, hown, hex, hsz, hxs⟩ := hrel
    have HOWN := hid hown
    clear hown
    by_cases hq : 0 < q
    · have hj : j < 2 := by
        have h1 := hxs.out.2.1
        have h2 := hxs.out.2.2.2.2
        rcases Nat.lt_or_ge j 2 with h | h
        · exact h
        · obtain rfl : j = 2 := by omega
          simp at h1
          omega
      go_wp2_with (at_builtin; refine wpList_append_own _ rfl _ _ 22 rfl W0.heap.size 3 i0 (.int .i64 0) 1 8 Tryz.underlying22 hi hz0 hz1 hz2 rfl (by decide) _ _ _ rfl (HOWN.out.alloc _) ⟨wr.heap.size, 0, none⟩ 1 1 [.int .i64 ((q : Int) % 1000000000)] rfl rfl (cell_one_new _ _ _) (fun u hu => by simp at hu; subst hu; rfl) ?c1 ?c2 ?c3 ?_)
      case c1 => unfold maxLen; omega
      case c2 => omega
      case c3 => first | omega | (simp; omega)
      intro v' w1 hown' hgrow hnil
      obtain ⟨g, cap, sp, rfl, hg, hc1, hc2, hrow1, hvl, hsl⟩ := own_form hown' (by omega)
      have hex' : Ext W0 w1 := (hex.alloc' _).grown hgrow (by simp; omega) (by
        intro k hk
        exact (HOWN.out.lt k hk).1)
      have hsz' : W0.heap.size ≤ w1.heap.size := hex'.size
      have HO := hid hown'
      clear hown' hgrow hnil hrow1 hvl hsl hg hc1 hc2
      go_wp2
      go_roundw
      case rel =>
        have hx := hxs.out
        refine ⟨j + 1, q / 1000000000, xs ++ [q % 1000000000], _, _, rfl, by simp, by omega, by simpa using HO.out, hex', hsz', hid ⟨by simp [hx.1], ?_, ?_, ?_, by omega⟩⟩
        · rw [lv_snoc, hx.1, ← hx.2.1, Nat.pow_succ, Nat.mul_assoc, Nat.add_assoc, ← Nat.mul_add]
          congr 2
          omega
        · intro y hy
          rcases List.mem_append.1 hy with h | h
          · exact hx.2.2.1 y h
          · obtain rfl : y = q % 1000000000 := by simpa using h
            omega
        · by_cases h0 : 0 < q / 1000000000
          · exact .inl h0
          · refine .inr ?_
            rw [List.getLast?_append]
            simp
            omega
      case measure => simp [intOf]; omega
    · have hjc : j ≤ c := by
        rcases HOWN.out.2 with ⟨h, h0⟩ | ⟨g, cap, cur, h, hg, hh, hc, _⟩
        · injection h with h1 h2 h3; omega
        · injection h with h1 h2 h3; omega
      have hx := hxs.out
      have hrd := Rd.of_own HOWN.out
      have hr := hR.ext hex
      have c0 : wr.cell? ⟨w.heap.size, 0, none⟩ = some (.bool false) := hr.cell 0
      have c1 : wr.cell? ⟨w.heap.size, 1, none⟩ = some (.slice none 0 0) := hr.cell 1
      have f0 := hr.free 0
      have f1 := hr.free 1
      obtain rfl : q = 0 := by omega
      have hfin : RefPost (-(n : Int)) w (.returned (.agg #[.bool true, .slice A j c])) ((wr.setCell ⟨w.heap.size, 0, none⟩ (.bool true)).setCell ⟨w.heap.size, 1, none⟩ (.slice A j c)) := by
        refine ⟨_, rfl, ⟨A, j, c, xs, true, rfl, ?_, hx.1, hjc, ?_, ⟨hx.2.2.1, hx.2.2.2.1.resolve_left (by omega)⟩, ?_⟩, ((hE.step hex).set' (Nat.le_refl _) _).set' (Nat.le_refl _) _⟩
        · refine hid ?_
          symm
          exact decide_eq_true (by omega)
        · refine Rd.two hrd ?_ hr
          intro u hu
          obtain ⟨y, _, rfl⟩ := List.mem_map.1 hu
          exact ⟨_, _, rfl⟩
        · rw [Int.natAbs_neg, Int.natAbs_natCast, ← hx.2.1]; simp
      have HF := hid hfin
      clear hfin hx hrd hr hjc
      go_wp2
      refine bodyPost_ret (v := .agg #[.bool true, .slice A j c]) (by simp [results, Tryz.results28, go_sem, c0, c1]) rfl HF.out
/-- Of, at every number of this size -/
theorem of_any (i : Int) (w : World) (hn : i.natAbs < 1000000000000000000) : Calls Tryz.prog 28 #[.int .i64 i] w (RefPost i w) := by
  rcases Int.lt_or_le i 0 with h | h
  · obtain ⟨n, rfl⟩ : ∃ n : Nat, i = -(n : Int) := ⟨i.natAbs, by omega⟩
    exact of_neg n w (by omega) (by omega)
  · obtain ⟨n, rfl⟩ : ∃ n : Nat, i = (n : Int) := ⟨i.natAbs, by omega⟩
    exact of_nat n w (by omega)
end Go.Proofs.YtleccblkafcidaaGreatDoor
/- the reference of layer 2: Rest, Step -/
namespace Go.Proofs.YtleccblkafcidaaGreatDoor
open Go.RowKit
set_option maxRecDepth 100000 in
set_option maxHeartbeats 800000 in
theorem rest2_any (v vn : Value) (m x : Int) (us ad : List Int) (w : World) (hv : MapV w v m us ad) (hn : RefV w vn x) (lx : x.natAbs ≤ BIG) (h1 : 1 ≤ m) (h2 : m ≤ 2147483647) :
    Calls Tryz.prog 29 #[v, vn] w (fun e w' => e = .returned (.int .i64 (x % m)) ∧ Ext w w') := by
  obtain ⟨d, rfl⟩ : ∃ d : Nat, m = (d : Int) := ⟨m.toNat, by omega⟩
  obtain ⟨A, n, cc, B, n2, d2, rfl, -⟩ := hv
  have hn' := hn
  obtain ⟨A1, k1, c1, xs1, b1, rfl, -⟩ := hn
  have hr1 : Row ((w.alloc (.cells #[.int .i64 (d : Int), .slice A n cc, .slice B n2 d2] 24)).alloc (.cells #[.bool b1, .slice A1 k1 c1] 47)) w.heap.size 24 [.int .i64 (d : Int), .slice A n cc, .slice B n2 d2] := (Row.new w _ _).alloc _
  have hr2 : Row ((w.alloc (.cells #[.int .i64 (d : Int), .slice A n cc, .slice B n2 d2] 24)).alloc (.cells #[.bool b1, .slice A1 k1 c1] 47)) (w.heap.size + 1) 47 [.bool b1, .slice A1 k1 c1] := by
    have := Row.new (w.alloc (.cells #[.int .i64 (d : Int), .slice A n cc, .slice B n2 d2] 24)) 47 [.bool b1, .slice A1 k1 c1]
    rwa [World.size_alloc] at this
  have hx : Ext w ((w.alloc (.cells #[.int .i64 (d : Int), .slice A n cc, .slice B n2 d2] 24)).alloc (.cells #[.bool b1, .slice A1 k1 c1] 47)) := ((Ext.rfl' w).alloc' _).alloc' _
  obtain ⟨W2, hW2⟩ : ∃ W2, ((w.alloc (.cells #[.int .i64 (d : Int), .slice A n cc, .slice B n2 d2] 24)).alloc (.cells #[.bool b1, .slice A1 k1 c1] 47)) = W2 := ⟨_, rfl⟩
  rw [hW2] at hr1 hr2 hx
  have HW2 := hid hW2
  have HX := hid hx
  have HN := hid (hn'.ext hx)
  obtain ⟨f0, f1, f2, -, -, -⟩ := row_facts3 hr1
  obtain ⟨g0, g1, -, -⟩ := row_facts hr2
  clear hW2 hr1 hr2 hx hn'
  go_enter Tryz.func29, Tryz.ntmps29
  go_upto_region 1 with fail
  rw [HW2.out]
  go_wp2_with fail
  refine (rpart_any _ x d W2 HN.out lx (by omega) (by omega)).mono ?_
  rintro e w3 ⟨v3, rfl, hv3, hx3⟩
  obtain ⟨A3, k3, c3, xs3, b3, rfl, -⟩ := hv3
  have HX3 := hid (HX.out.step hx3)
  clear f0 f1 f2 g0 g1 hx3
  go_wp2
  go_ret
  exact ⟨rfl, HX3.out.alloc' _⟩
theorem step_big {u a x : Int} (hu : 1 ≤ u) (hu2 : u ≤ 999) (ha : -999999 ≤ a) (ha2 : a ≤ 999999) (hx : K.fits x) : x.natAbs ≤ BIG ∧ (u * x).natAbs ≤ BIG ∧ (u * x + a).natAbs ≤ BIG := by
  have h := fits_top hx
  have h2 : TOP 224 = TOP 1 * TOP 223 := TOP_add 1 223
  have h1 : TOP 1 = 1000000000 := by decide
  have hp := TOP_pos 223
  have h3 : (u * x).natAbs = u.natAbs * x.natAbs := Int.natAbs_mul u x
  have h4 : u.natAbs * x.natAbs ≤ 999 * x.natAbs := Nat.mul_le_mul_right _ (by omega)
  have h5 : (u * x).natAbs < TOP 224 ∧ (u * x + a).natAbs < TOP 224 := by
    rw [h2, h1]
    generalize TOP 223 = t at *
    generalize u * x = y at *
    omega
  exact ⟨fits_big hx, le_big h5.1 (by omega), le_big h5.2 (by omega)⟩
theorem small_big {u : Int} (h : u.natAbs < 1000000000) : u.natAbs ≤ BIG := le_big (a := 1) (by rw [show TOP 1 = 1000000000 by decide]; exact h) (by omega)
/-- a box that was made on the way -/
def NB (B : Nat) (w : World) (g : Nat) : Prop := B ≤ g ∧ Row w g 47 [.bool false, .slice none 0 0]
theorem NB.new {B : Nat} {w : World} (h : B ≤ w.heap.size) : NB B (w.alloc (.cells #[.bool false, .slice none 0 0] 47)) w.heap.size := ⟨h, Row.new w _ [.bool false, .slice none 0 0]⟩
theorem NB.newD {B : Nat} {w : World} (h : B ≤ w.heap.size) : NB B (w.drew.alloc (.cells #[.bool false, .slice none 0 0] 47)) w.heap.size := ⟨h, Row.new w.drew _ [.bool false, .slice none 0 0]⟩
theorem NB.ext {B g : Nat} {w w' : World} (h : NB B w g) (e : Ext w w') : NB B w' g := ⟨h.1, h.2.ext e⟩
theorem RefPost.put {w w3 : World} {q : Int} {b : Bool} {A : Option Addr} {k c H : Nat} {t : TypeId} (r1 : Row w3 H t [.bool false, .slice none 0 0]) (hw : Ext w w3) (hH : w.heap.size ≤ H) (hv : RefV w3 (.agg #[.bool b, .slice A k c]) q) :
    RefPost q w (.returned (.agg #[.bool b, .slice A k c])) ((w3.setCell ⟨H, 0, none⟩ (.bool b)).setCell ⟨H, 1, none⟩ (.slice A k c)) :=
  ⟨_, rfl, hv.box r1, (hw.set' (by show _ ≤ H; omega) _).set' (by show _ ≤ H; omega) _⟩
set_option maxRecDepth 100000 in
set_option maxHeartbeats 12800000 in
theorem step2_l (ba oa bb ob n cc n2 d2 d r : Nat) (vn : Value) (u a x : Int) (us ad : List Int) (w : World) (hra : Rd w (some ⟨ba, oa, none⟩) (Is us)) (hrb : Rd w (some ⟨bb, ob, none⟩) (Is ad)) (hn1 : us.length = n) (hn2 : ad.length = n2)
    (hmv : MapV w (.agg #[.int .i64 (d : Int), .slice (some ⟨ba, oa, none⟩) n cc, .slice (some ⟨bb, ob, none⟩) n2 d2]) (d : Int) us ad) (hn : RefV w vn x) (hd : 2 ≤ d) (hd2 : d ≤ 12) (hr : Hid ((r : Int) = x % (d : Int))) (hrn : r < n) (hrn2 : r < n2) (hu : Hid (us.getD r 0 = u)) (ha : Hid (ad.getD r 0 = a)) (B : Hid (x.natAbs ≤ BIG ∧ (u * x).natAbs ≤ BIG ∧ (u * x + a).natAbs ≤ BIG))
    (hu1 : 1 ≤ u) (hu2 : u ≤ 999) (ha1 : -999999 ≤ a) (ha2 : a ≤ 999999) :
    Calls Tryz.prog 32 #[.agg #[.int .i64 (d : Int), .slice (some ⟨ba, oa, none⟩) n cc, .slice (some ⟨bb, ob, none⟩) n2 d2], vn] w (RefPost ((u * x + a) / (d : Int)) w) := by
  have hn' := hn
  obtain ⟨A1, k1, c1, xs1, b1, rfl, -⟩ := hn
  have hx : Ext w (((w.alloc (.cells #[.int .i64 (d : Int), .slice (some ⟨ba, oa, none⟩) n cc, .slice (some ⟨bb, ob, none⟩) n2 d2] 24)).alloc (.cells #[.bool b1, .slice A1 k1 c1] 47)).alloc (.cells #[.bool false, .slice none 0 0] 47)) := (((Ext.rfl' w).alloc' _).alloc' _).alloc' _
  have hr1 : Row (((w.alloc (.cells #[.int .i64 (d : Int), .slice (some ⟨ba, oa, none⟩) n cc, .slice (some ⟨bb, ob, none⟩) n2 d2] 24)).alloc (.cells #[.bool b1, .slice A1 k1 c1] 47)).alloc (.cells #[.bool false, .slice none 0 0] 47)) w.heap.size 24 [.int .i64 (d : Int), .slice (some ⟨ba, oa, none⟩) n cc, .slice (some ⟨bb, ob, none⟩) n2 d2] := ((Row.new w _ _).alloc _).alloc _
  have hr2 : Row (((w.alloc (.cells #[.int .i64 (d : Int), .slice (some ⟨ba, oa, none⟩) n cc, .slice (some ⟨bb, ob, none⟩) n2 d2] 24)).alloc (.cells #[.bool b1, .slice A1 k1 c1] 47)).alloc (.cells #[.bool false, .slice none 0 0] 47)) (w.heap.size + 1) 47 [.bool b1, .slice A1 k1 c1] := by
    have := (Row.new (w.alloc (.cells #[.int .i64 (d : Int), .slice (some ⟨ba, oa, none⟩) n cc, .slice (some ⟨bb, ob, none⟩) n2 d2] 24)) 47 [.bool b1, .slice A1 k1 c1]).alloc (.cells #[.bool false, .slice none 0 0] 47)
    rwa [World.size_alloc] at this
  have hr3 : Row (((w.alloc (.cells #[.int .i64 (d : Int), .slice (some ⟨ba, oa, none⟩) n cc, .slice (some ⟨bb, ob, none⟩) n2 d2] 24)).alloc (.cells #[.bool b1, .slice A1 k1 c1] 47)).alloc (.cells #[.bool false, .slice none 0 0] 47)) (w.heap.size + 1 + 1) 47 [.bool false, .slice none 0 0] := by
    have := Row.new ((w.alloc (.cells #[.int .i64 (d : Int), .slice (some ⟨ba, oa, none⟩) n cc, .slice (some ⟨bb, ob, none⟩) n2 d2] 24)).alloc (.cells #[.bool b1, .slice A1 k1 c1] 47)) 47 [.bool false, .slice none 0 0]
    rwa [World.size_alloc, World.size_alloc] at this
  have hz3 : (((w.alloc (.cells #[.int .i64 (d : Int), .slice (some ⟨ba, oa, none⟩) n cc, .slice (some ⟨bb, ob, none⟩) n2 d2] 24)).alloc (.cells #[.bool b1, .slice A1 k1 c1] 47)).alloc (.cells #[.bool false, .slice none 0 0] 47)).heap.size = w.heap.size + 1 + 1 + 1 := by simp
  obtain ⟨W3, hW3⟩ : ∃ W3, (((w.alloc (.cells #[.int .i64 (d : Int), .slice (some ⟨ba, oa, none⟩) n cc, .slice (some ⟨bb, ob, none⟩) n2 d2] 24)).alloc (.cells #[.bool b1, .slice A1 k1 c1] 47)).alloc (.cells #[.bool false, .slice none 0 0] 47)) = W3 := ⟨_, rfl⟩
  rw [hW3] at hx hr1 hr2 hr3 hz3
  have HW3 := hid hW3
  have HX := hid hx
  have HN := hid (hn'.ext hx)
  have HM := hid (hmv.ext hx)
  have H1 := hid hr1
  have H2 := hid hr2
  have H3 := hid hr3
  have HZ3 := hid hz3
  have HRA := hid (hra.ext hx)
  have HRB := hid (hrb.ext hx)
  have HL1 := hid hn1
  have HL2 := hid hn2
  have HS : Hid (∀ W', Ext W3 W' → W'.cell? ⟨w.heap.size, 0, none⟩ = some (.int .i64 (d : Int)) ∧ W'.cell? ⟨w.heap.size, 1, none⟩ = some (.slice (some ⟨ba, oa, none⟩) n cc) ∧ W'.cell? ⟨w.heap.size, 2, none⟩ = some (.slice (some ⟨bb, ob, none⟩) n2 d2) ∧ W'.cell? ⟨w.heap.size + 1, 0, none⟩ = some (.bool b1) ∧ W'.cell? ⟨w.heap.size + 1, 1, none⟩ = some (.slice A1 k1 c1) ∧ W'.cell? ⟨ba, oa + r, none⟩ = some (.int .i64 u) ∧ W'.cell? ⟨bb, ob + r, none⟩ = some (.int .i64 a)) := hid (by
    intro W' e
    obtain ⟨p0, p1, p2, -, -, -⟩ := row_facts3 (H1.out.ext e)
    obtain ⟨q0, q1, -, -⟩ := row_facts (H2.out.ext e)
    obtain ⟨b2, o2, e2, -, hc1⟩ := (HRA.out.ext e).atI (k := r) (by rw [HL1.out]; exact hrn)
    obtain ⟨b3, o3, e3, -, hc2⟩ := (HRB.out.ext e).atI (k := r) (by rw [HL2.out]; exact hrn2)
    cases e2
    cases e3
    rw [hu.out] at hc1
    rw [ha.out] at hc2
    exact ⟨p0, p1, p2, q0, q1, hc1, hc2⟩)
  have HUB := hid (small_big (show u.natAbs < 1000000000 by omega))
  have HAB := hid (small_big (show a.natAbs < 1000000000 by omega))
  have HBU := hid (show u.natAbs < 1000000000000000000 by omega)
  have HBA := hid (show a.natAbs < 1000000000000000000 by omega)
  have i0 : (0 : Int) ≤ (r : Int) := by omega
  have i1 : (r : Int) < (n : Int) := by omega
  have i2 : (r : Int) < (n2 : Int) := by omega
  clear hW3 hx hr1 hr2 hr3 hn' hmv hra hrb hn1 hn2 hu1 hu2 ha1 ha2 hz3
  obtain ⟨f0, f1, f2, g0, g1, -, -⟩ := HS.out _ (Ext.rfl' _)
  go_enter Tryz.func32, Tryz.ntmps32
  go_upto_region 1 with fail
  rw [HW3.out]
  go_wp2_with fail
  refine (rest2_any _ _ (d : Int) x us ad W3 HM.out HN.out B.out.1 (by omega) (by omega)).mono ?_
  rintro e w4 ⟨rfl, hx4⟩
  rw [← hr.out]
  have hcur : Ext W3 w4 := hx4
  clear f0 f1 f2 g0 g1 hx4
  go_upto_region 2 with fail
  go_cut [6, 7] (fun s6 s7 wx => ∃ (g : Nat) (b : Bool) (P : Option Addr) (k c : Nat), s6 = .pointer (some ⟨g, 0, none⟩) ∧ s7 = .int .i64 ((u * x + a) % (d : Int)) ∧ Row wx g 47 [.bool b, .slice P k c] ∧ RefV wx (.agg #[.bool b, .slice P k c]) ((u * x + a) / (d : Int)) ∧ Ext W3 wx)
  case first =>
    go_region_held3 (fun W' => W'.cell? ⟨w.heap.size, 0, none⟩ = some (.int .i64 (d : Int)) ∧ W'.cell? ⟨w.heap.size, 1, none⟩ = some (.slice (some ⟨ba, oa, none⟩) n cc) ∧ W'.cell? ⟨w.heap.size, 2, none⟩ = some (.slice (some ⟨bb, ob, none⟩) n2 d2) ∧ W'.cell? ⟨w.heap.size + 1, 0, none⟩ = some (.bool b1) ∧ W'.cell? ⟨w.heap.size + 1, 1, none⟩ = some (.slice A1 k1 c1) ∧ W'.cell? ⟨ba, oa + r, none⟩ = some (.int .i64 u) ∧ W'.cell? ⟨bb, ob + r, none⟩ = some (.int .i64 a))
      (first | exact HS.out _ hcur | exact HS.out _ hcur.drew' | exact HS.out _ (hcur.alloc' _) | exact HS.out _ (hcur.drew'.alloc' _) | exact HS.out _ ((hcur.set' HB2.out.1 _).set' HB2.out.1 _) | go_keep)
      (first
        | (go_at_call_of 28 (Value.int IntKind.i64 u); refine (of_any u _ HBU.out).mono ?_; rintro e w6 ⟨v6, rfl, hv6, hx⟩; (first | have HB2 := hid (HB2.out.ext hx) | have HB2 := hid ((NB.new hcur.size).ext hx) | have HB2 := hid ((NB.newD hcur.size).ext hx) | skip); have hcur := Ext.step hcur (by first | exact hx | exact Ext.undrew hx | exact Ext.step ((Ext.rfl' _).alloc' _) hx | exact Ext.step ((Ext.rfl' _).drew'.alloc' _) hx); have HV6 := hid hv6; obtain ⟨A6, k6, c6, xs6, b6, rfl, -⟩ := hv6; (first | (have hyy := row_facts HB2.out.2; obtain ⟨y0, y1, y2, y3⟩ := hyy) | skip))
        | (go_at_call 30; refine (rmul_any _ _ u x _ (HV6.out.ext ?_) (HN.out.ext ?_) HUB.out B.out.1).mono ?_; (first | exact Ext.rfl' _ | exact (Ext.rfl' _).drew' | exact (Ext.rfl' _).alloc' _ | exact (Ext.rfl' _).drew'.alloc' _); (first | exact hcur | exact hcur.drew' | exact hcur.alloc' _ | exact hcur.drew'.alloc' _ | exact (hcur.alloc' _).drew'); rintro e w7 ⟨v7, rfl, hv7, hx⟩; (first | have HB2 := hid (HB2.out.ext hx) | have HB2 := hid ((NB.new hcur.size).ext hx) | have HB2 := hid ((NB.newD hcur.size).ext hx) | skip); have hcur := Ext.step hcur (by first | exact hx | exact Ext.undrew hx | exact Ext.step ((Ext.rfl' _).alloc' _) hx | exact Ext.step ((Ext.rfl' _).drew'.alloc' _) hx); have HV7 := hid hv7; obtain ⟨A7, k7, c7, xs7, b7, rfl, -⟩ := hv7; (first | (have hyy := row_facts HB2.out.2; obtain ⟨y0, y1, y2, y3⟩ := hyy) | skip))
        | (go_at_call_of 28 (Value.int IntKind.i64 a); refine (of_any a _ HBA.out).mono ?_; rintro e w8 ⟨v8, rfl, hv8, hx⟩; (first | have HB2 := hid (HB2.out.ext hx) | have HB2 := hid ((NB.new hcur.size).ext hx) | have HB2 := hid ((NB.newD hcur.size).ext hx) | skip); have HV7 := hid (by first | exact HV7.out.ext hx | exact HV7.out.ext (Ext.undrew hx) | exact HV7.out.ext (Ext.step ((Ext.rfl' _).alloc' _) hx)); have hcur := Ext.step hcur (by first | exact hx | exact Ext.undrew hx | exact Ext.step ((Ext.rfl' _).alloc' _) hx | exact Ext.step ((Ext.rfl' _).drew'.alloc' _) hx); have HV8 := hid hv8; obtain ⟨A8, k8, c8, xs8, b8, rfl, -⟩ := hv8; (first | (have hyy := row_facts HB2.out.2; obtain ⟨y0, y1, y2, y3⟩ := hyy) | skip))
        | (go_at_call 31; refine (radd_any _ _ (u * x) a _ (HV7.out.ext ?_) (HV8.out.ext ?_) B.out.2.1 HAB.out).mono ?_; (first | exact Ext.rfl' _ | exact (Ext.rfl' _).drew' | exact (Ext.rfl' _).alloc' _ | exact (Ext.rfl' _).drew'.alloc' _); (first | exact Ext.rfl' _ | exact (Ext.rfl' _).drew' | exact (Ext.rfl' _).alloc' _ | exact (Ext.rfl' _).drew'.alloc' _); rintro e w9 ⟨v9, rfl, hv9, hx⟩; (first | have HB2 := hid (HB2.out.ext hx) | have HB2 := hid ((NB.new hcur.size).ext hx) | have HB2 := hid ((NB.newD hcur.size).ext hx) | skip); have hcur := Ext.step hcur (by first | exact hx | exact Ext.undrew hx | exact Ext.step ((Ext.rfl' _).alloc' _) hx | exact Ext.step ((Ext.rfl' _).drew'.alloc' _) hx); have HV9 := hid hv9; obtain ⟨A9, k9, c9, xs9, b9, rfl, -⟩ := hv9; (first | (have hyy := row_facts HB2.out.2; obtain ⟨y0, y1, y2, y3⟩ := hyy) | skip))
        | (go_at_call 26; refine (rpart_any _ (u * x + a) d _ (HV9.out.ext ?_) B.out.2.2 (by omega) (by omega)).mono ?_; (first | exact Ext.rfl' _ | exact (Ext.rfl' _).drew' | exact (Ext.rfl' _).alloc' _ | exact (Ext.rfl' _).drew'.alloc' _); rintro e w10 ⟨v10, rfl, hv10, hx⟩; (first | have HB2 := hid (HB2.out.ext hx) | have HB2 := hid ((NB.new hcur.size).ext hx) | have HB2 := hid ((NB.newD hcur.size).ext hx) | skip); have hcur := Ext.step hcur (by first | exact hx | exact Ext.undrew hx | exact Ext.step ((Ext.rfl' _).alloc' _) hx | exact Ext.step ((Ext.rfl' _).drew'.alloc' _) hx); have HV10 := hid hv10; obtain ⟨A10, k10, c10, xs10, b10, rfl, -⟩ := hv10; (first | (have hyy := row_facts HB2.out.2; obtain ⟨y0, y1, y2, y3⟩ := hyy) | skip)))
    all_goals
      go_wp2_with fail
      go_meet
      first
        | exact ⟨_, b10, A10, k10, c10, rfl, rfl, (HB2.out.2.set 0 _).set 1 _, HV10.out.box HB2.out.2, (hcur.set' HB2.out.1 _).set' HB2.out.1 _⟩
        | exact ⟨_, b10, A10, k10, c10, rfl, rfl, Row.new _ _ [.bool b10, .slice A10 k10 c10], HV10.out.ext ((Ext.rfl' _).alloc' _), hcur.alloc' _⟩
  case rest =>
    obtain ⟨g, b, P, k, c, rfl, rfl, hrow, hv, hex⟩ := hcut
    have hr3 := H3.out.ext hex
    have HF := hid (RefPost.put hr3 (HX.out.step hex) (by omega) hv)
    obtain ⟨t0, t1, -, -⟩ := row_facts hrow
    obtain ⟨z0, z1, z2, z3⟩ := row_facts hr3
    clear hr3 hv hrow hex
    go_wp2
    refine bodyPost_ret (v := .agg #[.bool b, .slice P k c]) (by simp [results, Tryz.results32, go_sem, z0, z1]) rfl HF.out
set_option maxRecDepth 100000 in
theorem step2_any (v vn : Value) (m x : Int) (us ad : List Int) (w : World) (hv : MapV w v m us ad) (hM : Hid (mapP m us ad)) (hn : RefV w vn x) (hf : Hid (x.natAbs ≤ BIG ∧ (mulAt m us x * x).natAbs ≤ BIG ∧ (mulAt m us x * x + ad.getD (rOf m x) 0).natAbs ≤ BIG)) :
    Calls Tryz.prog 32 #[v, vn] w (RefPost (stepI m us ad x) w) := by
  have hm := hM.out
  obtain ⟨d, rfl⟩ : ∃ d : Nat, m = (d : Int) := ⟨m.toNat, by have := hm.1; omega⟩
  have hr := rOf_lt (m := (d : Int)) (x := x) (by have := hm.1; omega)
  have hu := rule_at hm x
  have hmv := hv
  obtain ⟨A, n, cc, B, n2, d2, rfl, h1, h2, h3, h4, h5, h6, h7, h9⟩ := hv
  have l1 : rOf (d : Int) x < us.length := by have := hm.2.2.1; omega
  have l2 : rOf (d : Int) x < ad.length := by have := hm.2.2.2.1; omega
  obtain ⟨ba, oa, eA, -, -⟩ := h5.atI l1
  obtain ⟨bb, ob, eB, -, -⟩ := h6.atI l2
  subst eA eB
  exact step2_l ba oa bb ob n cc n2 d2 d (rOf (d : Int) x) vn (us.getD (rOf (d : Int) x) 0) (ad.getD (rOf (d : Int) x) 0) x us ad w h5 h6 h1 h3 hmv hn (by have := hm.1; omega) (by have := hm.2.1; omega) (hid hr.2) (by omega) (by omega) (hid rfl) (hid rfl) hf hu.1 hu.2.1 hu.2.2.1 hu.2.2.2.1
/-- from a number that fits -/
theorem step2_fits (v vn : Value) (m x : Int) (us ad : List Int) (w : World) (hv : MapV w v m us ad) (hM : Hid (mapP m us ad)) (hn : RefV w vn x) (hf : Hid (K.fits x)) :
    Calls Tryz.prog 32 #[v, vn] w (RefPost (stepI m us ad x) w) := by
  have hu := rule_at hM.out x
  exact step2_any v vn m x us ad w hv hM hn (hid (step_big hu.1 hu.2.1 hu.2.2.1 hu.2.2.2.1 hf.out))
theorem stepI_big {m x : Int} {us ad : List Int} (hM : mapP m us ad) (hx : K.fits x) : (stepI m us ad x).natAbs ≤ BIG := by
  have hu := rule_at hM x
  have h := (step_big hu.1 hu.2.1 hu.2.2.1 hu.2.2.2.1 hx).2.2
  refine Nat.le_trans ?_ h
  have hm := hM.1
  unfold stepI
  generalize us.getD (rOf m x) 0 * x + ad.getD (rOf m x) 0 = t
  obtain ⟨d, rfl⟩ : ∃ d : Nat, m = (d : Int) := ⟨m.toNat, by omega⟩
  rcases Int.lt_or_le t 0 with h0 | h0
  · have h1 : t ≤ t / (d : Int) := by
      have := Int.ediv_mul_le t (show (d : Int) ≠ 0 by omega)
      have h2 : t / (d : Int) < 0 := Int.ediv_lt_of_lt_mul (by omega) (by omega)
      have h3 : t / (d : Int) * 1 ≥ t / (d : Int) * (d : Int) := Int.mul_le_mul_of_nonpos_left (by omega) (by omega)
      have h4 := Int.lt_ediv_add_one_mul_self t (show (0 : Int) < (d : Int) by omega)
      have h5 : (t / (d : Int) + 1) * (d : Int) ≤ (t / (d : Int) + 1) * 1 := Int.mul_le_mul_of_nonpos_left (by omega) (by omega)
      omega
    have h2 : t / (d : Int) < 0 := Int.ediv_lt_of_lt_mul (by omega) (by omega)
    omega
  · have h1 : 0 ≤ t / (d : Int) := Int.ediv_nonneg h0 (by omega)
    have h2 : t / (d : Int) ≤ t := Int.ediv_le_self _ h0
    omega
end Go.Proofs.YtleccblkafcidaaGreatDoor
/- the reference's Value of layer 3 -/
namespace Go.Proofs.YtleccblkafcidaaGreatDoor
open Go.RowKit
end Go.Proofs.YtleccblkafcidaaGreatDoor
/- append to a list of numbers of the reference's: rows of boxes -/
namespace Go.Proofs.YtleccblkafcidaaGreatDoor
open Go.RowKit
/-- block g holds no small number -/
def NoInt (l : List Value) : Prop := ∀ v ∈ l, ∀ k x, v ≠ .int k x
def NoIntB (w : World) (g : Nat) : Prop := ∃ cs t fr, w.heap[g]? = some (.cells cs t fr) ∧ NoInt cs.toList
theorem NoIntB.keep {w w' : World} {g : Nat} (h : NoIntB w g) (e : w'.heap[g]? = w.heap[g]?) : NoIntB w' g := by
  obtain ⟨cs, t, fr, h1, h2⟩ := h
  exact ⟨cs, t, fr, e.trans h1, h2⟩
theorem NoIntB.cell {w : World} {g o : Nat} {k : IntKind} {x : Int} (h : NoIntB w g) : w.cell? ⟨g, o, none⟩ ≠ some (.int k x) := by
  obtain ⟨cs, t, fr, h1, h2⟩ := h
  intro e
  have e2 : cs[o]? = some (.int k x) := by simpa [World.cell?, h1] using e
  obtain ⟨ho, e3⟩ := Array.getElem?_eq_some_iff.1 e2
  exact h2 _ (by rw [← e3]; simp) k x rfl
theorem Rd.not_at {w : World} {g : Nat} {A : Option Addr} {vs : List Nat} (h : Rd w A (I64s vs)) (hn : NoIntB w g) : vs = [] ∨ ∃ b o, A = some ⟨b, o, none⟩ ∧ b ≠ g ∧ b < w.heap.size ∧ ∀ j u, (I64s vs)[j]? = some u → w.cell? ⟨b, o + j, none⟩ = some u := by
  rcases h with h | ⟨b, o, ha, hb, hc⟩
  · exact .inl (List.map_eq_nil_iff.1 h)
  · cases vs with
    | nil => exact .inl rfl
    | cons x r =>
      refine .inr ⟨b, o, ha, ?_, hb, hc⟩
      intro e
      subst e
      exact hn.cell (hc 0 (.int .i64 (x : Int)) rfl)
/-- what a world keeps of the lists of parts -/
def KeepRd (w w' : World) : Prop := ∀ (A : Option Addr) (vs : List Nat), Rd w A (I64s vs) → Rd w' A (I64s vs)
theorem KeepRd.of_ext {w w' : World} (e : Ext w w') : KeepRd w w' := fun _ _ h => h.ext e
theorem KeepRd.trans {a b c : World} (h : KeepRd a b) (k : KeepRd b c) : KeepRd a c := fun A vs x => k A vs (h A vs x)
theorem KeepRd.but {w w' : World} {g : Nat} (hn : NoIntB w g) (hs : w.heap.size ≤ w'.heap.size) (hb : ∀ j, j < w.heap.size → j ≠ g → w'.heap[j]? = w.heap[j]?) : KeepRd w w' := by
  intro A vs h
  rcases h.not_at hn with h | ⟨b, o, ha, hne, hlt, hc⟩
  · subst h; exact Rd.nil _ _
  · refine .inr ⟨b, o, ha, by omega, fun j u hu => ?_⟩
    rw [World.cell?_of_block (hb b hlt hne)]
    exact hc j u hu
theorem RefV.kept {w w' : World} {v : Value} {z : Int} (h : RefV w v z) (k : KeepRd w w') : RefV w' v z := by
  obtain ⟨A, kk, c, xs, b, h1, h2, h3, h4, h5, h6, h7⟩ := h
  exact ⟨A, kk, c, xs, b, h1, h2, h3, h4, k A xs h5, h6, h7⟩
theorem noInt_zeros (n : Nat) : NoInt (Builtin.zeroCells (Value.agg #[.bool false, .slice none 0 0]).cells n).toList := by
  intro v hv k x e
  subst e
  simp only [Builtin.zeroCells, Array.toList_map, List.mem_map] at hv
  obtain ⟨i, -, hi⟩ := hv
  have hs : (Value.agg #[.bool false, .slice none 0 0]).cells.size = 2 := by rfl
  rw [hs] at hi
  rcases (show i % 2 = 0 ∨ i % 2 = 1 by omega) with h | h
  · rw [h] at hi; exact absurd hi (by simp [Value.cells])
  · rw [h] at hi; exact absurd hi (by simp [Value.cells])
section
variable {P : Program}
theorem run_append_boxes (w : World) (base : Nat) (t ty e : TypeId) (i : TypeInfo) (ht : P.underlying t = some (.slice e)) (hi : P.info? e = some i) (hz : i.zero = some (.agg #[.bool false, .slice none 0 0]))
    (hsize : i.size = 2) (hby : i.bytes = 32) (g n cap : Nat) (xs : List Value) (hown : w.ownsRow base e 2 (.slice (some ⟨g, 0, none⟩) n cap) n xs) (hno : NoIntB w g)
    (a : Addr) (c : Nat) (b1 : Bool) (P1 : Option Addr) (q1 c1 : Nat) (hnews : ∀ j u, [Value.bool b1, .slice P1 q1 c1][j]? = some u → w.cell? (a.add j) = some u)
    (h63 : n + 1 ≤ 1000000) (hbase : base ≤ w.heap.size) :
    ∃ g' cap' w', (Builtin.append_ #[t, t] ty #[.slice (some ⟨g, 0, none⟩) n cap, .slice (some a) 1 c]).run P w = .ok (.slice (some ⟨g', 0, none⟩) (n + 1) cap') w' ∧
      w'.ownsRow base e 2 (.slice (some ⟨g', 0, none⟩) (n + 1) cap') (n + 1) (xs ++ [.bool b1, .slice P1 q1 c1]) ∧ w.grownBy w' (some g) ∧ n + 1 ≤ cap' ∧ NoIntB w' g' ∧ KeepRd w w' := by
  have hl : [Value.bool b1, .slice P1 q1 c1].length = 1 * 2 := rfl
  have h1 : ∀ u ∈ [Value.bool b1, .slice P1 q1 c1], u.oneCell' = true := by
    intro u hu
    rcases List.mem_cons.1 hu with h | h
    · rw [h]; rfl
    · rw [List.mem_singleton.1 h]; rfl
  have hnn : NoInt [Value.bool b1, .slice P1 q1 c1] := by
    intro v hv k x e
    subst e
    simp at hv
  obtain ⟨v', w', hr0, h2, h3, -⟩ := run_append_own (P := P) w base t ty e i _ 2 32 ht hi hz hsize hby (by rfl) (by omega) _ n xs hown a 1 c _ hl hnews h1 (by unfold maxLen; omega) (by omega) hbase
  rcases hown.2 with ⟨hv, -⟩ | ⟨g0, cap0, cur, hv, hbg, hg, hnc, hcm, hcs, htake⟩
  · cases hv
  · cases hv
    obtain ⟨cs, ct, fr, hcs0, hcsn⟩ := hno
    rw [hg] at hcs0
    cases hcs0
    by_cases hroom : n + 1 ≤ cap
    · have hfit : n * i.size + [Value.bool b1, .slice P1 q1 c1].length ≤ cur.size := by rw [hl, hcs, hsize, ← Nat.add_mul]; exact Nat.mul_le_mul_right _ hroom
      have hr := run_append_room (P := P) w t ty e i ht hi g n cap cur hg a 1 c _ (by rw [hsize]; rfl) hnews h1 hroom hfit
      have hee := hr.symm.trans hr0
      injection hee with hv hw
      subst hv hw
      refine ⟨g, cap, _, hr, h2, h3, hroom, ⟨_, _, _, setRow_heap w g cur _ e _ hg, ?_⟩, KeepRd.but ⟨cur, e, (0, 0), hg, hcsn⟩ h3.size (fun j hj hne => h3.block j hj (by intro e2; cases e2; exact hne rfl))⟩
      intro v hv k x
      rcases List.mem_append.1 (by simpa using hv : v ∈ (cur.toList.take (n * i.size) ++ [Value.bool b1, .slice P1 q1 c1]) ++ cur.toList.drop (n * i.size + 2)) with h | h
      · rcases List.mem_append.1 h with h | h
        · exact hcsn v (List.mem_of_mem_take h) k x
        · exact hnn v h k x
      · exact hcsn v (List.mem_of_mem_drop h) k x
    · have holds : ∀ j u, xs[j]? = some u → w.cell? ((⟨g, 0, none⟩ : Addr).add j) = some u := hown.cells (g := g) rfl
      have hr := run_append_grow (P := P) w t ty e i _ ht hi hz ⟨g, 0, none⟩ n cap xs (by rw [hsize]; exact hown.1) holds a 1 c _ (by rw [hsize]; rfl) hnews (by omega) (by omega) (growslice_fits (by omega) (by rw [hby]; omega))
      have hee := hr.symm.trans hr0
      injection hee with hv hw
      subst hv hw
      refine ⟨w.heap.size, _, _, hr, h2, h3, grownCap_ge w (n + 1) cap e, ⟨_, _, _, heap_alloc_new w.drew _, ?_⟩, KeepRd.of_ext ((Ext.rfl' w).drew'.alloc' _)⟩
      intro v hv k x
      simp only [Array.toList_append, List.append_assoc] at hv
      rcases List.mem_append.1 hv with h | h
      · exact hcsn v (by rw [← htake] at h; exact List.mem_of_mem_take h) k x
      · rcases List.mem_append.1 h with h | h
        · exact hnn v h k x
        · exact noInt_zeros _ v h k x
theorem wpList_append_boxes {w : World} {ops : Array Oper} {rest : List Oper} {o : Oper} {a : Act} {Q : Exit → Act → World → Prop} (hgd : o.guard = none) (s x : Operand) (t : TypeId)
    (ho : o.op = .call { callee := .builtin .append, args := #[s, x], argTypes := #[t, t] })
    (base : Nat) (e : TypeId) (i : TypeInfo) (ht : P.underlying t = some (.slice e)) (hi : P.info? e = some i) (hz : i.zero = some (.agg #[.bool false, .slice none 0 0]))
    (hsize : i.size = 2) (hby : i.bytes = 32) (g n cap : Nat) (xs : List Value) (hs : a.eval s = .slice (some ⟨g, 0, none⟩) n cap) (hown : w.ownsRow base e 2 (.slice (some ⟨g, 0, none⟩) n cap) n xs) (hno : NoIntB w g)
    (ad : Addr) (c : Nat) (b1 : Bool) (P1 : Option Addr) (q1 c1 : Nat) (hx : a.eval x = .slice (some ad) 1 c) (hnews : ∀ j u, [Value.bool b1, .slice P1 q1 c1][j]? = some u → w.cell? (ad.add j) = some u)
    (h63 : n + 1 ≤ 1000000) (hbase : base ≤ w.heap.size)
    (h : ∀ g' cap' w', w'.ownsRow base e 2 (.slice (some ⟨g', 0, none⟩) (n + 1) cap') (n + 1) (xs ++ [.bool b1, .slice P1 q1 c1]) → w.grownBy w' (some g) → n + 1 ≤ cap' → NoIntB w' g' → KeepRd w w' → wpList P ops Q rest (a.put o.dst (.slice (some ⟨g', 0, none⟩) (n + 1) cap')) w') : wpList P ops Q (o :: rest) a w :=
  wpList_plain hgd fun _ hK => by
    obtain ⟨g', cap', w', hr, h2, h3, h4, h5, h6⟩ := run_append_boxes (P := P) w base t o.type e i ht hi hz hsize hby g n cap xs hown hno ad c b1 P1 q1 c1 hnews h63 hbase
    unfold Oper.wp execOp
    simp only [ho, resolve, invoke, builtin, Sem.run_bind, Sem.run_pure, Result.andThen_ok, List.map_toArray, List.map_cons, List.map_nil, hs, hx, hr]
    exact hK _ _ (h g' cap' w' h2 h3 h4 h5 h6)
end
theorem own_keep {w w' : World} {base e size n : Nat} {v : Value} {xs : List Value} (h : w.ownsRow base e size v n xs) (hk : ∀ g, base ≤ g → g < w.heap.size → w'.heap[g]? = w.heap[g]?) : w'.ownsRow base e size v n xs := by
  refine ⟨h.1, ?_⟩
  rcases h.2 with h2 | ⟨g, cap, cur, h1, h2, h3, h4⟩
  · exact .inl h2
  · refine .inr ⟨g, cap, cur, h1, h2, ?_, h4⟩
    rw [hk g h2 (by
      rcases Nat.lt_or_ge g w.heap.size with hl | hl
      · exact hl
      · rw [Array.getElem?_eq_none hl] at h3; cases h3)]
    exact h3
theorem own_ge {w : World} {base e size n : Nat} {g cap : Nat} {xs : List Value} (h : w.ownsRow base e size (.slice (some ⟨g, 0, none⟩) n cap) n xs) : base ≤ g ∧ g < w.heap.size ∧ n ≤ cap := by
  rcases h.2 with ⟨h2, -⟩ | ⟨g', cap', cur, h1, h2, h3, h4, -⟩
  · cases h2
  · cases h1
    refine ⟨h2, ?_, h4⟩
    rcases Nat.lt_or_ge g w.heap.size with hl | hl
    · exact hl
    · rw [Array.getElem?_eq_none hl] at h3; cases h3
theorem cell_two_new (w : World) (t : TypeId) (a b : Value) : ∀ j u, [a, b][j]? = some u → (w.alloc (.cells #[a, b] t)).cell? ((⟨w.heap.size, 0, none⟩ : Addr).add j) = some u := by
  intro j u hu
  have hadd : (⟨w.heap.size, 0, none⟩ : Addr).add j = ⟨w.heap.size, j, none⟩ := by unfold Addr.add; split <;> simp_all
  rw [hadd, (Row.new w t [a, b]).cell]
  exact hu
end Go.Proofs.YtleccblkafcidaaGreatDoor
/- the reference's Is of layer 3 -/
namespace Go.Proofs.YtleccblkafcidaaGreatDoor
open Go.RowKit
set_option maxRecDepth 100000 in
set_option maxHeartbeats 3200000 in
theorem is_any (v : Value) (m : Int) (us ad : List Int) (Wd : Option Addr) (wn wc : Nat) (ws : List Int) (w : World) (hv : MapV w v m us ad) (hw : Rd w Wd (Is ws)) (hl : ws.length = wn) (hwb : wn ≤ 140737488351232) {b : Bool} (hb : Hid (wordB m ws = b)) :
    Calls Tryz.prog 91 #[v, .slice Wd wn wc] w (fun e w' => e = .returned (.bool b) ∧ Ext w w') := by
  obtain ⟨A, n, cc, B, n2, d, rfl, -⟩ := hv
  have hx : Ext w (w.alloc (.cells #[.int .i64 m, .slice A n cc, .slice B n2 d] 24)) := (Ext.rfl' w).alloc' _
  have hrw : Row (w.alloc (.cells #[.int .i64 m, .slice A n cc, .slice B n2 d] 24)) w.heap.size 24 [.int .i64 m, .slice A n cc, .slice B n2 d] := Row.new w _ _
  obtain ⟨W1, hW1⟩ : ∃ W1, (w.alloc (.cells #[.int .i64 m, .slice A n cc, .slice B n2 d] 24)) = W1 := ⟨_, rfl⟩
  rw [hW1] at hx hrw
  have HX := hid hx
  have HR := hid hrw
  have HW1 := hid hW1
  have HWD := hid (hw.ext hx)
  have HL := hid hl
  have wn63 : wn ≤ 9223372036854775807 := by omega
  obtain ⟨f0, f1, f2, -, -, -⟩ := row_facts3 hrw
  clear hW1 hx hrw hw hl
  go_enter Tryz.func91, Tryz.ntmps91
  go_upto_region 1 with fail
  rw [HW1.out]
  clear f0 f1 f2
  go_wp2_with fail
  go_loopw [5] (fun iz wr => ∃ j : Nat, j ≤ wn ∧ iz = .int .i64 (j : Int) ∧ Hid (∀ i, i < j → 0 ≤ ws.getD i 0 ∧ ws.getD i 0 < m) ∧ Ext W1 wr) (fun iz _ => wn - (intOf iz).toNat)
  case atStart => exact ⟨0, by omega, rfl, hid (fun i hi => by omega), Ext.rfl' _⟩
  case round =>
    obtain ⟨j, hj, rfl, HALL, hex⟩ := hrel
    have HEX := hid hex
    have HEW := hid (HX.out.step hex)
    obtain ⟨f0, f1, f2, -, -, -⟩ := row_facts3 (HR.out.ext HEX.out)
    by_cases hlt : j < wn
    · obtain ⟨b3, o3, e3, -, hc3⟩ := (HWD.out.ext HEX.out).atI (k := j) (by rw [HL.out]; exact hlt)
      subst e3
      have hjn : (j : Int) < (wn : Int) := by omega
      obtain ⟨r, hr⟩ : ∃ r, ws.getD j 0 = r := ⟨_, rfl⟩
      rw [hr] at hc3
      have HRR := hid hr
      clear hr
      have HMEM : Hid (r ∈ ws) := hid (by rw [← HRR.out, List.getD_eq_getElem?_getD, List.getElem?_eq_getElem (by rw [HL.out]; exact hlt)]; exact List.getElem_mem _)
      by_cases hr0 : r < 0
      · obtain rfl : b = false := by rw [← hb.out]; exact Bool.eq_false_iff.2 (fun h => by have := (wordB_iff.1 h).2 r HMEM.out; omega)
        go_wp2_with fail
        go_quiet (fail)
        have HE2 := hid (HEW.out.drewN nq)
        go_wp2
        go_ret
        exact ⟨rfl, HE2.out⟩
      · by_cases hrm : m ≤ r
        · obtain rfl : b = false := by rw [← hb.out]; exact Bool.eq_false_iff.2 (fun h => by have := (wordB_iff.1 h).2 r HMEM.out; omega)
          go_wp2_with fail
          go_quiet (fail)
          have HE2 := hid (HEW.out.drewN nq)
          go_wp2
          go_ret
          exact ⟨rfl, HE2.out⟩
        · have HNX : Hid (∀ i, i < j + 1 → 0 ≤ ws.getD i 0 ∧ ws.getD i 0 < m) := hid (fun i hi => by
            rcases Nat.lt_or_ge i j with h | h
            · exact HALL.out i h
            · obtain rfl : i = j := by omega
              rw [HRR.out]; omega)
          go_wp2_with fail
          go_quiet (fail)
          have HE2 := hid (HEX.out.drewN nq)
          go_wp2
          go_roundw
          case rel => exact ⟨j + 1, by omega, by simp, HNX, HE2.out⟩
          case measure => first | (simp [intOf]; done) | (simp [intOf]; omega)
    · obtain rfl : j = wn := by omega
      by_cases hlen : j ≤ 200
      · have hlz : (j : Int) ≤ 200 := by omega
        obtain rfl : b = true := by
          rw [← hb.out]
          refine wordB_iff.2 ⟨by rw [HL.out]; exact hlen, fun r hr => ?_⟩
          obtain ⟨i, hi, rfl⟩ := List.getElem_of_mem hr
          have := HALL.out i (by rw [HL.out] at hi; exact hi)
          rwa [List.getD_eq_getElem?_getD, List.getElem?_eq_getElem hi] at this
        clear f0 f1 f2
        go_wp2
        go_ret
        exact ⟨rfl, HEW.out⟩
      · have hlz : ¬ (j : Int) ≤ 200 := by omega
        obtain rfl : b = false := by rw [← hb.out]; exact Bool.eq_false_iff.2 (fun h => by have := (wordB_iff.1 h).1; rw [HL.out] at this; omega)
        clear f0 f1 f2
        go_wp2
        go_ret
        exact ⟨rfl, HEW.out⟩
end Go.Proofs.YtleccblkafcidaaGreatDoor
/- word.class.narrowed -/
namespace Go.Proofs.YtleccblkafcidaaGreatDoor
open Go.RowKit
end Go.Proofs.YtleccblkafcidaaGreatDoor
/- word.Rest -/
namespace Go.Proofs.YtleccblkafcidaaGreatDoor
open Go.RowKit
theorem class_fits {m : Int} {us ad : List Int} (hM : mapP m us ad) {k : Nat} (hk : k ≤ 200) {R D x a u : Int} (h0 : 0 ≤ R) (hRD : R < D) (hD : D.natAbs ≤ 1000 ^ k) (ha : a.natAbs ≤ 1000 ^ k) (hx : ClassB k x) (hu1 : 1 ≤ u) (hu2 : u ≤ 999) :
    (K.fits R ∧ K.fits D ∧ K.fits x ∧ K.fits a ∧ K.fits (D * m) ∧ K.fits (a * u)) ∧ ∀ t : Int, 0 ≤ t → t < m → K.fits t ∧ K.fits (t * D) ∧ K.fits (R + t * D) ∧ K.fits (t * a) ∧ K.fits (x + t * a) ∧ K.fits (stepI m us ad (x + t * a)) := by
  have hm1 := hM.1
  have hm2 := hM.2.1
  have hnx := fun t (h1 : 0 ≤ t) (h2 : t ≤ 11) => hx.next hM h1 h2 ha
  have hx2 : x.natAbs ≤ k * 2000000 * 1000 ^ k := hx
  unfold ClassB at hnx
  have hp : 1 ≤ K.pw (3 * k) := K.pw_pos _
  rw [thousand_pw] at *
  have e1 : (D * m).natAbs ≤ K.pw (3 * k) * 12 := by rw [Int.natAbs_mul]; exact Nat.mul_le_mul hD (by omega)
  have e2 : (a * u).natAbs ≤ K.pw (3 * k) * 999 := by rw [Int.natAbs_mul]; exact Nat.mul_le_mul ha (by omega)
  refine ⟨⟨fits_pw (a := 1) (b := 3 * k) (by omega) (by rw [pw12]; omega) (by omega), fits_pw (a := 1) (b := 3 * k) (by omega) (by rw [pw12]; omega) (by omega), fits_pw (a := k * 2000000) (b := 3 * k) hx2 (by rw [pw12]; omega) (by omega), fits_pw (a := 1) (b := 3 * k) (by omega) (by rw [pw12]; omega) (by omega), fits_pw (a := 12) (b := 3 * k) (by omega) (by rw [pw12]; omega) (by omega), fits_pw (a := 999) (b := 3 * k) (by omega) (by rw [pw12]; omega) (by omega)⟩, fun t h1 h2 => ?_⟩
  have e3 : (t * D).natAbs ≤ 11 * K.pw (3 * k) := by rw [Int.natAbs_mul]; exact Nat.mul_le_mul (by omega) hD
  have e4 : (t * a).natAbs ≤ 11 * K.pw (3 * k) := by rw [Int.natAbs_mul]; exact Nat.mul_le_mul (by omega) ha
  have e5 := hnx t h1 (by omega)
  rw [thousand_pw] at e5
  exact ⟨fits_pw (a := 11) (b := 3 * k) (by omega) (by rw [pw12]; omega) (by omega), fits_pw (a := 11) (b := 3 * k) e3 (by rw [pw12]; omega) (by omega), fits_pw (a := 12) (b := 3 * k) (by omega) (by rw [pw12]; omega) (by omega), fits_pw (a := 11) (b := 3 * k) e4 (by rw [pw12]; omega) (by omega), fits_pw (a := k * 2000000 + 11) (b := 3 * k) e5.1 (by rw [pw12]; omega) (by omega), fits_pw (a := (k + 1) * 2000000) (b := 3 * (k + 1)) e5.2 (by rw [pw12]; omega) (by omega)⟩
def RestNo (c : Int) (w : World) (e : Ending) (w' : World) : Prop := e = .returned (.tuple #[.string ⟨#[]⟩, .string ⟨#[]⟩, .int .i64 c]) ∧ Ext w w'
def RestYes (m : Int) (us ad : List Int) (ws : List Int) (w : World) (e : Ending) (w' : World) : Prop := ∃ R : Int, e = .returned (.tuple #[.string (Str (K.txt R)), .string (Str (K.txt (m ^ ws.length))), .int .i64 0]) ∧ 0 ≤ R ∧ R < m ^ ws.length ∧ IsWord m us ad ws R ∧ Ext w w'
theorem Row.put4 {W : World} {H : Nat} {t : TypeId} {p q r s a b c d : Value} (h : Row W H t [p, q, r, s]) : Row ((((W.setCell ⟨H, 0, none⟩ a).setCell ⟨H, 1, none⟩ b).setCell ⟨H, 2, none⟩ c).setCell ⟨H, 3, none⟩ d) H t [a, b, c, d] :=
  (((h.set 0 a).set 1 b).set 2 c).set 3 d
theorem Row.set4 {W : World} {H g : Nat} {t : TypeId} {vs : List Value} {a b c d : Value} (h : Row W g t vs) (hne : g ≠ H) : Row ((((W.setCell ⟨H, 0, none⟩ a).setCell ⟨H, 1, none⟩ b).setCell ⟨H, 2, none⟩ c).setCell ⟨H, 3, none⟩ d) g t vs :=
  (((h.far (by show g ≠ H; exact hne) _).far (by show g ≠ H; exact hne) _).far (by show g ≠ H; exact hne) _).far (by show g ≠ H; exact hne) _
theorem Ext.set4 {w W : World} {H : Nat} {a b c d : Value} (h : Ext w W) (hH : w.heap.size ≤ H) : Ext w ((((W.setCell ⟨H, 0, none⟩ a).setCell ⟨H, 1, none⟩ b).setCell ⟨H, 2, none⟩ c).setCell ⟨H, 3, none⟩ d) :=
  (((h.set' (by show _ ≤ H; exact hH) _).set' (by show _ ≤ H; exact hH) _).set' (by show _ ≤ H; exact hH) _).set' (by show _ ≤ H; exact hH) _
end Go.Proofs.YtleccblkafcidaaGreatDoor
