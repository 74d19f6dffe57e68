/- Joined texts: numbers as texts by the library: Itoa, FormatInt, ParseInt, Atoi, in the words of K; the reference's trim; the reference's Parse and Sign; the reference's part and more; the reference's size; the reference's less; plain facts on lists of parts: a part that is set; products, quotients and digits by rounds; the reference's Minus. -/
import Derived.Test.YtleccblkafcidaaGreatDoorJG05
import Derived.Lib.AppendIntMem
import Derived.Lib.SmallJoins
import Derived.Lib.AtoiErrMem
import Derived.Test.YtleccblkafcidaaGreatDoorProg
import Derived.Test.YtleccblkafcidaaGreatDoorJG01
import Derived.Test.YtleccblkafcidaaGreatDoorJG03
import Derived.Test.YtleccblkafcidaaGreatDoorJG04
import Derived.Laws.AppendOwn
import Derived.Maps.AppendAt
set_option linter.unusedSimpArgs false
set_option linter.unusedVariables false
/- numbers as texts by the library: Itoa, FormatInt, ParseInt, Atoi, in the words of K -/
namespace Go.Proofs.YtleccblkafcidaaGreatDoor
open Go.RowKit
theorem itoa_txt (n : Int) : Lib.itoa n = K.txt n := by
  unfold Lib.itoa K.txt
  split
  · rw [decDigits_dgs]
  · rw [decDigits_dgs]; congr 1; omega
theorem dv_cons (c : UInt8) (r : List UInt8) : K.dv (c :: r) = K.dv r + 10 ^ r.length * (c.toNat - 48) := by
  have h := K.dv_append [c] r
  rw [List.singleton_append] at h
  have h2 := K.dv_snoc [] c
  rw [List.nil_append, K.dv_nil] at h2
  rw [h, show K.dv [c] = c.toNat - 48 by omega]
theorem dig_mem {c : UInt8} {r : List UInt8} (h : (c :: r).all K.dig = true) : (48 ≤ c.toNat ∧ c.toNat ≤ 57) ∧ r.all K.dig = true := by
  rw [List.all_cons, Bool.and_eq_true] at h
  exact ⟨by have := h.1; unfold K.dig at this; simpa using this, h.2⟩
theorem parseM_ok : ∀ (l : List UInt8) (acc : Nat), l.all K.dig = true → (acc + 1) * 10 ^ l.length ≤ 1000000000000000000 → Lib.parseUintM 18446744073709551615 acc l = .ok (acc * 10 ^ l.length + K.dv l)
  | [], acc, _, _ => by rw [Lib.parseUintM, K.dv_nil]; simp
  | c :: r, acc, hd, hb => by
    obtain ⟨hc, hr⟩ := dig_mem hd
    have hp : 1 ≤ 10 ^ r.length := Nat.pow_pos (by omega)
    have e : (acc + 1) * 10 ^ (c :: r).length = ((acc + 1) * 10) * 10 ^ r.length := by rw [List.length_cons, Nat.pow_succ, Nat.mul_comm (10 ^ r.length) 10, Nat.mul_assoc]
    rw [e] at hb
    have h1 : (acc + 1) * 10 ≤ 1000000000000000000 := Nat.le_trans (Nat.le_mul_of_pos_right _ hp) hb
    rw [Lib.parseUintM, if_pos hc, if_neg (by omega), if_neg (by omega)]
    have h2 : (acc * 10 + (c.toNat - 48) + 1) * 10 ^ r.length ≤ 1000000000000000000 := Nat.le_trans (Nat.mul_le_mul_right _ (by omega)) hb
    rw [parseM_ok r _ hr h2, dv_cons, List.length_cons, Nat.pow_succ, Nat.add_mul, Nat.mul_assoc, Nat.mul_comm 10 (10 ^ r.length), Nat.mul_comm (c.toNat - 48)]
    congr 1
    omega
theorem decFrom_ok : ∀ (l : List UInt8) (acc : Nat), l.all K.dig = true → Lib.decFrom acc l = some (acc * 10 ^ l.length + K.dv l)
  | [], acc, _ => by rw [Lib.decFrom, K.dv_nil]; simp
  | c :: r, acc, hd => by
    obtain ⟨hc, hr⟩ := dig_mem hd
    rw [Lib.decFrom]
    have e : Lib.digitVal c = some (c.toNat - 48) := by unfold Lib.digitVal; rw [if_pos hc]
    rw [e]
    show Lib.decFrom (acc * 10 + (c.toNat - 48)) r = _
    rw [decFrom_ok r _ hr, dv_cons, List.length_cons, Nat.pow_succ, Nat.add_mul, Nat.mul_assoc, Nat.mul_comm 10 (10 ^ r.length), Nat.mul_comm (c.toNat - 48)]
    congr 1
    omega
/-- a valid text, by its sign -/
theorem valid_shape {l : List UInt8} (h : K.validL l = true) : (∃ r, l = 45 :: r ∧ r.all K.dig = true ∧ 0 < r.length ∧ K.numL l = -(K.dv r : Int)) ∨ (∃ c r, l = c :: r ∧ 48 ≤ c.toNat ∧ c.toNat ≤ 57 ∧ (c :: r).all K.dig = true ∧ K.numL l = (K.dv (c :: r) : Int)) := by
  obtain ⟨hd, -, hpos⟩ := body_all h
  cases l with
  | nil => cases h
  | cons c r =>
    by_cases hc : c = 45
    · subst hc
      have hb : K.body (45 :: r) = r := rfl
      rw [hb] at hd hpos
      exact .inl ⟨r, rfl, hd, hpos, rfl⟩
    · have hh : ¬ (c :: r).head? = some 45 := by simpa using hc
      have hb : K.body (c :: r) = c :: r := by unfold K.body; rw [if_neg hh]
      rw [hb] at hd
      obtain ⟨h1, -⟩ := dig_mem hd
      exact .inr ⟨c, r, rfl, h1.1, h1.2, hd, by unfold K.numL; rw [if_neg hh]⟩
theorem parse64_ok {l : List UInt8} (h : K.validL l = true) (hl : l.length ≤ 17) : Lib.parseIntB 64 l = .ok (K.numL l) := by
  have hp : ∀ r : List UInt8, r.all K.dig = true → r.length ≤ 17 → K.dv r < 1000000000000000000 ∧ (0 + 1) * 10 ^ r.length ≤ 1000000000000000000 := by
    intro r hr hlr
    have h1 := K.dv_lt r hr
    have h2 : 10 ^ r.length ≤ 10 ^ 17 := Nat.pow_le_pow_right (by omega) hlr
    omega
  rcases valid_shape h with ⟨r, rfl, hr, h0, hn⟩ | ⟨c, r, rfl, h1, h2, hr, hn⟩
  · obtain ⟨h3, h4⟩ := hp r hr (by rw [List.length_cons] at hl; omega)
    have hne : r ≠ [] := List.length_pos_iff.1 h0
    have e : Lib.parseUintB 64 r = .ok (K.dv r) := by
      unfold Lib.parseUintB
      rw [if_neg hne]
      have := parseM_ok r 0 hr h4
      rw [Nat.zero_mul, Nat.zero_add] at this
      exact this
    rw [hn]
    show Lib.parseIntB 64 (45 :: r) = _
    unfold Lib.parseIntB
    simp only [e, show (45 : UInt8).toNat = 45 from rfl]
    rw [if_pos (.inr trivial), e]
    show (if ¬True ∧ 2 ^ (64 - 1) ≤ K.dv r then Lib.NumEnd.range else if True ∧ 2 ^ (64 - 1) < K.dv r then Lib.NumEnd.range else Lib.NumEnd.ok (if True then -(K.dv r : Int) else (K.dv r : Int))) = _
    have p63 : (2 : Nat) ^ (64 - 1) = 9223372036854775808 := rfl
    rw [p63, if_neg (by simp), if_neg (by simp; omega), if_pos trivial]
  · obtain ⟨h3, h4⟩ := hp (c :: r) hr hl
    have e : Lib.parseUintB 64 (c :: r) = .ok (K.dv (c :: r)) := by
      unfold Lib.parseUintB
      rw [if_neg (by simp)]
      have := parseM_ok (c :: r) 0 hr h4
      rw [Nat.zero_mul, Nat.zero_add] at this
      exact this
    rw [hn]
    unfold Lib.parseIntB
    have n1 : ¬ (c.toNat = 43 ∨ c.toNat = 45) := by omega
    have n2 : ¬ c.toNat = 45 := by omega
    simp only [n2]
    rw [if_neg (by simp; omega), e]
    show (if ¬False ∧ 2 ^ (64 - 1) ≤ K.dv (c :: r) then Lib.NumEnd.range else if False ∧ 2 ^ (64 - 1) < K.dv (c :: r) then Lib.NumEnd.range else Lib.NumEnd.ok (if False then -(K.dv (c :: r) : Int) else (K.dv (c :: r) : Int))) = _
    have p63 : (2 : Nat) ^ (64 - 1) = 9223372036854775808 := rfl
    rw [p63, if_neg (by simp; omega), if_neg (by simp), if_neg (by simp)]
theorem atoi_ok {l : List UInt8} (h : K.validL l = true) : Lib.atoi l = some (K.numL l) := by
  rcases valid_shape h with ⟨r, rfl, hr, h0, hn⟩ | ⟨c, r, rfl, h1, h2, hr, hn⟩
  · have hne : r.isEmpty = false := by cases r with
      | nil => simp at h0
      | cons => rfl
    rw [hn]
    unfold Lib.atoi Lib.decNat
    simp [hne, decFrom_ok r 0 hr]
  · rw [hn]
    have n1 : (c == 45) = false := by rw [beq_eq_false_iff_ne]; intro e; subst e; simp at h1
    have n2 : (c == 43) = false := by rw [beq_eq_false_iff_ne]; intro e; subst e; simp at h1
    unfold Lib.atoi Lib.decNat
    simp [n1, n2, decFrom_ok (c :: r) 0 hr]
theorem data_Str (l : List UInt8) : (Str l).data.toList = l := by simp [Str]
theorem itoa_any (n : Int) (w : World) (h0 : -9223372036854775808 ≤ n) (h1 : n ≤ 9223372036854775807) (ht : Tab w) :
    Calls Tryz.prog 124 #[.int .i64 n] w (StrPost (K.txt n) w) := by
  refine (ShelfB.l_strconv_Itoa n h0 h1 w ht).mono ?_
  rintro e w' ⟨rfl, k, os, rfl⟩
  exact ⟨by rw [itoa_txt]; rfl, Lib.below_grow _ _ (Nat.le_refl _) _ _⟩
theorem format_any (n : Int) (w : World) (h0 : -9223372036854775808 ≤ n) (h1 : n ≤ 9223372036854775807) (ht : Tab w) :
    Calls Tryz.prog 138 #[.int .i64 n, .int .i64 10] w (StrPost (K.txt n) w) := by
  refine (ShelfB.l_strconv_FormatInt_10 n h0 h1 w ht).mono ?_
  rintro e w' ⟨rfl, k, os, rfl⟩
  exact ⟨by rw [itoa_txt]; rfl, Lib.below_grow _ _ (Nat.le_refl _) _ _⟩
theorem parse64_any (l : List UInt8) (w : World) (hv : K.validL l = true) (hl : l.length ≤ 17) :
    Calls Tryz.prog 244 #[.string (Str l), .int .i64 10, .int .i64 64] w (fun e w' => e = .returned (.tuple #[.int .i64 (K.numL l), .nilIface]) ∧ Ext w w') := by
  refine (ShelfB.l_strconv_ParseInt_10_at64_ok (Str l) (by rw [Str_size]; omega) (K.numL l) (by rw [data_Str]; exact parse64_ok hv hl) w).mono ?_
  rintro e w' ⟨rfl, h⟩
  refine ⟨rfl, ?_⟩
  rcases h with rfl | ⟨t, rfl⟩
  · exact Ext.rfl' _
  · exact Lib.bytesWorld_below _ _ _
theorem atoi_any (l : List UInt8) (w : World) (hv : K.validL l = true) (hl : l.length ≤ 17) :
    Calls Tryz.prog 245 #[.string (Str l)] w (fun e w' => e = .returned (.tuple #[.int .i64 (K.numL l), .nilIface]) ∧ Ext w w') := by
  refine (ShelfB.l_strconv_Atoi (Str l) (K.numL l) (by rw [Str_size]; omega) (by rw [data_Str]; exact atoi_ok hv) w).mono ?_
  rintro e w' ⟨rfl, t, rfl⟩
  exact ⟨rfl, Lib.bytesWorld_below _ _ _⟩
end Go.Proofs.YtleccblkafcidaaGreatDoor
/- the reference's trim -/
namespace Go.Proofs.YtleccblkafcidaaGreatDoor
open Go.RowKit
/-- a number of the reference's -/
def RefV (w : World) (v : Value) (n : Int) : Prop :=
  ∃ A k c xs b, v = .agg #[.bool b, .slice A k c] ∧ Hid (b = decide (n < 0)) ∧ xs.length = k ∧ k ≤ c ∧ Rd w A (I64s xs) ∧ K.Lim xs ∧ K.lv xs = n.natAbs
theorem RefV.ext {w w' : World} {v : Value} {n : Int} (h : RefV w v n) (e : Ext w w') : RefV w' v n := by
  obtain ⟨A, k, c, xs, b, h1, h2, h3, h4, h5, h6⟩ := h
  exact ⟨A, k, c, xs, b, h1, h2, h3, h4, h5.ext e, h6⟩
def RefPost (n : Int) (w : World) (e : Ending) (w' : World) : Prop := ∃ v, e = .returned v ∧ RefV w' v n ∧ Ext w w'
/-- what trim leaves -/
def RTrimPost (neg : Bool) (A : Option Addr) (c : Nat) (xs : List Nat) (w : World) (e : Ending) (w' : World) : Prop :=
  ∃ k b, k ≤ xs.length ∧ e = .returned (.agg #[.bool b, .slice A k c]) ∧ Hid (b = (neg && decide (0 < k))) ∧ Cut xs (xs.take k) ∧ Ext w w'
set_option maxRecDepth 100000 in
set_option maxHeartbeats 800000 in
theorem rtrim_any (neg : Bool) (A : Option Addr) (c n : Nat) (xs : List Nat) (w : World) (ha : Rd w A (I64s xs)) (ln : xs.length = n) (hn : n ≤ 1000000) (hc : n ≤ c) :
    Calls Tryz.prog 80 #[.bool neg, .slice A n c] w (RTrimPost neg A c xs w) := by
  have LN := hid ln
  clear ln
  have HA := hid ha
  clear ha
  go_enter Tryz.func80, Tryz.ntmps80
  go_wp2_with fail
  generalize hW0 : w.alloc (.cells #[.bool false, .slice none 0 0] 47) = W0
  have hE : Ext w W0 := by rw [← hW0]; exact (Ext.rfl' w).alloc' _
  have hR : Row W0 w.heap.size 47 [.bool false, .slice none 0 0] := by rw [← hW0]; exact Row.new w _ _
  have hA := hid (HA.out.ext hE)
  clear hW0
  go_loopw [5] (fun a wr => ∃ k : Nat, k ≤ n ∧ a = .int .i64 (k : Int) ∧ Hid (K.lv (xs.take k) = K.lv xs) ∧ Drew W0 wr) (fun a _ => (intOf a).toNat)
  case atStart => exact ⟨n, Nat.le_refl _, rfl, hid (by rw [List.take_of_length_le (by rw [LN.out]; omega)]), Drew.rfl' W0⟩
  case round =>
    obtain ⟨k, hk, rfl, HL, hwr⟩ := hrel
    have hr := hR.ext hwr.ext
    have c0 : wr.cell? ⟨w.heap.size, 0, none⟩ = some (.bool false) := hr.cell 0
    have c1 : wr.cell? ⟨w.heap.size, 1, none⟩ = some (.slice none 0 0) := hr.cell 1
    have f0 := hr.free 0
    have f1 := hr.free 1
    have hfin : ∀ b, Hid (b = (neg && decide (0 < k))) → Hid (k = 0 ∨ (xs.take k).getLast? ≠ some 0) → RTrimPost neg A c xs w (.returned (.agg #[.bool b, .slice A k c])) ((wr.setCell ⟨w.heap.size, 0, none⟩ (.bool b)).setCell ⟨w.heap.size, 1, none⟩ (.slice A k c)) := by
      intro b hb hl
      exact ⟨k, b, by rw [LN.out]; exact hk, rfl, hb, ⟨k, rfl, HL.out, by rcases hl.out with h | h; (subst h; simp); exact h⟩, ((hE.step hwr.ext).set' (Nat.le_refl _) _).set' (Nat.le_refl _) _⟩
    by_cases h0 : k = 0
    · subst h0
      have HF := hid (hfin false (hid (by simp)) (hid (.inl rfl)))
      clear hfin
      cases neg with
      | false =>
        go_wp2
        refine bodyPost_ret (v := .agg #[.bool false, .slice A 0 c]) (by simp [results, Tryz.results80, go_sem, c0, c1]) rfl HF.out
      | true =>
        go_wp2
        refine bodyPost_ret (v := .agg #[.bool false, .slice A 0 c]) (by simp [results, Tryz.results80, go_sem, c0, c1]) rfl HF.out
    · obtain ⟨j, rfl⟩ : ∃ j, k = j + 1 := ⟨k - 1, by omega⟩
      obtain ⟨b, o, x, eA, ex, hb, hx⟩ := (hA.out.drew hwr).at_ (k := j) (by rw [LN.out]; omega)
      subst eA
      have HX := hid ex
      clear ex h0
      by_cases hx0 : x = 0
      · subst hx0
        clear hfin
        go_wp2
        go_roundw
        case rel => exact ⟨j, by omega, by simp, hid (by rw [← HL.out, lv_take_zero xs j HX.out]), hwr⟩
        case measure => simp [intOf]
      · have HF := hid (hfin neg (hid (by simp)) (hid (.inr (by
          obtain ⟨hj, e⟩ := List.getElem?_eq_some_iff.1 HX.out
          rw [List.take_succ_eq_append_getElem hj, e]
          simpa using hx0))))
        clear hfin
        cases neg with
        | false =>
          go_wp2
          refine bodyPost_ret (v := .agg #[.bool false, .slice (some ⟨b, o, none⟩) (j + 1) c]) (by simp [results, Tryz.results80, go_sem, c0, c1]) rfl HF.out
        | true =>
          go_wp2
          refine bodyPost_ret (v := .agg #[.bool true, .slice (some ⟨b, o, none⟩) (j + 1) c]) (by simp [results, Tryz.results80, go_sem, c0, c1]) rfl HF.out
end Go.Proofs.YtleccblkafcidaaGreatDoor
/- the reference's Parse and Sign -/
namespace Go.Proofs.YtleccblkafcidaaGreatDoor
open Go.RowKit
/-- one group more -/
theorem seg_step (l : List UInt8) (f E j : Nat) (hf : f < E) (hE : E + 9 * j = l.length) :
    K.dv (l.drop (max f (E - 9))) = K.dv (l.drop E) + 1000000000 ^ j * K.dv ((l.take E).drop (max f (E - 9))) := by
  have h : l.drop (max f (E - 9)) = (l.take E).drop (max f (E - 9)) ++ l.drop E := by
    conv => lhs; rw [← List.take_append_drop E l]
    rw [List.drop_append_of_le_length (by rw [List.length_take]; omega)]
  rw [h, K.dv_append, List.length_drop, show l.length - E = 9 * j by omega, pow9]
theorem seg_digit (l : List UInt8) (s i : Nat) (c : UInt8) (hs : s ≤ i) (hc : l[i]? = some c) : K.dv ((l.take (i + 1)).drop s) = (c.toNat - 48) + 10 * K.dv ((l.take i).drop s) := by
  obtain ⟨hi, e⟩ := List.getElem?_eq_some_iff.1 hc
  rw [List.take_succ_eq_append_getElem hi, List.drop_append_of_le_length (by rw [List.length_take]; omega), e, K.dv_snoc]
theorem seg_lt (l : List UInt8) (f s i k : Nat) (hd : (l.drop f).all K.dig = true) (hs : f ≤ s) (hk : i - s ≤ k) : K.dv ((l.take i).drop s) < 10 ^ k := by
  have h1 := K.dv_lt ((l.take i).drop s) (by
    rw [List.all_eq_true] at hd ⊢
    intro x hx
    apply hd
    rw [List.mem_iff_getElem?] at hx ⊢
    obtain ⟨j, hj⟩ := hx
    rw [List.getElem?_drop, List.getElem?_take] at hj
    split at hj
    · exact ⟨s - f + j, by rw [List.getElem?_drop, ← hj]; congr 1; omega⟩
    · cases hj)
  exact Nat.lt_of_lt_of_le h1 (Nat.pow_le_pow_right (by omega) (by rw [List.length_drop, List.length_take]; omega))
theorem dig_at {l : List UInt8} {f i : Nat} {c : UInt8} (hd : (l.drop f).all K.dig = true) (hf : f ≤ i) (hc : l[i]? = some c) : 48 ≤ c.toNat ∧ c.toNat ≤ 57 := by
  rw [List.all_eq_true] at hd
  have := hd c (by rw [List.mem_iff_getElem?]; exact ⟨i - f, by rw [List.getElem?_drop, ← hc]; congr 1; omega⟩)
  unfold K.dig at this
  simpa using this
theorem lv_snoc (xs : List Nat) (x : Nat) : K.lv (xs ++ [x]) = K.lv xs + 1000000000 ^ xs.length * x := by
  rw [K.lv_append]; simp [K.lv]
set_option maxRecDepth 100000 in
set_option maxHeartbeats 3200000 in
theorem parse_neg (l : List UInt8) (n : Int) (w : World) (hl : l.length ≤ 2001) (hf : 1 < l.length) (h0 : 0 < (Str l).size) (hc : ((((Str l)[0]'h0).toNat : Int) == 45) = true) (hd : Hid ((l.drop 1).all K.dig = true)) (hv : Hid (K.dv (l.drop 1) = n.natAbs)) (hn : Hid (n < 0)) :
    Calls Tryz.prog 25 #[.string (Str l)] w (RefPost n w) := by
  have hS := Str_size l
  obtain ⟨i0, hi, hz0, hz1, hz2⟩ := info_parts infoI
  go_enter Tryz.func25, Tryz.ntmps25
  go_wp2_with fail
  generalize hW0 : w.alloc (.cells #[.bool false, .slice none 0 0] 47) = W0
  have hE : Ext w W0 := by rw [← hW0]; exact (Ext.rfl' w).alloc' _
  have hR : Row W0 w.heap.size 47 [.bool false, .slice none 0 0] := by rw [← hW0]; exact Row.new w _ _
  clear hW0
  generalize (Str l)[0]'h0 = x0 at *
  clear h0 hc
  go_loopw [5, 6] (fun v z wr => ∃ (j : Nat) (q : Int) (xs : List Nat) (A : Option Addr) (c : Nat), v = .slice A j c ∧ z = .int .i64 q ∧ q + 9 * (j : Int) = (l.length : Int) ∧ 1 - 9 < q ∧ wr.ownsRow W0.heap.size 3 1 (.slice A j c) j (I64s xs) ∧ Ext W0 wr ∧ W0.heap.size ≤ wr.heap.size ∧
      Hid (xs.length = j ∧ K.lv xs = K.dv (l.drop (max 1 q.toNat)) ∧ (∀ x ∈ xs, x < 1000000000))) (fun _ z _ => (intOf z + 9).toNat)
  case atStart =>
    exact ⟨0, (l.length : Int), [], none, 0, rfl, rfl, by omega, by omega, World.ownsRow_nil _ _ _ _, Ext.rfl' _, Nat.le_refl _, hid ⟨rfl, by rw [List.drop_of_length_le (by omega)]; rfl, by simp⟩⟩
  case round =>
    obtain ⟨j, q, xs, A, c, rfl, rfl, hq, hq2, hown, hex, hsz, hxs⟩ := hrel
    have HOWN := hid hown
    clear hown
    by_cases hlt : (1 : Int) < q
    · obtain ⟨E, rfl⟩ : ∃ E : Nat, q = (E : Int) := ⟨q.toNat, by omega⟩
      have hltN : 1 < E := by omega
      obtain ⟨S, hSd⟩ : ∃ S : Nat, S = max 1 (E - 9) := ⟨_, rfl⟩
      have hmax : max (1 : Int) ((E : Int) - 9) = (S : Int) := by omega
      have hS1 : 1 ≤ S := by omega
      have hS2 : S < E := by omega
      have hS3 : E - S ≤ 9 := by omega
      have HSD := hid hSd
      have HEl : E ≤ l.length := by omega
      clear hSd
      go_wp2_with fail
      try simp only [hmax]
      clear hmax
      have hq' := hid hq
      clear hq
      go_loop [7, 8] (fun part i => ∃ k p : Nat, S ≤ k ∧ k ≤ E ∧ i = .int .i64 (k : Int) ∧ part = .int .i64 (p : Int) ∧ Hid (p = K.dv ((l.take k).drop S))) (fun _ i => E - (intOf i).toNat)
      case atStart => exact ⟨S, 0, Nat.le_refl _, by omega, rfl, rfl, hid (by rw [List.drop_of_length_le (by rw [List.length_take]; omega)]; rfl)⟩
      case round =>
        obtain ⟨k, p, hk1, hk2, rfl, rfl, hp⟩ := hrel
        by_cases hk : k < E
        · obtain ⟨x, ex⟩ : ∃ x, l[k]? = some x := ⟨_, List.getElem?_eq_getElem (by omega)⟩
          obtain ⟨hh, e0⟩ := Str_at ex
          have hdx := dig_at hd.out (by omega) ex
          have HP := hid (seg_digit l S k x hk1 ex)
          have hpb : p < 100000000 := by
            rw [hp.out]
            exact seg_lt l 1 S k 8 hd.out hS1 (by omega)
          have hx1 : 48 ≤ ((Str l)[k]'hh).toNat := by rw [e0]; exact hdx.1
          have hx2 : ((Str l)[k]'hh).toNat ≤ 57 := by rw [e0]; exact hdx.2
          have HE0 := hid e0
          clear ex hdx e0
          go_wp2
          go_round
          case rel =>
            refine ⟨k + 1, K.dv ((l.take (k + 1)).drop S), by omega, by omega, by simp, ?_, hid rfl⟩
            rw [HP.out, ← hp.out, ← HE0.out]
            first | done | (congr 1; omega) | skip
          case measure => simp [intOf]; omega
        · obtain rfl : k = E := by omega
          go_wp2_with (at_builtin; refine wpList_append_own _ rfl _ _ 22 rfl W0.heap.size 3 i0 (.int .i64 0) 1 8 Tryz.underlying22 hi hz0 hz1 hz2 rfl (by decide) _ _ _ rfl (HOWN.out.alloc _) ⟨wr.heap.size, 0, none⟩ 1 1 [.int .i64 (p : Int)] rfl rfl (cell_one_new _ _ _) (fun u hu => by simp at hu; subst hu; rfl) ?c1 ?c2 ?c3 ?_)
          case c1 => have := hq'.out; unfold maxLen; omega
          case c2 => have := hq'.out; omega
          case c3 => first | omega | (simp; omega)
          intro v' w1 hown' hgrow hnil
          obtain ⟨g, cap, sp, rfl, hg, hc1, hc2, hrow1, hvl, hsl⟩ := own_form hown' (by omega)
          have hex' : Ext W0 w1 := (hex.alloc' _).grown hgrow (by simp; omega) (by
            intro k hk
            exact (HOWN.out.lt k hk).1)
          have hsz' : W0.heap.size ≤ w1.heap.size := hex'.size
          have HO := hid hown'
          clear hown' hgrow hnil hrow1 hvl hsl hg hc1 hc2
          go_wp2
          go_roundw
          case rel =>
            have hq := hq'.out
            refine ⟨j + 1, (k : Int) - 9, xs ++ [p], _, _, rfl, rfl, by omega, by omega, by simpa using HO.out, hex', hsz', hid ⟨by simp [hxs.out.1], ?_, ?_⟩⟩
            · rw [lv_snoc, hxs.out.1, hxs.out.2.1, hp.out, show max 1 ((k : Int)).toNat = k by omega, show max 1 ((k : Int) - 9).toNat = max 1 (k - 9) by omega, seg_step l 1 k j (by omega) (by omega), HSD.out]
            · intro y hy
              rcases List.mem_append.1 hy with h | h
              · exact hxs.out.2.2 y h
              · obtain rfl : y = p := by simpa using h
                rw [hp.out]
                exact seg_lt l 1 S k 9 hd.out hS1 (by omega)
          case measure => simp [intOf]; omega
    · have hneg : true = decide (n < 0) := (decide_eq_true hn.out).symm
      have hjc : j ≤ c := by
        rcases HOWN.out.2 with ⟨h, h0⟩ | ⟨g, cap, cur, h, hg, hh, hc, _⟩
        · injection h with h1 h2 h3; omega
        · injection h with h1 h2 h3; omega
      have hrd := Rd.of_own HOWN.out
      have hxl := hid hxs.out.1
      have hlim := hid hxs.out.2.2
      have hval : Hid (K.lv xs = n.natAbs) := hid (by rw [hxs.out.2.1, show max 1 q.toNat = 1 by omega]; exact hv.out)
      have hj : j ≤ 1000000 := by omega
      have HJ := hid hj
      have HRD := hid hrd
      have HNEG := hid hneg
      clear hq hxs hrd hj hneg HOWN hf hl
      go_wp2_with fail
      refine (rtrim_any true A c j xs wr HRD.out hxl.out HJ.out hjc).mono ?_
      rintro e w1 ⟨k, b, hk, rfl, hb, hcut, hx⟩
      have hr := (hR.ext hex).ext hx
      have c0 : w1.cell? ⟨w.heap.size, 0, none⟩ = some (.bool false) := hr.cell 0
      have c1 : w1.cell? ⟨w.heap.size, 1, none⟩ = some (.slice none 0 0) := hr.cell 1
      have f0 := hr.free 0
      have f1 := hr.free 1
      have hfin : RefPost n w (.returned (.agg #[.bool b, .slice A k c])) ((w1.setCell ⟨w.heap.size, 0, none⟩ (.bool b)).setCell ⟨w.heap.size, 1, none⟩ (.slice A k c)) := by
        refine ⟨_, rfl, ⟨A, k, c, xs.take k, b, rfl, ?_, by rw [List.length_take]; omega, by have := hxl.out; omega, ?_, hcut.lim hlim.out, by rw [hcut.lv, hval.out]⟩, (((hE.step hex).step hx).set' (Nat.le_refl _) _).set' (Nat.le_refl _) _⟩
        · refine hid ?_
          rw [hb.out, Bool.true_and]
          have h := hcut.lv
          rw [hval.out] at h
          have h2 := hn.out
          by_cases hk0 : k = 0
          · subst hk0
            simp [K.lv] at h
            first | (exfalso; omega) | simp; omega
          · simp; omega
        · rw [show I64s (xs.take k) = (I64s xs).take k from List.map_take ..]
          refine Rd.two ((HRD.out.ext hx).take k) ?_ hr
          intro u hu
          obtain ⟨y, _, rfl⟩ := List.mem_map.1 (List.mem_of_mem_take hu)
          exact ⟨_, _, rfl⟩
      have HF := hid hfin
      clear hfin hb hcut hx hr hk
      go_wp2
      refine bodyPost_ret (v := .agg #[.bool b, .slice A k c]) (by simp [results, Tryz.results25, go_sem, c0, c1]) rfl HF.out
set_option maxRecDepth 100000 in
set_option maxHeartbeats 3200000 in
theorem parse_pos (l : List UInt8) (n : Int) (w : World) (hl : l.length ≤ 2001) (hf : 0 < l.length) (h0 : 0 < (Str l).size) (hc : ((((Str l)[0]'h0).toNat : Int) == 45) = false) (hd : Hid ((l.drop 0).all K.dig = true)) (hv : Hid (K.dv (l.drop 0) = n.natAbs)) (hn : Hid (0 ≤ n)) :
    Calls Tryz.prog 25 #[.string (Str l)] w (RefPost n w) := by
  have hS := Str_size l
  obtain ⟨i0, hi, hz0, hz1, hz2⟩ := info_parts infoI
  go_enter Tryz.func25, Tryz.ntmps25
  go_wp2_with fail
  generalize hW0 : w.alloc (.cells #[.bool false, .slice none 0 0] 47) = W0
  have hE : Ext w W0 := by rw [← hW0]; exact (Ext.rfl' w).alloc' _
  have hR : Row W0 w.heap.size 47 [.bool false, .slice none 0 0] := by rw [← hW0]; exact Row.new w _ _
  clear hW0
  generalize (Str l)[0]'h0 = x0 at *
  clear h0 hc
  go_loopw [5, 6] (fun v z wr => ∃ (j : Nat) (q : Int) (xs : List Nat) (A : Option Addr) (c : Nat), v = .slice A j c ∧ z = .int .i64 q ∧ q + 9 * (j : Int) = (l.length : Int) ∧ 0 - 9 < q ∧ wr.ownsRow W0.heap.size 3 1 (.slice A j c) j (I64s xs) ∧ Ext W0 wr ∧ W0.heap.size ≤ wr.heap.size ∧
      Hid (xs.length = j ∧ K.lv xs = K.dv (l.drop (max 0 q.toNat)) ∧ (∀ x ∈ xs, x < 1000000000))) (fun _ z _ => (intOf z + 9).toNat)
  case atStart =>
    exact ⟨0, (l.length : Int), [], none, 0, rfl, rfl, by omega, by omega, World.ownsRow_nil _ _ _ _, Ext.rfl' _, Nat.le_refl _, hid ⟨rfl, by rw [List.drop_of_length_le (by omega)]; rfl, by simp⟩⟩
  case round =>
    obtain ⟨j, q, xs, A, c, rfl, rfl, hq, hq2, hown, hex, hsz, hxs⟩ := hrel
    have HOWN := hid hown
    clear hown
    by_cases hlt : (0 : Int) < q
    · obtain ⟨E, rfl⟩ : ∃ E : Nat, q = (E : Int) := ⟨q.toNat, by omega⟩
      have hltN : 0 < E := by omega
      obtain ⟨S, hSd⟩ : ∃ S : Nat, S = max 0 (E - 9) := ⟨_, rfl⟩
      have hmax : max (0 : Int) ((E : Int) - 9) = (S : Int) := by omega
      have hS1 : 0 ≤ S := by omega
      have hS2 : S < E := by omega
      have hS3 : E - S ≤ 9 := by omega
      have HSD := hid hSd
      have HEl : E ≤ l.length := by omega
      clear hSd
      go_wp2_with fail
      try simp only [hmax]
      clear hmax
      have hq' := hid hq
      clear hq
      go_loop [7, 8] (fun part i => ∃ k p : Nat, S ≤ k ∧ k ≤ E ∧ i = .int .i64 (k : Int) ∧ part = .int .i64 (p : Int) ∧ Hid (p = K.dv ((l.take k).drop S))) (fun _ i => E - (intOf i).toNat)
      case atStart => exact ⟨S, 0, Nat.le_refl _, by omega, rfl, rfl, hid (by rw [List.drop_of_length_le (by rw [List.length_take]; omega)]; rfl)⟩
      case round =>
        obtain ⟨k, p, hk1, hk2, rfl, rfl, hp⟩ := hrel
        by_cases hk : k < E
        · obtain ⟨x, ex⟩ : ∃ x, l[k]? = some x := ⟨_, List.getElem?_eq_getElem (by omega)⟩
          obtain ⟨hh, e0⟩ := Str_at ex
          have hdx := dig_at hd.out (by omega) ex
          have HP := hid (seg_digit l S k x hk1 ex)
          have hpb : p < 100000000 := by
            rw [hp.out]
            exact seg_lt l 0 S k 8 hd.out hS1 (by omega)
          have hx1 : 48 ≤ ((Str l)[k]'hh).toNat := by rw [e0]; exact hdx.1
          have hx2 : ((Str l)[k]'hh).toNat ≤ 57 := by rw [e0]; exact hdx.2
          have HE0 := hid e0
          clear ex hdx e0
          go_wp2
          go_round
          case rel =>
            refine ⟨k + 1, K.dv ((l.take (k + 1)).drop S), by omega, by omega, by simp, ?_, hid rfl⟩
            rw [HP.out, ← hp.out, ← HE0.out]
            first | done | (congr 1; omega) | skip
          case measure => simp [intOf]; omega
        · obtain rfl : k = E := by omega
          go_wp2_with (at_builtin; refine wpList_append_own _ rfl _ _ 22 rfl W0.heap.size 3 i0 (.int .i64 0) 1 8 Tryz.underlying22 hi hz0 hz1 hz2 rfl (by decide) _ _ _ rfl (HOWN.out.alloc _) ⟨wr.heap.size, 0, none⟩ 1 1 [.int .i64 (p : Int)] rfl rfl (cell_one_new _ _ _) (fun u hu => by simp at hu; subst hu; rfl) ?c1 ?c2 ?c3 ?_)
          case c1 => have := hq'.out; unfold maxLen; omega
          case c2 => have := hq'.out; omega
          case c3 => first | omega | (simp; omega)
          intro v' w1 hown' hgrow hnil
          obtain ⟨g, cap, sp, rfl, hg, hc1, hc2, hrow1, hvl, hsl⟩ := own_form hown' (by omega)
          have hex' : Ext W0 w1 := (hex.alloc' _).grown hgrow (by simp; omega) (by
            intro k hk
            exact (HOWN.out.lt k hk).1)
          have hsz' : W0.heap.size ≤ w1.heap.size := hex'.size
          have HO := hid hown'
          clear hown' hgrow hnil hrow1 hvl hsl hg hc1 hc2
          go_wp2
          go_roundw
          case rel =>
            have hq := hq'.out
            refine ⟨j + 1, (k : Int) - 9, xs ++ [p], _, _, rfl, rfl, by omega, by omega, by simpa using HO.out, hex', hsz', hid ⟨by simp [hxs.out.1], ?_, ?_⟩⟩
            · rw [lv_snoc, hxs.out.1, hxs.out.2.1, hp.out, show max 0 ((k : Int)).toNat = k by omega, show max 0 ((k : Int) - 9).toNat = max 0 (k - 9) by omega, seg_step l 0 k j (by omega) (by omega), HSD.out]
            · intro y hy
              rcases List.mem_append.1 hy with h | h
              · exact hxs.out.2.2 y h
              · obtain rfl : y = p := by simpa using h
                rw [hp.out]
                exact seg_lt l 0 S k 9 hd.out hS1 (by omega)
          case measure => simp [intOf]; omega
    · have hneg : false = decide (n < 0) := (decide_eq_false (by have := hn.out; omega)).symm
      have hjc : j ≤ c := by
        rcases HOWN.out.2 with ⟨h, h0⟩ | ⟨g, cap, cur, h, hg, hh, hc, _⟩
        · injection h with h1 h2 h3; omega
        · injection h with h1 h2 h3; omega
      have hrd := Rd.of_own HOWN.out
      have hxl := hid hxs.out.1
      have hlim := hid hxs.out.2.2
      have hval : Hid (K.lv xs = n.natAbs) := hid (by rw [hxs.out.2.1, show max 0 q.toNat = 0 by omega]; exact hv.out)
      have hj : j ≤ 1000000 := by omega
      have HJ := hid hj
      have HRD := hid hrd
      have HNEG := hid hneg
      clear hq hxs hrd hj hneg HOWN hf hl
      go_wp2_with fail
      refine (rtrim_any false A c j xs wr HRD.out hxl.out HJ.out hjc).mono ?_
      rintro e w1 ⟨k, b, hk, rfl, hb, hcut, hx⟩
      have hr := (hR.ext hex).ext hx
      have c0 : w1.cell? ⟨w.heap.size, 0, none⟩ = some (.bool false) := hr.cell 0
      have c1 : w1.cell? ⟨w.heap.size, 1, none⟩ = some (.slice none 0 0) := hr.cell 1
      have f0 := hr.free 0
      have f1 := hr.free 1
      have hfin : RefPost n w (.returned (.agg #[.bool b, .slice A k c])) ((w1.setCell ⟨w.heap.size, 0, none⟩ (.bool b)).setCell ⟨w.heap.size, 1, none⟩ (.slice A k c)) := by
        refine ⟨_, rfl, ⟨A, k, c, xs.take k, b, rfl, ?_, by rw [List.length_take]; omega, by have := hxl.out; omega, ?_, hcut.lim hlim.out, by rw [hcut.lv, hval.out]⟩, (((hE.step hex).step hx).set' (Nat.le_refl _) _).set' (Nat.le_refl _) _⟩
        · refine hid ?_
          rw [hb.out, Bool.false_and]
          have h := hcut.lv
          rw [hval.out] at h
          have h2 := hn.out
          by_cases hk0 : k = 0
          · subst hk0
            simp [K.lv] at h
            first | (exfalso; omega) | simp; omega
          · simp; omega
        · rw [show I64s (xs.take k) = (I64s xs).take k from List.map_take ..]
          refine Rd.two ((HRD.out.ext hx).take k) ?_ hr
          intro u hu
          obtain ⟨y, _, rfl⟩ := List.mem_map.1 (List.mem_of_mem_take hu)
          exact ⟨_, _, rfl⟩
      have HF := hid hfin
      clear hfin hb hcut hx hr hk
      go_wp2
      refine bodyPost_ret (v := .agg #[.bool b, .slice A k c]) (by simp [results, Tryz.results25, go_sem, c0, c1]) rfl HF.out
end Go.Proofs.YtleccblkafcidaaGreatDoor
/- the reference's part and more -/
namespace Go.Proofs.YtleccblkafcidaaGreatDoor
open Go.RowKit
set_option maxRecDepth 100000 in
theorem part_any (A : Option Addr) (n c : Nat) (xs : List Nat) (j : Nat) (w : World) (ha : Rd w A (I64s xs)) (ln : xs.length = n) :
    Calls Tryz.prog 82 #[.slice A n c, .int .i64 (j : Int)] w (fun e w' => e = .returned (.int .i64 ((xs.getD j 0 : Nat) : Int)) ∧ w = w') := by
  by_cases hj : j < n
  · obtain ⟨b, o, x, eA, ex, hb, hx⟩ := ha.at_ (k := j) (by omega)
    subst eA
    have hd : Hid (xs.getD j 0 = x) := hid (by rw [List.getD_eq_getElem?_getD, ex]; rfl)
    clear ex ha ln hb
    go_enter Tryz.func82, Tryz.ntmps82
    go_wp2
    go_ret
    exact ⟨by rw [hd.out]; rfl, rfl⟩
  · have hd : Hid (xs.getD j 0 = 0) := hid (by rw [List.getD_eq_getElem?_getD, List.getElem?_eq_none (by omega)]; rfl)
    clear ha ln
    go_enter Tryz.func82, Tryz.ntmps82
    go_wp2
    go_ret
    exact ⟨by rw [hd.out]; rfl, rfl⟩
theorem part_at {x : Nat} (A : Option Addr) (n c : Nat) (xs : List Nat) (j : Nat) (w : World) (ha : Rd w A (I64s xs)) (ln : xs.length = n) (hx : Hid (xs.getD j 0 = x)) :
    Calls Tryz.prog 82 #[.slice A n c, .int .i64 (j : Int)] w (fun e w' => e = .returned (.int .i64 (x : Int)) ∧ w = w') := by
  rw [← hx.out]; exact part_any A n c xs j w ha ln
theorem lv_getD (xs : List Nat) (j : Nat) : K.lv (xs.drop j) = xs.getD j 0 + 1000000000 * K.lv (xs.drop (j + 1)) := by
  by_cases hj : j < xs.length
  · have ex := List.getElem?_eq_getElem hj
    rw [drop_at ex, List.getD_eq_getElem?_getD, ex]; rfl
  · rw [List.drop_of_length_le (by omega), List.drop_of_length_le (by omega), List.getD_eq_getElem?_getD, List.getElem?_eq_none (by omega)]; rfl
theorem getD_lt {xs : List Nat} (h : ∀ x ∈ xs, x < 1000000000) (j : Nat) : xs.getD j 0 < 1000000000 := by
  rw [List.getD_eq_getElem?_getD]
  by_cases hj : j < xs.length
  · rw [List.getElem?_eq_getElem hj]; exact h _ (List.getElem_mem hj)
  · rw [List.getElem?_eq_none (by omega)]; simp
/-- a list of parts in memory, not yet trimmed -/
def Parts (n : Nat) (w : World) (e : Ending) (w' : World) : Prop :=
  ∃ A k c zs, e = .returned (.slice A k c) ∧ zs.length = k ∧ k ≤ c ∧ k ≤ 100002 ∧ Rd w' A (I64s zs) ∧ (∀ z ∈ zs, z < 1000000000) ∧ K.lv zs = n ∧ Ext w w'
set_option maxRecDepth 100000 in
set_option maxHeartbeats 3200000 in
theorem more_any (A B : Option Addr) (k1 c1 k2 c2 : Nat) (xs ys : List Nat) (w : World) (ha : Rd w A (I64s xs)) (hb : Rd w B (I64s ys)) (la : xs.length = k1) (lb : ys.length = k2)
    (hx : ∀ x ∈ xs, x < 1000000000) (hy : ∀ y ∈ ys, y < 1000000000) (b1 : k1 ≤ 100000) (b2 : k2 ≤ 100000) :
    Calls Tryz.prog 83 #[.slice A k1 c1, .slice B k2 c2] w (Parts (K.lv xs + K.lv ys) w) := by
  obtain ⟨i0, hi, hz0, hz1, hz2⟩ := info_parts infoI
  have HA := hid ha
  have HB := hid hb
  have LA := hid la
  have LB := hid lb
  have HX := hid hx
  have HY := hid hy
  obtain ⟨mx, hmx⟩ : ∃ mx, mx = max k1 k2 := ⟨_, rfl⟩
  have m1 : k1 ≤ mx := by omega
  have m2 : k2 ≤ mx := by omega
  have m3 : mx ≤ 100000 := by omega
  clear ha hb la lb hx hy hmx
  go_enter Tryz.func83, Tryz.ntmps83
  go_wp2_with fail
  go_loopw [5, 6, 7] (fun v cz iz wr => ∃ (j cy : Nat) (zs : List Nat) (A3 : Option Addr) (c3 : Nat), v = .slice A3 j c3 ∧ cz = .int .i64 (cy : Int) ∧ iz = .int .i64 (j : Int) ∧ j ≤ mx + 1 ∧ cy ≤ 1 ∧ wr.ownsRow w.heap.size 3 1 (.slice A3 j c3) j (I64s zs) ∧ Ext w wr ∧ w.heap.size ≤ wr.heap.size ∧
      Hid (zs.length = j ∧ K.lv zs + 1000000000 ^ j * (cy + K.lv (xs.drop j) + K.lv (ys.drop j)) = K.lv xs + K.lv ys ∧ (∀ z ∈ zs, z < 1000000000) ∧ (j = mx + 1 → cy = 0))) (fun _ _ iz _ => mx + 2 - (intOf iz).toNat)
  case atStart => exact ⟨0, 0, [], none, 0, rfl, rfl, rfl, by omega, by omega, World.ownsRow_nil _ _ _ _, Ext.rfl' _, Nat.le_refl _, hid ⟨rfl, by simp [K.lv], by simp, by omega⟩⟩
  case round =>
    obtain ⟨j, cy, zs, A3, c3, rfl, rfl, rfl, hj, hcy, hown, hex, hsz, hinv⟩ := hrel
    have HOWN := hid hown
    clear hown
    by_cases hgo : j < k1 ∨ j < k2 ∨ 0 < cy
    · obtain ⟨i1, i2, i3, i4⟩ := hinv.out
      have gx := getD_lt HX.out j
      have gy := getD_lt HY.out j
      have ex := lv_getD xs j
      have ey := lv_getD ys j
      obtain ⟨x, dx⟩ : ∃ x, xs.getD j 0 = x := ⟨_, rfl⟩
      obtain ⟨y, dy⟩ : ∃ y, ys.getD j 0 = y := ⟨_, rfl⟩
      rw [dx] at gx ex
      rw [dy] at gy ey
      have DX := hid dx
      have DY := hid dy
      clear dx dy
      have hjm : j ≤ mx := by
        rcases Nat.lt_or_ge mx j with h | h
        · have := i4 (by omega); omega
        · exact h
      have hj1 : j + 1 ≤ mx + 1 := by omega
      have hcy1 : (x + y + cy) / 1000000000 ≤ 1 := by omega
      have hlast : j + 1 = mx + 1 → (x + y + cy) / 1000000000 = 0 := by
        intro e
        have h1 : x = 0 := by rw [← DX.out, List.getD_eq_getElem?_getD, List.getElem?_eq_none (by rw [LA.out]; omega)]; rfl
        have h2 : y = 0 := by rw [← DY.out, List.getD_eq_getElem?_getD, List.getElem?_eq_none (by rw [LB.out]; omega)]; rfl
        rw [h1, h2]; omega
      have HINV : Hid ((zs ++ [(x + y + cy) % 1000000000]).length = j + 1 ∧ K.lv (zs ++ [(x + y + cy) % 1000000000]) + 1000000000 ^ (j + 1) * ((x + y + cy) / 1000000000 + K.lv (xs.drop (j + 1)) + K.lv (ys.drop (j + 1))) = K.lv xs + K.lv ys ∧ (∀ z ∈ zs ++ [(x + y + cy) % 1000000000], z < 1000000000) ∧ (j + 1 = mx + 1 → (x + y + cy) / 1000000000 = 0)) := by
        refine hid ⟨by simp [i1], ?_, ?_, hlast⟩
        · rw [lv_snoc, i1, ← i2, Nat.pow_succ, Nat.mul_assoc, Nat.add_assoc, ← Nat.mul_add, ex, ey]
          congr 2
          omega
        · intro z hz
          rcases List.mem_append.1 hz with h | h
          · exact i3 z h
          · obtain rfl := List.mem_singleton.1 h
            exact Nat.mod_lt _ (by omega)
      have HE1 : Hid ((x : Int) + (y : Int) + (cy : Int) = (((x + y + cy) : Nat) : Int)) := hid (by omega)
      have HE2 : Hid (Value.int .i64 (((x : Int) + (y : Int) + (cy : Int)) / 1000000000) = Value.int .i64 (((x + y + cy) / 1000000000 : Nat) : Int)) := hid (congrArg _ (by omega))
      have HE3 : Hid (I64s (zs ++ [(x + y + cy) % 1000000000]) = I64s zs ++ [.int .i64 ((((x + y + cy) : Nat) : Int) % 1000000000)]) := hid (by simp [I64s])
      clear i1 i2 i3 i4 ex ey hinv hlast
      by_cases h1 : j < k1
      · clear hgo
        go_wp2_with fail
        refine (part_at A k1 c1 xs j wr (HA.out.ext hex) LA.out DX).mono ?_
        rintro e wz ⟨rfl, rfl⟩
        go_wp2_with fail
        refine (part_at B k2 c2 ys j wr (HB.out.ext hex) LB.out DY).mono ?_
        rintro e wz ⟨rfl, rfl⟩
        go_wp2_with (at_builtin; refine wpList_append_own _ rfl _ _ 22 rfl w.heap.size 3 i0 (.int .i64 0) 1 8 Tryz.underlying22 hi hz0 hz1 hz2 rfl (by decide) _ _ _ rfl (HOWN.out.alloc _) ⟨wr.heap.size, 0, none⟩ 1 1 [_] rfl rfl (cell_one_new _ _ _) (fun u hu => by simp at hu; subst hu; rfl) ?q1 ?q2 ?q3 ?_)
        case q1 => unfold maxLen; omega
        case q2 => omega
        case q3 => first | omega | (simp; omega)
        intro v' w1 hown' hgrow hnil
        rw [HE1.out, ← HE3.out] at hown'
        obtain ⟨g, cap, sp, rfl, hg, hc1, hc2, hrow1, hvl, hsl⟩ := own_form hown' (by omega)
        have hex' : Ext w w1 := (hex.alloc' _).grown hgrow (by simp; omega) (by
          intro k hk
          exact (HOWN.out.lt k hk).1)
        have hsz' : w.heap.size ≤ w1.heap.size := hex'.size
        have HO := hid hown'
        clear hown' hgrow hnil hrow1 hvl hsl hg hc1 hc2
        go_wp2
        go_roundw
        case rel => exact ⟨j + 1, (x + y + cy) / 1000000000, zs ++ [(x + y + cy) % 1000000000], _, _, rfl, HE2.out, by simp, hj1, hcy1, HO.out, hex', hsz', HINV⟩
        case measure => simp [intOf]; omega
      · by_cases h2 : j < k2
        · clear hgo
          go_wp2_with fail
          refine (part_at A k1 c1 xs j wr (HA.out.ext hex) LA.out DX).mono ?_
          rintro e wz ⟨rfl, rfl⟩
          go_wp2_with fail
          refine (part_at B k2 c2 ys j wr (HB.out.ext hex) LB.out DY).mono ?_
          rintro e wz ⟨rfl, rfl⟩
          go_wp2_with (at_builtin; refine wpList_append_own _ rfl _ _ 22 rfl w.heap.size 3 i0 (.int .i64 0) 1 8 Tryz.underlying22 hi hz0 hz1 hz2 rfl (by decide) _ _ _ rfl (HOWN.out.alloc _) ⟨wr.heap.size, 0, none⟩ 1 1 [_] rfl rfl (cell_one_new _ _ _) (fun u hu => by simp at hu; subst hu; rfl) ?q1 ?q2 ?q3 ?_)
          case q1 => unfold maxLen; omega
          case q2 => omega
          case q3 => first | omega | (simp; omega)
          intro v' w1 hown' hgrow hnil
          rw [HE1.out, ← HE3.out] at hown'
          obtain ⟨g, cap, sp, rfl, hg, hc1, hc2, hrow1, hvl, hsl⟩ := own_form hown' (by omega)
          have hex' : Ext w w1 := (hex.alloc' _).grown hgrow (by simp; omega) (by
            intro k hk
            exact (HOWN.out.lt k hk).1)
          have hsz' : w.heap.size ≤ w1.heap.size := hex'.size
          have HO := hid hown'
          clear hown' hgrow hnil hrow1 hvl hsl hg hc1 hc2
          go_wp2
          go_roundw
          case rel => exact ⟨j + 1, (x + y + cy) / 1000000000, zs ++ [(x + y + cy) % 1000000000], _, _, rfl, HE2.out, by simp, hj1, hcy1, HO.out, hex', hsz', HINV⟩
          case measure => simp [intOf]; omega
        · have h3 : 0 < cy := by omega
          clear hgo
          go_wp2_with fail
          refine (part_at A k1 c1 xs j wr (HA.out.ext hex) LA.out DX).mono ?_
          rintro e wz ⟨rfl, rfl⟩
          go_wp2_with fail
          refine (part_at B k2 c2 ys j wr (HB.out.ext hex) LB.out DY).mono ?_
          rintro e wz ⟨rfl, rfl⟩
          go_wp2_with (at_builtin; refine wpList_append_own _ rfl _ _ 22 rfl w.heap.size 3 i0 (.int .i64 0) 1 8 Tryz.underlying22 hi hz0 hz1 hz2 rfl (by decide) _ _ _ rfl (HOWN.out.alloc _) ⟨wr.heap.size, 0, none⟩ 1 1 [_] rfl rfl (cell_one_new _ _ _) (fun u hu => by simp at hu; subst hu; rfl) ?q1 ?q2 ?q3 ?_)
          case q1 => unfold maxLen; omega
          case q2 => omega
          case q3 => first | omega | (simp; omega)
          intro v' w1 hown' hgrow hnil
          rw [HE1.out, ← HE3.out] at hown'
          obtain ⟨g, cap, sp, rfl, hg, hc1, hc2, hrow1, hvl, hsl⟩ := own_form hown' (by omega)
          have hex' : Ext w w1 := (hex.alloc' _).grown hgrow (by simp; omega) (by
            intro k hk
            exact (HOWN.out.lt k hk).1)
          have hsz' : w.heap.size ≤ w1.heap.size := hex'.size
          have HO := hid hown'
          clear hown' hgrow hnil hrow1 hvl hsl hg hc1 hc2
          go_wp2
          go_roundw
          case rel => exact ⟨j + 1, (x + y + cy) / 1000000000, zs ++ [(x + y + cy) % 1000000000], _, _, rfl, HE2.out, by simp, hj1, hcy1, HO.out, hex', hsz', HINV⟩
          case measure => simp [intOf]; omega
    · have h1 : ¬ j < k1 := by omega
      have h2 : ¬ j < k2 := by omega
      obtain rfl : cy = 0 := by omega
      have hfin : Parts (K.lv xs + K.lv ys) w (.returned (.slice A3 j c3)) wr := by
        obtain ⟨i1, i2, i3, i4⟩ := hinv.out
        refine ⟨A3, j, c3, zs, rfl, i1, ?_, by omega, Rd.of_own HOWN.out, i3, ?_, hex⟩
        · rcases HOWN.out.2 with ⟨h, h0⟩ | ⟨g, cap, cur, h, hg, hh, hc, _⟩
          · injection h with h1 h2 h3; omega
          · injection h with h1 h2 h3; omega
        · rw [← i2, List.drop_of_length_le (by rw [LA.out]; omega), List.drop_of_length_le (by rw [LB.out]; omega)]; simp [K.lv]
      have HF := hid hfin
      clear hgo hfin
      go_wp2
      go_ret
      exact HF.out
end Go.Proofs.YtleccblkafcidaaGreatDoor
/- the reference's size -/
namespace Go.Proofs.YtleccblkafcidaaGreatDoor
open Go.RowKit
set_option maxRecDepth 100000 in
set_option maxHeartbeats 1600000 in
theorem size_any (A B : Option Addr) (ca cb : Nat) (n m : Nat) (xs ys : List Nat) (w : World) (ha : Rd w A (I64s xs)) (hb : Rd w B (I64s ys)) (ln : xs.length = n) (lm : ys.length = m) (hn : n ≤ 1000000) (hm : m ≤ 1000000) :
    Calls Tryz.prog 84 #[.slice A n ca, .slice B m cb] w fun e w' => e = .returned (.int .i64 (if n = m then cmpL xs ys else sgn n m)) ∧ Drew w w' := by
  have LN := hid ln
  have LM := hid lm
  clear ln lm
  by_cases hl : n = m
  · subst hl
    rw [if_pos rfl]
    go_enter Tryz.func84, Tryz.ntmps84
    go_wp2
    go_loopw [5] (fun i wr => ∃ (q : Int), -1 ≤ q ∧ q < n ∧ i = .int .i64 q ∧ Hid (cmpL (xs.drop (q + 1).toNat) (ys.drop (q + 1).toNat) = 0) ∧ Drew w wr) (fun i _ => (intOf i + 1).toNat)
    case atStart => exact ⟨(n : Int) - 1, by omega, by omega, rfl, hid (by rw [show ((n : Int) - 1 + 1).toNat = n by omega, List.drop_of_length_le (by rw [LN.out]; omega)]; simp [cmpL]), Drew.rfl' w⟩
    case round =>
      obtain ⟨q, hq1, hq2, rfl, HC, hwr⟩ := hrel
      by_cases hq : 0 ≤ q
      · obtain ⟨j, rfl⟩ := Int.eq_ofNat_of_zero_le hq
        obtain ⟨b1, o1, x, eA, ex, hb1, hx⟩ := (ha.drew hwr).at_ (k := j) (by rw [LN.out]; omega)
        obtain ⟨b2, o2, y, eB, ey, hb2, hy⟩ := (hb.drew hwr).at_ (k := j) (by rw [LM.out]; omega)
        subst eA eB
        have HX := hid ex
        have HY := hid ey
        clear ex ey ha hb
        have hstep : Hid (cmpL (xs.drop j) (ys.drop j) = sgn x y) := by
          have e := HC.out
          rw [show ((j : Int) + 1).toNat = j + 1 by omega] at e
          show _ = _
          rw [drop_at HX.out, drop_at HY.out, cmpL, if_pos e]
        by_cases hxy : x < y
        · have hfin : Hid (cmpL xs ys = -1) := hid (by rw [cmpL_drop j xs ys (by rw [hstep.out]; exact sgn_ne (by omega)), hstep.out]; unfold sgn; rw [if_pos hxy])
          go_wp2_with fail
          go_quiet (fail)
          go_wp2
          go_ret
          exact ⟨by rw [hfin.out]; rfl, hwr.drewN _⟩
        · go_wp2_with fail
          go_quiet (fail)
          generalize hw1 : World.drewN wr _ = w1
          have hwr1 : Drew w w1 := hw1 ▸ hwr.drewN _
          have hx1 : w1.cell? ⟨b1, o1 + j, none⟩ = some (.int .i64 x) := by rw [← hw1]; exact hx
          have hy1 : w1.cell? ⟨b2, o2 + j, none⟩ = some (.int .i64 y) := by rw [← hw1]; exact hy
          clear hw1 hx hy hwr
          by_cases hyx : y < x
          · have hfin : Hid (cmpL xs ys = 1) := hid (by rw [cmpL_drop j xs ys (by rw [hstep.out]; exact sgn_ne (by omega)), hstep.out]; unfold sgn; rw [if_neg (by omega), if_pos hyx])
            go_wp2_with fail
            go_quiet (fail)
            go_wp2
            go_ret
            exact ⟨by rw [hfin.out]; rfl, hwr1.drewN _⟩
          · obtain rfl : x = y := by omega
            clear hxy
            go_wp2_with fail
            go_quiet (fail)
            go_wp2
            go_roundw
            case rel => exact ⟨(j : Int) - 1, by omega, by omega, rfl, hid (by rw [show ((j : Int) - 1 + 1).toNat = j by omega, hstep.out, sgn_self]), hwr1.drewN _⟩
            case measure => simp [intOf]
      · have hfin : Hid (cmpL xs ys = 0) := hid (by have := HC.out; rwa [show (q + 1).toNat = 0 by omega] at this)
        go_wp2
        go_ret
        exact ⟨by rw [hfin.out]; rfl, hwr⟩
  · rw [if_neg hl]
    by_cases hlt : n < m
    · have hfin : Hid (sgn n m = -1) := hid (by unfold sgn; rw [if_pos hlt])
      go_enter Tryz.func84, Tryz.ntmps84
      go_wp2
      go_ret
      exact ⟨by rw [hfin.out]; rfl, Drew.rfl' _⟩
    · have hfin : Hid (sgn n m = 1) := hid (by unfold sgn; rw [if_neg hlt, if_pos (by omega)])
      go_enter Tryz.func84, Tryz.ntmps84
      go_wp2
      go_ret
      exact ⟨by rw [hfin.out]; rfl, Drew.rfl' _⟩
end Go.Proofs.YtleccblkafcidaaGreatDoor
/- the reference's less -/
namespace Go.Proofs.YtleccblkafcidaaGreatDoor
open Go.RowKit
theorem less_step (X Y Z P x y z bw bw' X' Y' : Nat) (h : X + P * (bw + (y + 1000000000 * Y')) = Z + P * (x + 1000000000 * X') + Y) (hz : x + 1000000000 * bw' = z + y + bw) :
    X + P * 1000000000 * (bw' + Y') = Z + P * z + P * 1000000000 * X' + Y := by
  have k := congrArg (P * ·) hz
  simp only [Nat.mul_add] at h k ⊢
  have e1 : P * (1000000000 * Y') = P * 1000000000 * Y' := (Nat.mul_assoc ..).symm
  have e2 : P * (1000000000 * X') = P * 1000000000 * X' := (Nat.mul_assoc ..).symm
  have e3 : P * (1000000000 * bw') = P * 1000000000 * bw' := (Nat.mul_assoc ..).symm
  rw [e1, e2] at h
  rw [e3] at k
  omega
set_option maxRecDepth 100000 in
set_option maxHeartbeats 3200000 in
theorem less_any (A B : Option Addr) (k1 c1 k2 c2 : Nat) (xs ys : List Nat) (w : World) (ha : Rd w A (I64s xs)) (hb : Rd w B (I64s ys)) (la : xs.length = k1) (lb : ys.length = k2)
    (hx : ∀ x ∈ xs, x < 1000000000) (hy : ∀ y ∈ ys, y < 1000000000) (b1 : k1 ≤ 100000) (b2 : k2 ≤ k1) (hge : K.lv ys ≤ K.lv xs) :
    Calls Tryz.prog 85 #[.slice A k1 c1, .slice B k2 c2] w (Parts (K.lv xs - K.lv ys) w) := by
  obtain ⟨i0, hi, hz0, hz1, hz2⟩ := info_parts infoI
  have HA := hid ha
  have HB := hid hb
  have LA := hid la
  have LB := hid lb
  have HX := hid hx
  have HY := hid hy
  have HGE := hid hge
  clear ha hb la lb hx hy hge
  go_enter Tryz.func85, Tryz.ntmps85
  go_wp2_with fail
  go_loopw [5, 6, 7] (fun v bz iz wr => ∃ (j bw : Nat) (zs : List Nat) (A3 : Option Addr) (c3 : Nat), v = .slice A3 j c3 ∧ bz = .int .i64 (bw : Int) ∧ iz = .int .i64 (j : Int) ∧ j ≤ k1 ∧ bw ≤ 1 ∧ wr.ownsRow w.heap.size 3 1 (.slice A3 j c3) j (I64s zs) ∧ Ext w wr ∧ w.heap.size ≤ wr.heap.size ∧
      Hid (zs.length = j ∧ K.lv xs + 1000000000 ^ j * (bw + K.lv (ys.drop j)) = K.lv zs + 1000000000 ^ j * K.lv (xs.drop j) + K.lv ys ∧ (∀ z ∈ zs, z < 1000000000))) (fun _ _ iz _ => k1 - (intOf iz).toNat)
  case atStart => exact ⟨0, 0, [], none, 0, rfl, rfl, rfl, by omega, by omega, World.ownsRow_nil _ _ _ _, Ext.rfl' _, Nat.le_refl _, hid ⟨rfl, by simp [K.lv], by simp⟩⟩
  case round =>
    obtain ⟨j, bw, zs, A3, c3, rfl, rfl, rfl, hj, hbw, hown, hex, hsz, hinv⟩ := hrel
    have HOWN := hid hown
    clear hown
    by_cases hlt : j < k1
    · obtain ⟨i1, i2, i3⟩ := hinv.out
      obtain ⟨ba, oa, x, eA, exx, hba, hx⟩ := (HA.out.ext hex).at_ (k := j) (by rw [LA.out]; exact hlt)
      subst eA
      have gx : x < 1000000000 := by
        obtain ⟨hj', e⟩ := List.getElem?_eq_some_iff.1 exx
        rw [← e]; exact HX.out _ (List.getElem_mem hj')
      have gy := getD_lt HY.out j
      have ex : K.lv (xs.drop j) = x + 1000000000 * K.lv (xs.drop (j + 1)) := by rw [drop_at exx]; rfl
      have ey := lv_getD ys j
      obtain ⟨y, dy⟩ : ∃ y, ys.getD j 0 = y := ⟨_, rfl⟩
      rw [dy] at gy ey
      have DY := hid dy
      clear dy exx
      by_cases hneg : x < y + bw
      · have hng : (x : Int) - (y : Int) - (bw : Int) < 0 := by omega
        have HINV : Hid ((zs ++ [x + 1000000000 - y - bw]).length = j + 1 ∧ K.lv xs + 1000000000 ^ (j + 1) * (1 + K.lv (ys.drop (j + 1))) = K.lv (zs ++ [x + 1000000000 - y - bw]) + 1000000000 ^ (j + 1) * K.lv (xs.drop (j + 1)) + K.lv ys ∧ (∀ z ∈ zs ++ [x + 1000000000 - y - bw], z < 1000000000)) := by
          refine hid ⟨by simp [i1], ?_, ?_⟩
          · rw [lv_snoc, i1]
            rw [ex, ey] at i2
            exact less_step _ _ _ _ _ _ _ _ _ _ _ i2 (by omega)
          · intro z hz
            rcases List.mem_append.1 hz with h | h
            · exact i3 z h
            · obtain rfl := List.mem_singleton.1 h
              omega
        have HE3 : Hid (I64s (zs ++ [x + 1000000000 - y - bw]) = I64s zs ++ [.int .i64 ((x : Int) - (y : Int) - (bw : Int) + 1000000000)]) := hid (by simp [I64s]; omega)
        clear i1 i2 i3 ex ey hinv
        go_wp2_with fail
        go_quiet ((go_at_call 82; exact Calls.quiet_of_same ((part_at B k2 c2 ys j _ (HB.out.ext (hex.drewN _)) LB.out DY).mono fun _ _ ⟨a, b⟩ => ⟨a, b.symm⟩)))
        generalize hwd : World.drewN wr _ = wd
        have hexd : Ext w wd := hwd ▸ hex.drewN _
        have hownd : wd.ownsRow w.heap.size 3 1 (.slice A3 j c3) j (I64s zs) := by rw [← hwd]; exact HOWN.out
        have HOWND := hid hownd
        have hszd : w.heap.size ≤ wd.heap.size := hexd.size
        clear hwd hownd HOWN hx hex hsz
        go_wp2_with (at_builtin; refine wpList_append_own _ rfl _ _ 22 rfl w.heap.size 3 i0 (.int .i64 0) 1 8 Tryz.underlying22 hi hz0 hz1 hz2 rfl (by decide) _ _ _ rfl (HOWND.out.alloc _) ⟨wd.heap.size, 0, none⟩ 1 1 [_] rfl rfl (cell_one_new _ _ _) (fun u hu => by simp at hu; subst hu; rfl) ?q1 ?q2 ?q3 ?_)
        case q1 => unfold maxLen; omega
        case q2 => omega
        case q3 => first | omega | (simp; omega)
        intro v' w1 hown' hgrow hnil
        rw [← HE3.out] at hown'
        obtain ⟨g, cap, sp, rfl, hg, hc1, hc2, hrow1, hvl, hsl⟩ := own_form hown' (by omega)
        have hex' : Ext w w1 := (hexd.alloc' _).grown hgrow (by simp; omega) (by
          intro k hk
          exact (HOWND.out.lt k hk).1)
        have hsz' : w.heap.size ≤ w1.heap.size := hex'.size
        have HO := hid hown'
        clear hown' hgrow hnil hrow1 hvl hsl hg hc1 hc2
        go_wp2
        go_roundw
        case rel => exact ⟨j + 1, 1, zs ++ [x + 1000000000 - y - bw], _, _, rfl, by simp, by simp, by omega, by omega, HO.out, hex', hsz', HINV⟩
        case measure => simp [intOf]; omega
      · have hng : ¬ (x : Int) - (y : Int) - (bw : Int) < 0 := by omega
        have HINV : Hid ((zs ++ [x - y - bw]).length = j + 1 ∧ K.lv xs + 1000000000 ^ (j + 1) * (0 + K.lv (ys.drop (j + 1))) = K.lv (zs ++ [x - y - bw]) + 1000000000 ^ (j + 1) * K.lv (xs.drop (j + 1)) + K.lv ys ∧ (∀ z ∈ zs ++ [x - y - bw], z < 1000000000)) := by
          refine hid ⟨by simp [i1], ?_, ?_⟩
          · rw [lv_snoc, i1]
            rw [ex, ey] at i2
            exact less_step _ _ _ _ _ _ _ _ _ _ _ i2 (by omega)
          · intro z hz
            rcases List.mem_append.1 hz with h | h
            · exact i3 z h
            · obtain rfl := List.mem_singleton.1 h
              omega
        have HE3 : Hid (I64s (zs ++ [x - y - bw]) = I64s zs ++ [.int .i64 ((x : Int) - (y : Int) - (bw : Int))]) := hid (by simp [I64s]; omega)
        clear i1 i2 i3 ex ey hinv
        go_wp2_with fail
        go_quiet ((go_at_call 82; exact Calls.quiet_of_same ((part_at B k2 c2 ys j _ (HB.out.ext (hex.drewN _)) LB.out DY).mono fun _ _ ⟨a, b⟩ => ⟨a, b.symm⟩)))
        generalize hwd : World.drewN wr _ = wd
        have hexd : Ext w wd := hwd ▸ hex.drewN _
        have hownd : wd.ownsRow w.heap.size 3 1 (.slice A3 j c3) j (I64s zs) := by rw [← hwd]; exact HOWN.out
        have HOWND := hid hownd
        have hszd : w.heap.size ≤ wd.heap.size := hexd.size
        clear hwd hownd HOWN hx hex hsz
        go_wp2_with (at_builtin; refine wpList_append_own _ rfl _ _ 22 rfl w.heap.size 3 i0 (.int .i64 0) 1 8 Tryz.underlying22 hi hz0 hz1 hz2 rfl (by decide) _ _ _ rfl (HOWND.out.alloc _) ⟨wd.heap.size, 0, none⟩ 1 1 [_] rfl rfl (cell_one_new _ _ _) (fun u hu => by simp at hu; subst hu; rfl) ?q1 ?q2 ?q3 ?_)
        case q1 => unfold maxLen; omega
        case q2 => omega
        case q3 => first | omega | (simp; omega)
        intro v' w1 hown' hgrow hnil
        rw [← HE3.out] at hown'
        obtain ⟨g, cap, sp, rfl, hg, hc1, hc2, hrow1, hvl, hsl⟩ := own_form hown' (by omega)
        have hex' : Ext w w1 := (hexd.alloc' _).grown hgrow (by simp; omega) (by
          intro k hk
          exact (HOWND.out.lt k hk).1)
        have hsz' : w.heap.size ≤ w1.heap.size := hex'.size
        have HO := hid hown'
        clear hown' hgrow hnil hrow1 hvl hsl hg hc1 hc2
        go_wp2
        go_roundw
        case rel => exact ⟨j + 1, 0, zs ++ [x - y - bw], _, _, rfl, by simp, by simp, by omega, by omega, HO.out, hex', hsz', HINV⟩
        case measure => simp [intOf]; omega
    · obtain rfl : j = k1 := by omega
      have hfin : Parts (K.lv xs - K.lv ys) w (.returned (.slice A3 j c3)) wr := by
        obtain ⟨i1, i2, i3⟩ := hinv.out
        refine ⟨A3, j, c3, zs, rfl, i1, ?_, by omega, Rd.of_own HOWN.out, i3, ?_, hex⟩
        · rcases HOWN.out.2 with ⟨h, h0⟩ | ⟨g, cap, cur, h, hg, hh, hc, _⟩
          · injection h with h1 h2 h3; omega
          · injection h with h1 h2 h3; omega
        · rw [List.drop_of_length_le (by rw [LB.out]; omega), List.drop_of_length_le (by rw [LA.out]; omega)] at i2
          have hz := K.lv_lt zs i3
          rw [i1] at hz
          have hg := HGE.out
          have hb0 : bw = 0 := by
            rcases Nat.eq_zero_or_pos bw with h | h
            · exact h
            · obtain rfl : bw = 1 := by omega
              simp [K.lv] at i2
              omega
          subst hb0
          simp [K.lv] at i2
          omega
      have HF := hid hfin
      clear hfin
      go_wp2
      go_ret
      exact HF.out
end Go.Proofs.YtleccblkafcidaaGreatDoor
/- plain facts on lists of parts: a part that is set; products, quotients and digits by rounds -/
namespace Go.Proofs.YtleccblkafcidaaGreatDoor
theorem lv_set : ∀ (xs : List Nat) (j v : Nat), j < xs.length → K.lv (xs.set j v) + 1000000000 ^ j * xs.getD j 0 = K.lv xs + 1000000000 ^ j * v
  | [], j, v, h => by simp at h
  | x :: r, 0, v, _ => by simp [K.lv]; omega
  | x :: r, j + 1, v, h => by
    have ih := lv_set r j v (by simpa using h)
    have e1 : 1000000000 ^ j * 1000000000 * r.getD j 0 = 1000000000 * (1000000000 ^ j * r.getD j 0) := by rw [Nat.mul_comm (1000000000 ^ j), Nat.mul_assoc]
    have e2 : 1000000000 ^ j * 1000000000 * v = 1000000000 * (1000000000 ^ j * v) := by rw [Nat.mul_comm (1000000000 ^ j), Nat.mul_assoc]
    simp only [List.set_cons_succ, List.getD_cons_succ, K.lv, Nat.pow_succ, e1, e2]
    omega
/-- one round of a product -/
theorem mul_step {Os : List Nat} {p c x y Y' T o s : Nat} (hp : p < Os.length) (ho : Os.getD p 0 = o) (hs : s = o + x * y + c) (h : K.lv Os + 1000000000 ^ p * (c + x * (y + 1000000000 * Y')) = T) :
    K.lv (Os.set p (s % 1000000000)) + 1000000000 ^ (p + 1) * (s / 1000000000 + x * Y') = T := by
  have h1 := lv_set Os p (s % 1000000000) hp
  rw [ho] at h1
  have h2 : 1000000000 ^ p * (s % 1000000000) + 1000000000 ^ p * 1000000000 * (s / 1000000000) = 1000000000 ^ p * s := by
    rw [Nat.mul_assoc, ← Nat.mul_add, Nat.mod_add_div]
  have h3 : 1000000000 ^ p * s = 1000000000 ^ p * o + 1000000000 ^ p * (x * y) + 1000000000 ^ p * c := by rw [hs, Nat.mul_add, Nat.mul_add]
  have h4 : x * (1000000000 * Y') = 1000000000 * (x * Y') := by rw [← Nat.mul_assoc, Nat.mul_comm x, Nat.mul_assoc]
  rw [Nat.mul_add x, h4, Nat.mul_add, Nat.mul_add, ← Nat.mul_assoc (1000000000 ^ p) 1000000000] at h
  rw [Nat.pow_succ, Nat.mul_add]
  omega
theorem lv_take_at {xs : List Nat} {i x : Nat} (h : xs[i]? = some x) : K.lv (xs.take (i + 1)) = K.lv (xs.take i) + 1000000000 ^ i * x := by
  obtain ⟨hi, e⟩ := List.getElem?_eq_some_iff.1 h
  rw [List.take_succ_eq_append_getElem hi, e, lv_snoc, List.length_take, Nat.min_eq_left (by omega)]
theorem set_lt {xs : List Nat} (h : ∀ x ∈ xs, x < 1000000000) {j v : Nat} (hv : v < 1000000000) : ∀ x ∈ xs.set j v, x < 1000000000 := by
  intro x hx
  rcases List.mem_or_eq_of_mem_set hx with h1 | h1
  · exact h x h1
  · omega
theorem lv_lt' (xs : List Nat) (h : ∀ x ∈ xs, x < 1000000000) : K.lv xs < 1000000000 ^ xs.length := K.lv_lt xs h
/-- where a carry is left, the place lies within the row -/
theorem mul_place {L p c Y T i m a b : Nat} (h : L + 1000000000 ^ p * (c + Y) = T) (hc : 0 < c) (hT : T = a * b) (ha : a < 1000000000 ^ i) (hb : b < 1000000000 ^ m) : p < i + m := by
  have h1 : 1000000000 ^ p ≤ 1000000000 ^ p * (c + Y) := Nat.le_mul_of_pos_right _ (by omega)
  have h2 : a * b < 1000000000 ^ i * 1000000000 ^ m := Nat.mul_lt_mul'' ha hb
  rw [← Nat.pow_add] at h2
  rcases Nat.lt_or_ge p (i + m) with h | h
  · exact h
  · have := Nat.pow_le_pow_right (n := 1000000000) (by omega) h
    omega
end Go.Proofs.YtleccblkafcidaaGreatDoor
/- the reference's Minus -/
namespace Go.Proofs.YtleccblkafcidaaGreatDoor
open Go.RowKit
set_option maxRecDepth 100000 in
set_option maxHeartbeats 1600000 in
theorem rminus_any (v : Value) (n : Int) (w : World) (h : RefV w v n) : Calls Tryz.prog 81 #[v] w (RefPost (-n) w) := by
  obtain ⟨A, k, c, xs, b, rfl, hbn, hl, hkc, hr, hL, hv⟩ := h
  have hk : k = 0 ↔ n = 0 := by
    have := hL.zero_iff
    rw [hv, ← List.length_eq_zero_iff, hl] at this
    rw [← this]; omega
  have hfin : ∀ b' w', Ext w w' → b' = decide (-n < 0) → RefPost (-n) w (.returned (.agg #[.bool b', .slice A k c])) w' := fun b' w' e hb =>
    ⟨_, rfl, ⟨A, k, c, xs, b', rfl, hid hb, hl, hkc, hr.ext e, hL, by rw [hv, Int.natAbs_neg]⟩, e⟩
  have HF := hid hfin
  have HB := hbn.out
  clear hfin hl hkc hr hL hv hbn
  cases b with
  | true =>
    have hn : n < 0 := by simpa using HB.symm
    have hd : Hid (false = decide (-n < 0)) := hid (decide_eq_false (by omega)).symm
    clear HB hn hk
    go_enter Tryz.func81, Tryz.ntmps81
    go_wp2
    refine bodyPost_ret (v := .agg #[.bool false, .slice A k c]) (by simp [results, Tryz.results81, go_sem]) rfl (HF.out false _ ?_ hd.out)
    exact ((Ext.rfl' w).alloc' _).alloc' _
  | false =>
    have hn : ¬ n < 0 := by simpa using HB.symm
    by_cases h0 : 0 < k
    · have hd : Hid (true = decide (-n < 0)) := hid (decide_eq_true (by omega)).symm
      clear HB hn hk
      go_enter Tryz.func81, Tryz.ntmps81
      go_wp2
      refine bodyPost_ret (v := .agg #[.bool true, .slice A k c]) (by simp [results, Tryz.results81, go_sem]) rfl (HF.out true _ ?_ hd.out)
      exact ((Ext.rfl' w).alloc' _).alloc' _
    · have hd : Hid (false = decide (-n < 0)) := hid (decide_eq_false (by omega)).symm
      clear HB hn hk
      go_enter Tryz.func81, Tryz.ntmps81
      go_wp2
      refine bodyPost_ret (v := .agg #[.bool false, .slice A k c]) (by simp [results, Tryz.results81, go_sem]) rfl (HF.out false _ ?_ hd.out)
      exact ((Ext.rfl' w).alloc' _).alloc' _
end Go.Proofs.YtleccblkafcidaaGreatDoor
