/- Joined texts: the reference's Text; the reference's Digits, Fits, Told; the reference's Of, at a number that is not negative; the reference's Of at 1, and Part; maps in memory; step.validRule. -/
import Derived.Test.YtflgkijmbpcnfaaDoorJG05
import Derived.Test.YtflgkijmbpcnfaaDoorJG04
import Derived.Deep.Cut
set_option linter.unusedSimpArgs false
set_option linter.unusedVariables false
/- the reference's Text -/
namespace Go.Proofs.YtflgkijmbpcnfaaDoor
open Go.RowKit
theorem text_end (bs : List UInt8) (N : Nat) (hd : bs.all K.dig = true) (hv : K.dvl bs = N) (hne : bs ≠ []) (hl : bs.getLast? ≠ some 48) : K.dgs N = bs.reverse := by
  have h := K.dgs_dv bs.reverse (by simpa using hne) (by simpa using hd) (fun e => absurd (by simpa using e) hl)
  rwa [K.dv, List.reverse_reverse, hv] at h
theorem text_step (bs : List UInt8) (N p r m : Nat) (h : K.dvl bs + 10 ^ m * (p + 10 * r) = N) (hm : bs.length = m) (c : UInt8) (hc : c.toNat = 48 + p % 10) :
    K.dvl (bs ++ [c]) + 10 ^ (m + 1) * (p / 10 + r) = N := by
  rw [K.dvl_append, hm]
  have e1 : K.dvl [c] = p % 10 := by simp [K.dvl, hc]
  rw [e1, ← h, Nat.pow_succ, Nat.mul_assoc, Nat.add_assoc, ← Nat.mul_add]
  congr 2
  omega
theorem Bytes_snoc (bs : List UInt8) (c : UInt8) : Bytes (bs ++ [c]) = Bytes bs ++ [.int .u8 (c.toNat : Int)] := by simp [Bytes]
theorem Rd.byte {w : World} {A : Option Addr} {l : List UInt8} (h : Rd w A (Bytes l)) {k : Nat} {x : UInt8} (hx : l[k]? = some x) :
    ∃ b o, A = some ⟨b, o, none⟩ ∧ w.cell? ⟨b, o + k, none⟩ = some (.int .u8 (x.toNat : Int)) := by
  rcases h with h | ⟨b, o, ha, hb, hc⟩
  · have : l = [] := by simpa [Bytes] using h
    subst this; simp at hx
  · exact ⟨b, o, ha, hc k _ (by simp [Bytes, hx])⟩
/-- what stands while a number is written, before limb i -/
def TxO (xs : List Nat) (N i m : Nat) (bs : List UInt8) : Prop :=
  bs.length = m ∧ bs.all K.dig = true ∧ (i < xs.length → m = 9 * i ∧ K.dvl bs + 10 ^ (9 * i) * K.lv (xs.drop i) = N) ∧ (i = xs.length → K.dvl bs = N ∧ bs ≠ [] ∧ bs.getLast? ≠ some 48)
/-- .. inside limb i, t digits of it written, p left -/
def TxI (xs : List Nat) (N i t p : Nat) (bs : List UInt8) : Prop :=
  bs.length = 9 * i + t ∧ bs.all K.dig = true ∧ K.dvl bs + 10 ^ (9 * i + t) * (p + 10 ^ (9 - t) * K.lv (xs.drop (i + 1))) = N ∧ p < 10 ^ (9 - t) ∧ (i + 1 = xs.length → 0 < p ∨ (bs ≠ [] ∧ bs.getLast? ≠ some 48))
theorem TxO.enter {xs : List Nat} {N i m x : Nat} {bs : List UInt8} (h : TxO xs N i m bs) (hL : K.Lim xs) (hx : xs[i]? = some x) : m = 9 * i ∧ TxI xs N i 0 x bs := by
  obtain ⟨hi, hxe⟩ := List.getElem?_eq_some_iff.1 hx
  obtain ⟨h1, h2, h3, _⟩ := h
  obtain ⟨h3, h4⟩ := h3 hi
  have hlt : x < 1000000000 := hL.1 x (by rw [← hxe]; exact List.getElem_mem hi)
  refine ⟨h3, by omega, h2, ?_, hlt, fun e => ?_⟩
  · rw [drop_at hx] at h4; exact h4
  · left
    apply Nat.pos_of_ne_zero
    intro e0
    apply hL.2
    rw [List.getLast?_eq_getElem?, show xs.length - 1 = i by omega, hx, e0]
theorem TxI.step {xs : List Nat} {N i t p : Nat} {bs : List UInt8} (h : TxI xs N i t p bs) (ht : t < 9) (hx : 0 < p ∨ i + 1 < xs.length) : TxI xs N i (t + 1) (p / 10) (bs ++ [K.chr (p % 10)]) := by
  obtain ⟨h1, h2, h3, h4, h5⟩ := h
  have hp : 10 ^ (9 - t) = 10 * 10 ^ (9 - (t + 1)) := by rw [← Nat.pow_succ']; congr 1; omega
  have hc := K.chr_toNat (n := p % 10) (by omega)
  refine ⟨by simp; omega, ?_, ?_, ?_, fun e => ?_⟩
  · rw [List.all_append, h2]; simp [K.dig_chr (n := p % 10) (by omega)]
  · rw [hp, Nat.mul_assoc] at h3
    exact text_step bs N p _ (9 * i + t) h3 h1 _ hc
  · rw [hp] at h4; omega
  · by_cases h0 : 0 < p / 10
    · exact .inl h0
    · right
      refine ⟨by simp, ?_⟩
      rw [List.getLast?_append]
      simp only [List.getLast?_singleton, Option.some_or]
      intro e2
      have e3 : (K.chr (p % 10)).toNat = 48 := by rw [Option.some.inj e2]; rfl
      rw [hc] at e3
      omega
theorem TxI.leave {xs : List Nat} {N i t p : Nat} {bs : List UInt8} (h : TxI xs N i t p bs) (hi : i < xs.length) (ht : t ≤ 9) (hx : ¬ (t < 9 ∧ (0 < p ∨ i + 1 < xs.length))) : TxO xs N (i + 1) (9 * i + t) bs := by
  obtain ⟨h1, h2, h3, h4, h5⟩ := h
  have hp : p = 0 := by
    by_cases h9 : t = 9
    · subst h9; simp at h4; exact h4
    · omega
  subst hp
  refine ⟨h1, h2, fun e => ?_, fun e => ?_⟩
  · obtain rfl : t = 9 := by omega
    refine ⟨by omega, ?_⟩
    simpa [Nat.mul_add] using h3
  · rw [List.drop_of_length_le (by omega)] at h3
    simp [K.lv] at h3
    exact ⟨h3, (h5 e).resolve_left (by omega)⟩
end Go.Proofs.YtflgkijmbpcnfaaDoor
/- the reference's Digits, Fits, Told -/
namespace Go.Proofs.YtflgkijmbpcnfaaDoor
open Go.RowKit
def cnt (p : Nat) : Nat := if p = 0 then 0 else (K.dgs p).length
theorem cnt_pos {p : Nat} (h : 0 < p) : cnt p = cnt (p / 10) + 1 := by
  unfold cnt
  rw [if_neg (by omega)]
  by_cases h1 : p < 10
  · rw [K.dgs_small h1, if_pos (by omega)]; rfl
  · rw [K.dgs_big h1, if_neg (by omega)]; simp
theorem cnt_le (p : Nat) (h : p < 1000000000) : cnt p ≤ 9 := by
  unfold cnt
  split
  · omega
  · exact (K.dgs_len p 9 (by omega)).2 h
theorem dgs_top {xs : List Nat} {top : Nat} {j : Nat} (hL : K.Lim xs) (hl : xs.length = j + 1) (ht : xs[j]? = some top) : 0 < top ∧ (K.dgs (K.lv xs)).length = 9 * j + cnt top := by
  have e := lv_take_at ht
  rw [List.take_of_length_le (by omega)] at e
  have h0 : 0 < top := by
    rcases Nat.eq_zero_or_pos top with h | h
    · exfalso
      apply hL.2
      rw [List.getLast?_eq_getElem?, hl, Nat.add_sub_cancel, ht, h]
    · exact h
  have h1 : K.lv (xs.take j) < 1000000000 ^ j := by
    have := K.lv_lt (xs.take j) (fun z hz => hL.1 z (List.mem_of_mem_take hz))
    rwa [List.length_take, Nat.min_eq_left (by omega)] at this
  have hc : cnt top = (K.dgs top).length := if_neg (by omega)
  refine ⟨h0, ?_⟩
  have hp : (1000000000 : Nat) ^ j = 10 ^ (9 * j) := by rw [Nat.pow_mul]
  rw [hp] at e h1
  have hct : 1 ≤ cnt top := by rw [cnt_pos h0]; omega
  have up : (K.dgs (K.lv xs)).length ≤ 9 * j + cnt top := by
    refine (K.dgs_len _ _ (by omega)).2 ?_
    have ht2 : top < 10 ^ cnt top := (K.dgs_len top _ hct).1 (by omega)
    rw [e, Nat.pow_add]
    have : 10 ^ (9 * j) * (top + 1) ≤ 10 ^ (9 * j) * 10 ^ cnt top := Nat.mul_le_mul_left _ ht2
    rw [Nat.mul_add] at this
    omega
  have lo : ¬ (K.dgs (K.lv xs)).length ≤ 9 * j + cnt top - 1 := by
    intro h
    by_cases hz : 1 ≤ 9 * j + cnt top - 1
    · have h2 := (K.dgs_len _ _ hz).1 h
      by_cases h3 : cnt top = 1
      · have h4 : 10 ^ (9 * j) * 1 ≤ 10 ^ (9 * j) * top := Nat.mul_le_mul_left _ h0
        rw [h3, show 9 * j + 1 - 1 = 9 * j by omega] at h2
        omega
      · have h4 : ¬ top < 10 ^ (cnt top - 1) := by
          intro h5
          have := (K.dgs_len top (cnt top - 1) (by omega)).2 h5
          omega
        have h5 : 10 ^ (9 * j) * 10 ^ (cnt top - 1) ≤ 10 ^ (9 * j) * top := Nat.mul_le_mul_left _ (by omega)
        rw [← Nat.pow_add, show 9 * j + (cnt top - 1) = 9 * j + cnt top - 1 by omega] at h5
        omega
    · have := len_pos' (K.dgs_ne (K.lv xs))
      omega
  omega
where
  len_pos' {a : List UInt8} (h : a ≠ []) : 0 < a.length := List.length_pos_iff.2 h
theorem fits_digits (n : Int) : (K.fits n ↔ ((K.dgs n.natAbs).length : Int) ≤ 2000) := by rw [K.fits_len]; omega
theorem top_succ (k : Nat) : TOP (k + 1) = TOP k * 1000000000 := TOP_add k 1
theorem add_big {a b : Int} (ha : K.fits a) (hb : K.fits b) : (a + b).natAbs ≤ BIG := by
  have h1 := fits_top ha
  have h2 := fits_top hb
  have h3 := top_succ 223
  exact le_big (a := 223 + 1) (by omega) (by omega)
theorem sub_big {a b : Int} (ha : K.fits a) (hb : K.fits b) : (a - b).natAbs ≤ BIG := by
  have h1 := fits_top ha
  have h2 := fits_top hb
  have h3 := top_succ 223
  exact le_big (a := 223 + 1) (by omega) (by omega)
theorem mul_big {a b : Int} (ha : K.fits a) (hb : K.fits b) : (a * b).natAbs ≤ BIG := by
  rw [Int.natAbs_mul]
  exact le_big (mul_top (fits_top ha) (fits_top hb)) (by omega)
end Go.Proofs.YtflgkijmbpcnfaaDoor
/- the reference's Of, at a number that is not negative -/
namespace Go.Proofs.YtflgkijmbpcnfaaDoor
open Go.RowKit
end Go.Proofs.YtflgkijmbpcnfaaDoor
/- the reference's Of at 1, and Part -/
namespace Go.Proofs.YtflgkijmbpcnfaaDoor
open Go.RowKit
theorem row_facts {w : World} {g : Nat} {t : TypeId} {a b : Value} (h : Row w g t [a, b]) : w.cell? ⟨g, 0, none⟩ = some a ∧ w.cell? ⟨g, 1, none⟩ = some b ∧ w.frozen? ⟨g, 0, none⟩ = false ∧ w.frozen? ⟨g, 1, none⟩ = false :=
  ⟨by rw [h.cell]; rfl, by rw [h.cell]; rfl, h.free 0, h.free 1⟩
/-- a number and a small one -/
def NumInt (q r : Int) (w : World) (e : Ending) (w' : World) : Prop := ∃ v, e = .returned (.tuple #[v, .int .i64 r]) ∧ RefV w' v q ∧ Ext w w'
theorem part_step {d x Q r X s : Nat} (h : d * Q + r = X) (hs : s = r * 1000000000 + x) : d * (s / d + 1000000000 * Q) + s % d = x + 1000000000 * X := by
  have h1 := Nat.div_add_mod s d
  rw [Nat.mul_add, ← h, Nat.mul_add, ← Nat.mul_assoc, Nat.mul_comm d 1000000000, Nat.mul_assoc]
  omega
theorem drop_set {l : List Nat} {j v : Nat} (h : j < l.length) : (l.set j v).drop j = v :: l.drop (j + 1) := by
  rw [List.drop_set, if_neg (Nat.lt_irrefl j), Nat.sub_self]
  rw [List.drop_eq_getElem_cons h]; rfl
theorem NumInt.stored {w w3 : World} {q r : Int} {b : Bool} {A : Option Addr} {k c H : Nat} {t : TypeId} (r1 : Row w3 H t [.bool false, .slice none 0 0]) (hw : Ext w w3) (hH : w.heap.size ≤ H) (hv : RefV w3 (.agg #[.bool b, .slice A k c]) q) :
    NumInt q r w (.returned (.tuple #[.agg #[.bool b, .slice A k c], .int .i64 r])) ((w3.setCell ⟨H, 0, none⟩ (.bool b)).setCell ⟨H, 1, none⟩ (.slice A k c)) := by
  obtain ⟨A', k', c', xs, b', e, h1, h2, h3, h4, h5, h6⟩ := hv
  cases e
  exact ⟨_, rfl, ⟨_, _, _, xs, _, rfl, h1, h2, h3, RefV.two h4 r1, h5, h6⟩, (hw.set' (by show _ ≤ H; omega) _).set' (by show _ ≤ H; omega) _⟩
end Go.Proofs.YtflgkijmbpcnfaaDoor
/- maps in memory; step.validRule -/
namespace Go.Proofs.YtflgkijmbpcnfaaDoor
open Go.RowKit
abbrev Is (l : List Int) : List Value := l.map fun (x : Int) => Value.int .i64 x
theorem Rd.atI {w : World} {A : Option Addr} {l : List Int} (h : Rd w A (Is l)) {k : Nat} (hk : k < l.length) :
    ∃ b o, A = some ⟨b, o, none⟩ ∧ b < w.heap.size ∧ w.cell? ⟨b, o + k, none⟩ = some (.int .i64 (l.getD k 0)) := by
  rcases h with h | ⟨b, o, ha, hb, hc⟩
  · rw [List.map_eq_nil_iff] at h; subst h; cases hk
  · refine ⟨b, o, ha, hb, hc k _ ?_⟩
    rw [List.getElem?_map, List.getElem?_eq_getElem hk, List.getD_eq_getElem?_getD, List.getElem?_eq_getElem hk]; rfl
/-- a map in memory -/
def MapV (w : World) (v : Value) (m : Int) (us ad : List Int) : Prop :=
  ∃ A k c B l d, v = .agg #[.int .i64 m, .slice A k c, .slice B l d] ∧ us.length = k ∧ k ≤ c ∧ ad.length = l ∧ l ≤ d ∧ Rd w A (Is us) ∧ Rd w B (Is ad) ∧ k ≤ 140737488351232 ∧ l ≤ 140737488351232
/-- a map whose lists can be copied -/
def Fit8 (v : Value) : Prop := ∀ m A k c B l d, v = .agg #[.int .i64 m, .slice A k c, .slice B l d] → k * 8 ≤ 140737488355328 ∧ l * 8 ≤ 140737488355328
theorem MapV.ext {w w' : World} {v : Value} {m : Int} {us ad : List Int} (h : MapV w v m us ad) (e : Ext w w') : MapV w' v m us ad := by
  obtain ⟨A, k, c, B, l, d, h1, h2, h3, h4, h5, h6, h7, h8⟩ := h
  exact ⟨A, k, c, B, l, d, h1, h2, h3, h4, h5, h6.ext e, h7.ext e, h8⟩
/-- the box of a map -/
theorem three_facts {W w' : World} {a b c : Value} {t : TypeId} {H : Nat} (e : Ext (W.alloc (.cells #[a, b, c] t)) w') (hH : W.heap.size = H) :
    w'.cell? ⟨H, 0, none⟩ = some a ∧ w'.cell? ⟨H, 1, none⟩ = some b ∧ w'.cell? ⟨H, 2, none⟩ = some c ∧ Row w' H t [a, b, c] := by
  subst hH
  have r : Row w' W.heap.size t [a, b, c] := (Row.new W t [a, b, c]).ext e
  exact ⟨by rw [r.cell]; rfl, by rw [r.cell]; rfl, by rw [r.cell]; rfl, r⟩
set_option maxRecDepth 100000 in
set_option maxHeartbeats 800000 in
theorem validRule_any (m r u a : Int) (w : World) (hm : 2 ≤ m) (hm2 : m ≤ 12) (hr : 0 ≤ r) (hr2 : r < m) {b : Bool} (hb : Hid (ruleB m r u a = b)) :
    Calls Tryd.prog 17 #[.int .i64 m, .int .i64 r, .int .i64 u, .int .i64 a] w (fun e w' => e = .returned (.bool b) ∧ w = w') := by
  have hno : ∀ (_ : ¬ ruleP m r u a), Hid (b = false) := fun h => hid (by rw [← hb.out]; exact decide_eq_false h)
  by_cases h1 : u < 1
  · have HF := hno (fun h => by unfold ruleP at h; omega)
    clear hno hb
    go_enter Tryd.func17, Tryd.ntmps17
    go_wp2
    go_ret
    exact ⟨by rw [HF.out]; rfl, rfl⟩
  · by_cases h2 : 999 < u
    · have HF := hno (fun h => by unfold ruleP at h; omega)
      clear hno hb
      go_enter Tryd.func17, Tryd.ntmps17
      go_wp2
      go_ret
      exact ⟨by rw [HF.out]; rfl, rfl⟩
    · by_cases h3 : a < -999999
      · have HF := hno (fun h => by unfold ruleP at h; omega)
        clear hno hb
        go_enter Tryd.func17, Tryd.ntmps17
        go_wp2
        go_ret
        exact ⟨by rw [HF.out]; rfl, rfl⟩
      · by_cases h4 : 999999 < a
        · have HF := hno (fun h => by unfold ruleP at h; omega)
          clear hno hb
          go_enter Tryd.func17, Tryd.ntmps17
          go_wp2
          go_ret
          exact ⟨by rw [HF.out]; rfl, rfl⟩
        · have hp : 0 ≤ u * r ∧ u * r ≤ 10989 := by
            refine ⟨Int.mul_nonneg (by omega) hr, ?_⟩
            have := Int.mul_le_mul (show u ≤ 999 by omega) (show r ≤ 11 by omega) hr (by omega)
            omega
          obtain ⟨q, hq⟩ : ∃ q, u * r = q := ⟨_, rfl⟩
          rw [hq] at hp
          have hp1 := hp.1
          have hp2 := hp.2
          have HQ := hid hq
          have HF : Hid (((q + a).tmod m == 0) = b) := hid (by
            rw [← hb.out, Bool.eq_iff_iff]
            unfold ruleB
            rw [beq_iff_eq, decide_eq_true_iff, tmod_zero]
            unfold ruleP
            rw [hq]
            constructor
            · intro h; exact ⟨by omega, by omega, by omega, by omega, h⟩
            · intro h; exact h.2.2.2.2)
          clear hno hb hp
          go_enter Tryd.func17, Tryd.ntmps17
          go_wp2
          go_ret
          exact ⟨by show Ending.returned (.bool ((q + a).tmod m == 0)) = _; rw [HF.out], rfl⟩
end Go.Proofs.YtflgkijmbpcnfaaDoor
