/- Joined texts: the reference's Sign; Parse of a valid text; the reference's Cmp; the reference's Text. -/
import Derived.Test.YtoilkfohhhidpaaDoorJCNumPowers09
import Derived.Test.YtoilkfohhhidpaaDoorJCNumPowers08
import Derived.Test.YtoilkfohhhidpaaDoorJCNumPowers11
import Derived.Test.YtoilkfohhhidpaaDoorJCNumPowers06
/- the reference's Sign; Parse of a valid text -/
namespace Go.Proofs.YtoilkfohhhidpaaDoor
open Go.RowKit
def sgn0 (n : Int) : Int := if n = 0 then 0 else if n < 0 then -1 else 1
set_option maxRecDepth 100000 in
theorem rsign_any (v : Value) (n : Int) (w : World) (h : RefV w v n) :
    Calls Tryd.prog 24 #[v] w (fun e w' => e = .returned (.int .i64 (sgn0 n)) ∧ Ext w w') := by
  obtain ⟨A, k, c, xs, b, rfl, hb, hl, hc, hr, hL, hv⟩ := h
  have hk : k = 0 ↔ n = 0 := by
    have := hL.zero_iff
    rw [hv, ← List.length_eq_zero_iff, hl] at this
    rw [← this]; omega
  have HB := hb
  clear hb hr hL hv hl
  by_cases h0 : n = 0
  · have hk0 := hk.2 h0
    subst hk0 h0
    clear hk HB
    go_enter Tryd.func24, Tryd.ntmps24
    go_wp2
    go_ret
    exact ⟨rfl, (Ext.rfl' w).alloc' _⟩
  · have hk0 : ¬ k = 0 := fun e => h0 (hk.1 e)
    clear hk
    by_cases hn : n < 0
    · have hs : Hid (sgn0 n = -1) := hid (by unfold sgn0; rw [if_neg h0, if_pos hn])
      obtain rfl : b = true := by rw [HB.out]; exact decide_eq_true hn
      clear h0 hn HB
      have HF : Hid (∀ w', Ext w w' → (Ending.returned (.int .i64 (-1)) = .returned (.int .i64 (sgn0 n)) ∧ Ext w w')) := hid fun w' h => ⟨by rw [hs.out], h⟩
      go_enter Tryd.func24, Tryd.ntmps24
      go_wp2
      go_ret
      exact HF.out _ ((Ext.rfl' w).alloc' _)
    · have hs : Hid (sgn0 n = 1) := hid (by unfold sgn0; rw [if_neg h0, if_neg hn])
      obtain rfl : b = false := by rw [HB.out]; exact decide_eq_false hn
      clear h0 hn HB
      have HF : Hid (∀ w', Ext w w' → (Ending.returned (.int .i64 1) = .returned (.int .i64 (sgn0 n)) ∧ Ext w w')) := hid fun w' h => ⟨by rw [hs.out], h⟩
      go_enter Tryd.func24, Tryd.ntmps24
      go_wp2
      go_ret
      exact HF.out _ ((Ext.rfl' w).alloc' _)
theorem valid_len {l : List UInt8} (h : K.validL l = true) : l.length ≤ 2001 := by
  rw [← (K.txt_numL l h).1]; exact K.txt_len _ (K.txt_numL l h).2
theorem parse_any (l : List UInt8) (w : World) (hv : K.validL l = true) :
    Calls Tryd.prog 15 #[.string (Str l)] w (RefPost (K.numL l) w) := by
  obtain ⟨hd, hlen, hpos⟩ := body_all hv
  obtain ⟨hval, hll⟩ := body_val hv
  have hln := valid_len hv
  have hS := Str_size l
  by_cases hn : K.numL l < 0
  · have hh : l.head? = some 45 := by
      have := (K.head_txt (K.numL l)).2 hn
      rwa [(K.txt_numL l hv).1] at this
    obtain ⟨r, rfl⟩ : ∃ r, l = 45 :: r := by
      cases l with
      | nil => simp at hh
      | cons x r => exact ⟨r, by simp at hh; rw [hh]⟩
    have hb : K.body (45 :: r) = r := rfl
    rw [hb] at hd hlen hpos hval
    obtain ⟨h0, e0⟩ := Str_at (l := 45 :: r) (i := 0) (c := 45) rfl
    exact parse_neg (45 :: r) _ w hln (by simp; omega) h0 (by rw [e0]; rfl) (hid hd) (hid hval) (hid hn)
  · have hh : ¬ l.head? = some 45 := by
      intro e
      apply hn
      have := (K.head_txt (K.numL l)).1
      rw [(K.txt_numL l hv).1] at this
      exact this e
    have hb : K.body l = l := by unfold K.body; rw [if_neg hh]
    rw [hb] at hd hlen hpos hval
    cases l with
    | nil => simp at hpos
    | cons x r =>
      obtain ⟨h0, e0⟩ := Str_at (l := x :: r) (i := 0) (c := x) rfl
      exact parse_pos (x :: r) _ w hln hpos h0 (by rw [e0]; exact ne_lit (c := x) (d := 45) (fun e => hh (by subst e; rfl))) (hid hd) (hid hval) (hid (by omega))
end Go.Proofs.YtoilkfohhhidpaaDoor
/- the reference's Cmp -/
namespace Go.Proofs.YtoilkfohhhidpaaDoor
open Go.RowKit
theorem sgn0_lt {a b : Int} (h : ¬ sgn0 a = sgn0 b) : (sgn0 a < sgn0 b → sgnI a b = -1) ∧ (¬ sgn0 a < sgn0 b → sgnI a b = 1) := by
  unfold sgn0 at *; unfold sgnI
  repeat' (split at h)
  all_goals (constructor <;> intro h2 <;> simp_all <;> omega)
theorem sgn0_eq {a b : Int} (h : sgn0 a = sgn0 b) : (a < 0 → sgn b.natAbs a.natAbs = sgnI a b) ∧ (¬ a < 0 → sgn a.natAbs b.natAbs = sgnI a b) := by
  have h2 : (a < 0 ↔ b < 0) ∧ (a = 0 ↔ b = 0) := by
    unfold sgn0 at h
    repeat' (split at h)
    all_goals (constructor <;> omega)
  unfold sgn sgnI
  constructor <;> intro h3 <;> (repeat' split) <;> omega
set_option maxRecDepth 100000 in
set_option maxHeartbeats 1600000 in
theorem rcmp_any (va vb : Value) (a b : Int) (w : World) (ha : RefV w va a) (hb : RefV w vb b) (la : a.natAbs ≤ BIG) (lb : b.natAbs ≤ BIG) :
    Calls Tryd.prog 20 #[va, vb] w (fun e w' => e = .returned (.int .i64 (sgnI a b)) ∧ Ext w w') := by
  have HA := hid ha
  have HB := hid hb
  obtain ⟨A, ka, ca, xs, na, rfl, HNA, hla, hca, hra, hLa, hva⟩ := ha
  obtain ⟨B, kb, cb, ys, nb, rfl, HNB, hlb, hcb, hrb, hLb, hvb⟩ := hb
  have l1 := len_of_big hLa (by omega)
  have l2 := len_of_big hLb (by omega)
  have bka : ka ≤ 1000000 := by omega
  have bkb : kb ≤ 1000000 := by omega
  have hW2 : Ext w ((w.alloc (.cells #[.bool na, .slice A ka ca] 31)).alloc (.cells #[.bool nb, .slice B kb cb] 31)) := ((Ext.rfl' w).alloc' _).alloc' _
  have hk : ∀ w', Ext ((w.alloc (.cells #[.bool na, .slice A ka ca] 31)).alloc (.cells #[.bool nb, .slice B kb cb] 31)) w' →
      w'.cell? ⟨w.heap.size, 0, none⟩ = some (.bool na) ∧ w'.cell? ⟨w.heap.size, 1, none⟩ = some (.slice A ka ca) ∧ w'.cell? ⟨w.heap.size + 1, 0, none⟩ = some (.bool nb) ∧ w'.cell? ⟨w.heap.size + 1, 1, none⟩ = some (.slice B kb cb) := fun w' e => boxes e
  obtain ⟨W2, hW2e⟩ : ∃ W2, ((w.alloc (.cells #[.bool na, .slice A ka ca] 31)).alloc (.cells #[.bool nb, .slice B kb cb] 31)) = W2 := ⟨_, rfl⟩
  rw [hW2e] at hW2
  rw [hW2e] at hk
  have HK := hid hk
  have HW2 := hid hW2
  have HE := hid hW2e
  have hcur : Ext W2 W2 := Ext.rfl' _
  have SAB := hid (cmp_val hLa hLb)
  have SBA := hid (cmp_val hLb hLa)
  have LA := hid hla
  have LB := hid hlb
  have VA := hid hva
  have VB := hid hvb
  have RA := hid hra
  have RB := hid hrb
  clear hW2e hW2 hk hra hrb hLa hLb hva hvb l1 l2 hla hlb
  obtain ⟨sa, hsa⟩ : ∃ sa, sgn0 a = sa := ⟨_, rfl⟩
  obtain ⟨sb, hsb⟩ : ∃ sb, sgn0 b = sb := ⟨_, rfl⟩
  have CA : Hid (∀ W, Ext W2 W → Calls Tryd.prog 24 #[.agg #[.bool na, .slice A ka ca]] W (fun e w' => e = .returned (.int .i64 sa) ∧ Ext W w')) :=
    hid fun W h => by rw [← hsa]; exact rsign_any _ a _ ((HA.out.ext HW2.out).ext h)
  have CB : Hid (∀ W, Ext W2 W → Calls Tryd.prog 24 #[.agg #[.bool nb, .slice B kb cb]] W (fun e w' => e = .returned (.int .i64 sb) ∧ Ext W w')) :=
    hid fun W h => by rw [← hsb]; exact rsign_any _ b _ ((HB.out.ext HW2.out).ext h)
  by_cases hs : sa = sb
  · subst hs
    have hq : (sa == sa) = true := by simp
    have HSE := hid (sgn0_eq (hsa.trans hsb.symm))
    clear hsa hsb
    cases na with
    | true =>
      have hn : a < 0 := by have := HNA.out; simpa using this.symm
      have HF : Hid ((if kb = ka then cmpL ys xs else sgn kb ka) = sgnI a b) := hid (by
        have e := SBA.out
        rw [LA.out, LB.out, VA.out, VB.out] at e
        rw [e]; exact HSE.out.1 hn)
      clear hn
      go_enter Tryd.func20, Tryd.ntmps20
      go_wp2_with fail
      rw [HE.out]
      obtain ⟨k0, k1, k2, k3⟩ := HK.out _ hcur
      go_region_held3 (fun w' => w'.cell? ⟨w.heap.size, 0, none⟩ = some (.bool true) ∧ w'.cell? ⟨w.heap.size, 1, none⟩ = some (.slice A ka ca) ∧ w'.cell? ⟨w.heap.size + 1, 0, none⟩ = some (.bool nb) ∧ w'.cell? ⟨w.heap.size + 1, 1, none⟩ = some (.slice B kb cb))
        (first | go_keep | exact HK.out _ hcur)
        (first
          | (go_at_call_of 24 (ca); refine (CA.out _ ?_).mono ?_; (first | exact hcur | exact hcur.drew'); rintro e w3 ⟨rfl, hx⟩; have hcur := Ext.step hcur (by first | exact hx | exact Ext.undrew hx))
          | (go_at_call_of 24 (cb); refine (CB.out _ ?_).mono ?_; (first | exact hcur | exact hcur.drew'); rintro e w3 ⟨rfl, hx⟩; have hcur := Ext.step hcur (by first | exact hx | exact Ext.undrew hx)))
      all_goals
        go_wp2_with fail
        obtain ⟨k0, k1, k2, k3⟩ := HK.out _ hcur
        go_wp2_with fail
        refine (size_any B A cb ca kb ka ys xs _ ((RB.out.ext HW2.out).ext hcur) ((RA.out.ext HW2.out).ext hcur) LB.out LA.out bkb bka).mono ?_
        rintro e w4 ⟨rfl, hdr⟩
        rw [HF.out]
        have HFIN : Hid (Ext w w4) := hid ((HW2.out.step hcur).step (by first | exact hdr.ext | exact Ext.undrew hdr.ext))
        go_wp2
        go_ret
        exact ⟨rfl, HFIN.out⟩
    | false =>
      have hn : ¬ a < 0 := by have := HNA.out; simpa using this.symm
      have HF : Hid ((if ka = kb then cmpL xs ys else sgn ka kb) = sgnI a b) := hid (by
        have e := SAB.out
        rw [LA.out, LB.out, VA.out, VB.out] at e
        rw [e]; exact HSE.out.2 hn)
      clear hn
      go_enter Tryd.func20, Tryd.ntmps20
      go_wp2_with fail
      rw [HE.out]
      obtain ⟨k0, k1, k2, k3⟩ := HK.out _ hcur
      go_region_held3 (fun w' => w'.cell? ⟨w.heap.size, 0, none⟩ = some (.bool false) ∧ w'.cell? ⟨w.heap.size, 1, none⟩ = some (.slice A ka ca) ∧ w'.cell? ⟨w.heap.size + 1, 0, none⟩ = some (.bool nb) ∧ w'.cell? ⟨w.heap.size + 1, 1, none⟩ = some (.slice B kb cb))
        (first | go_keep | exact HK.out _ hcur)
        (first
          | (go_at_call_of 24 (ca); refine (CA.out _ ?_).mono ?_; (first | exact hcur | exact hcur.drew'); rintro e w3 ⟨rfl, hx⟩; have hcur := Ext.step hcur (by first | exact hx | exact Ext.undrew hx))
          | (go_at_call_of 24 (cb); refine (CB.out _ ?_).mono ?_; (first | exact hcur | exact hcur.drew'); rintro e w3 ⟨rfl, hx⟩; have hcur := Ext.step hcur (by first | exact hx | exact Ext.undrew hx)))
      all_goals
        go_wp2_with fail
        obtain ⟨k0, k1, k2, k3⟩ := HK.out _ hcur
        go_wp2_with fail
        refine (size_any A B ca cb ka kb xs ys _ ((RA.out.ext HW2.out).ext hcur) ((RB.out.ext HW2.out).ext hcur) LA.out LB.out bka bkb).mono ?_
        rintro e w4 ⟨rfl, hdr⟩
        rw [HF.out]
        have HFIN : Hid (Ext w w4) := hid ((HW2.out.step hcur).step (by first | exact hdr.ext | exact Ext.undrew hdr.ext))
        go_wp2
        go_ret
        exact ⟨rfl, HFIN.out⟩
  · have hq : (sa == sb) = false := by simpa using hs
    have hne : ¬ sgn0 a = sgn0 b := by rw [hsa, hsb]; exact hs
    have HSL := hid (sgn0_lt hne)
    rw [hsa, hsb] at HSL
    clear hsa hsb hs hne
    by_cases hlt : sa < sb
    · have HF : Hid (sgnI a b = -1) := hid (HSL.out.1 hlt)
      go_enter Tryd.func20, Tryd.ntmps20
      go_wp2_with fail
      rw [HE.out]
      obtain ⟨k0, k1, k2, k3⟩ := HK.out _ hcur
      go_region_held3 (fun w' => w'.cell? ⟨w.heap.size, 0, none⟩ = some (.bool na) ∧ w'.cell? ⟨w.heap.size, 1, none⟩ = some (.slice A ka ca) ∧ w'.cell? ⟨w.heap.size + 1, 0, none⟩ = some (.bool nb) ∧ w'.cell? ⟨w.heap.size + 1, 1, none⟩ = some (.slice B kb cb))
        (first | go_keep | exact HK.out _ hcur)
        (first
          | (go_at_call_of 24 (ca); refine (CA.out _ ?_).mono ?_; (first | exact hcur | exact hcur.drew'); rintro e w3 ⟨rfl, hx⟩; have hcur := Ext.step hcur (by first | exact hx | exact Ext.undrew hx))
          | (go_at_call_of 24 (cb); refine (CB.out _ ?_).mono ?_; (first | exact hcur | exact hcur.drew'); rintro e w3 ⟨rfl, hx⟩; have hcur := Ext.step hcur (by first | exact hx | exact Ext.undrew hx)))
      all_goals
        go_wp2_with fail
        obtain ⟨k0, k1, k2, k3⟩ := HK.out _ hcur
        go_region_held3 (fun w' => w'.cell? ⟨w.heap.size, 0, none⟩ = some (.bool na) ∧ w'.cell? ⟨w.heap.size, 1, none⟩ = some (.slice A ka ca) ∧ w'.cell? ⟨w.heap.size + 1, 0, none⟩ = some (.bool nb) ∧ w'.cell? ⟨w.heap.size + 1, 1, none⟩ = some (.slice B kb cb))
          (first | go_keep | exact HK.out _ hcur)
          (first
            | (go_at_call_of 24 (ca); refine (CA.out _ ?_).mono ?_; (first | exact hcur | exact hcur.drew'); rintro e w3 ⟨rfl, hx⟩; have hcur := Ext.step hcur (by first | exact hx | exact Ext.undrew hx))
            | (go_at_call_of 24 (cb); refine (CB.out _ ?_).mono ?_; (first | exact hcur | exact hcur.drew'); rintro e w3 ⟨rfl, hx⟩; have hcur := Ext.step hcur (by first | exact hx | exact Ext.undrew hx)))
        all_goals
          have HCUR := hid hcur
          go_wp2
          go_ret
          exact ⟨by rw [HF.out]; rfl, by first | exact HW2.out.step HCUR.out | exact (HW2.out.step HCUR.out).drewN _⟩
    · have HF : Hid (sgnI a b = 1) := hid (HSL.out.2 hlt)
      go_enter Tryd.func20, Tryd.ntmps20
      go_wp2_with fail
      rw [HE.out]
      obtain ⟨k0, k1, k2, k3⟩ := HK.out _ hcur
      go_region_held3 (fun w' => w'.cell? ⟨w.heap.size, 0, none⟩ = some (.bool na) ∧ w'.cell? ⟨w.heap.size, 1, none⟩ = some (.slice A ka ca) ∧ w'.cell? ⟨w.heap.size + 1, 0, none⟩ = some (.bool nb) ∧ w'.cell? ⟨w.heap.size + 1, 1, none⟩ = some (.slice B kb cb))
        (first | go_keep | exact HK.out _ hcur)
        (first
          | (go_at_call_of 24 (ca); refine (CA.out _ ?_).mono ?_; (first | exact hcur | exact hcur.drew'); rintro e w3 ⟨rfl, hx⟩; have hcur := Ext.step hcur (by first | exact hx | exact Ext.undrew hx))
          | (go_at_call_of 24 (cb); refine (CB.out _ ?_).mono ?_; (first | exact hcur | exact hcur.drew'); rintro e w3 ⟨rfl, hx⟩; have hcur := Ext.step hcur (by first | exact hx | exact Ext.undrew hx)))
      all_goals
        go_wp2_with fail
        obtain ⟨k0, k1, k2, k3⟩ := HK.out _ hcur
        go_region_held3 (fun w' => w'.cell? ⟨w.heap.size, 0, none⟩ = some (.bool na) ∧ w'.cell? ⟨w.heap.size, 1, none⟩ = some (.slice A ka ca) ∧ w'.cell? ⟨w.heap.size + 1, 0, none⟩ = some (.bool nb) ∧ w'.cell? ⟨w.heap.size + 1, 1, none⟩ = some (.slice B kb cb))
          (first | go_keep | exact HK.out _ hcur)
          (first
            | (go_at_call_of 24 (ca); refine (CA.out _ ?_).mono ?_; (first | exact hcur | exact hcur.drew'); rintro e w3 ⟨rfl, hx⟩; have hcur := Ext.step hcur (by first | exact hx | exact Ext.undrew hx))
            | (go_at_call_of 24 (cb); refine (CB.out _ ?_).mono ?_; (first | exact hcur | exact hcur.drew'); rintro e w3 ⟨rfl, hx⟩; have hcur := Ext.step hcur (by first | exact hx | exact Ext.undrew hx)))
        all_goals
          have HCUR := hid hcur
          go_wp2
          go_ret
          exact ⟨by rw [HF.out]; rfl, by first | exact HW2.out.step HCUR.out | exact (HW2.out.step HCUR.out).drewN _⟩
end Go.Proofs.YtoilkfohhhidpaaDoor
/- the reference's Text -/
namespace Go.Proofs.YtoilkfohhhidpaaDoor
open Go.RowKit
theorem text_end (bs : List UInt8) (N : Nat) (hd : bs.all K.dig = true) (hv : K.dvl bs = N) (hne : bs ≠ []) (hl : bs.getLast? ≠ some 48) : K.dgs N = bs.reverse := by
  have h := K.dgs_dv bs.reverse (by simpa using hne) (by simpa using hd) (fun e => absurd (by simpa using e) hl)
  rwa [K.dv, List.reverse_reverse, hv] at h
theorem text_step (bs : List UInt8) (N p r m : Nat) (h : K.dvl bs + 10 ^ m * (p + 10 * r) = N) (hm : bs.length = m) (c : UInt8) (hc : c.toNat = 48 + p % 10) :
    K.dvl (bs ++ [c]) + 10 ^ (m + 1) * (p / 10 + r) = N := by
  rw [K.dvl_append, hm]
  have e1 : K.dvl [c] = p % 10 := by simp [K.dvl, hc]
  rw [e1, ← h, Nat.pow_succ, Nat.mul_assoc, Nat.add_assoc, ← Nat.mul_add]
  congr 2
  omega
theorem Bytes_snoc (bs : List UInt8) (c : UInt8) : Bytes (bs ++ [c]) = Bytes bs ++ [.int .u8 (c.toNat : Int)] := by simp [Bytes]
theorem Rd.byte {w : World} {A : Option Addr} {l : List UInt8} (h : Rd w A (Bytes l)) {k : Nat} {x : UInt8} (hx : l[k]? = some x) :
    ∃ b o, A = some ⟨b, o, none⟩ ∧ w.cell? ⟨b, o + k, none⟩ = some (.int .u8 (x.toNat : Int)) := by
  rcases h with h | ⟨b, o, ha, hb, hc⟩
  · have : l = [] := by simpa [Bytes] using h
    subst this; simp at hx
  · exact ⟨b, o, ha, hc k _ (by simp [Bytes, hx])⟩
/-- what stands while a number is written, before limb i -/
def TxO (xs : List Nat) (N i m : Nat) (bs : List UInt8) : Prop :=
  bs.length = m ∧ bs.all K.dig = true ∧ (i < xs.length → m = 9 * i ∧ K.dvl bs + 10 ^ (9 * i) * K.lv (xs.drop i) = N) ∧ (i = xs.length → K.dvl bs = N ∧ bs ≠ [] ∧ bs.getLast? ≠ some 48)
/-- .. inside limb i, t digits of it written, p left -/
def TxI (xs : List Nat) (N i t p : Nat) (bs : List UInt8) : Prop :=
  bs.length = 9 * i + t ∧ bs.all K.dig = true ∧ K.dvl bs + 10 ^ (9 * i + t) * (p + 10 ^ (9 - t) * K.lv (xs.drop (i + 1))) = N ∧ p < 10 ^ (9 - t) ∧ (i + 1 = xs.length → 0 < p ∨ (bs ≠ [] ∧ bs.getLast? ≠ some 48))
theorem TxO.enter {xs : List Nat} {N i m x : Nat} {bs : List UInt8} (h : TxO xs N i m bs) (hL : K.Lim xs) (hx : xs[i]? = some x) : m = 9 * i ∧ TxI xs N i 0 x bs := by
  obtain ⟨hi, hxe⟩ := List.getElem?_eq_some_iff.1 hx
  obtain ⟨h1, h2, h3, _⟩ := h
  obtain ⟨h3, h4⟩ := h3 hi
  have hlt : x < 1000000000 := hL.1 x (by rw [← hxe]; exact List.getElem_mem hi)
  refine ⟨h3, by omega, h2, ?_, hlt, fun e => ?_⟩
  · rw [drop_at hx] at h4; exact h4
  · left
    apply Nat.pos_of_ne_zero
    intro e0
    apply hL.2
    rw [List.getLast?_eq_getElem?, show xs.length - 1 = i by omega, hx, e0]
theorem TxI.step {xs : List Nat} {N i t p : Nat} {bs : List UInt8} (h : TxI xs N i t p bs) (ht : t < 9) (hx : 0 < p ∨ i + 1 < xs.length) : TxI xs N i (t + 1) (p / 10) (bs ++ [K.chr (p % 10)]) := by
  obtain ⟨h1, h2, h3, h4, h5⟩ := h
  have hp : 10 ^ (9 - t) = 10 * 10 ^ (9 - (t + 1)) := by rw [← Nat.pow_succ']; congr 1; omega
  have hc := K.chr_toNat (n := p % 10) (by omega)
  refine ⟨by simp; omega, ?_, ?_, ?_, fun e => ?_⟩
  · rw [List.all_append, h2]; simp [K.dig_chr (n := p % 10) (by omega)]
  · rw [hp, Nat.mul_assoc] at h3
    exact text_step bs N p _ (9 * i + t) h3 h1 _ hc
  · rw [hp] at h4; omega
  · by_cases h0 : 0 < p / 10
    · exact .inl h0
    · right
      refine ⟨by simp, ?_⟩
      rw [List.getLast?_append]
      simp only [List.getLast?_singleton, Option.some_or]
      intro e2
      have e3 : (K.chr (p % 10)).toNat = 48 := by rw [Option.some.inj e2]; rfl
      rw [hc] at e3
      omega
theorem TxI.leave {xs : List Nat} {N i t p : Nat} {bs : List UInt8} (h : TxI xs N i t p bs) (hi : i < xs.length) (ht : t ≤ 9) (hx : ¬ (t < 9 ∧ (0 < p ∨ i + 1 < xs.length))) : TxO xs N (i + 1) (9 * i + t) bs := by
  obtain ⟨h1, h2, h3, h4, h5⟩ := h
  have hp : p = 0 := by
    by_cases h9 : t = 9
    · subst h9; simp at h4; exact h4
    · omega
  subst hp
  refine ⟨h1, h2, fun e => ?_, fun e => ?_⟩
  · obtain rfl : t = 9 := by omega
    refine ⟨by omega, ?_⟩
    simpa [Nat.mul_add] using h3
  · rw [List.drop_of_length_le (by omega)] at h3
    simp [K.lv] at h3
    exact ⟨h3, (h5 e).resolve_left (by omega)⟩
set_option maxRecDepth 100000 in
set_option maxHeartbeats 6400000 in
theorem rtext_any (v : Value) (n : Int) (w : World) (h : RefV w v n) (hb : n.natAbs ≤ BIG) : Calls Tryd.prog 86 #[v] w (StrPost (K.txt n) w) := by
  obtain ⟨A, k, c, xs, b, rfl, hbn, hl, hkc, hr, hL, hv⟩ := h
  have hlen : xs.length ≤ 1000 := len_of_big hL (by omega)
  by_cases hk0 : k = 0
  · subst hk0
    have h0 : n = 0 := by
      have := hL.zero_iff.2 (List.length_eq_zero_iff.1 hl)
      omega
    subst h0
    have ht : Hid (K.txt 0 = [48]) := hid K.txt_zero
    clear hbn hl hr hL hv hb hlen
    go_enter Tryd.func86, Tryd.ntmps86
    go_wp2
    go_ret
    exact ⟨by rw [ht.out]; rfl, (Ext.rfl' w).alloc' _⟩
  · have hlk : k ≤ 1000 := by omega
    have hkp : 0 < k := by omega
    obtain ⟨N, hN⟩ : ∃ N, N = n.natAbs := ⟨_, rfl⟩
    rw [← hN] at hv
    have HN := hid hN
    have HLX := hid hl
    have HL := hid hL
    have HV := hid hv
    have HR := hid hr
    obtain ⟨i0, hi, hz0, hz1, hz2⟩ := info_parts infoB
    have hkz : ((k : Int) == 0) = false := by simp; omega
    clear hl hr hL hv hb hN hk0 hlen hkc
    go_enter Tryd.func86, Tryd.ntmps86
    go_wp2_with fail
    generalize hW0 : w.alloc (.cells #[.bool b, .slice A k c] 31) = W0
    have hE : Ext w W0 := by rw [← hW0]; exact (Ext.rfl' w).alloc' _
    have hR : Row W0 w.heap.size 31 [.bool b, .slice A k c] := by rw [← hW0]; exact Row.new w _ _
    clear hW0
    go_loopw [3, 4] (fun v z wr => ∃ (i m : Nat) (bs : List UInt8) (A1 : Option Addr) (c1 : Nat), v = .slice A1 m c1 ∧ z = .int .i64 (i : Int) ∧ i ≤ k ∧ m ≤ 9 * i ∧ wr.ownsRow W0.heap.size 5 1 (.slice A1 m c1) m (Bytes bs) ∧ Ext W0 wr ∧ W0.heap.size ≤ wr.heap.size ∧
        Hid (TxO xs N i m bs)) (fun _ z _ => k - (intOf z).toNat)
    case atStart =>
      exact ⟨0, 0, [], none, 0, rfl, rfl, by omega, by omega, World.ownsRow_nil _ _ _ _, Ext.rfl' _, Nat.le_refl _, hid ⟨rfl, rfl, fun _ => ⟨rfl, by simpa [K.dvl] using HV.out⟩, fun e => absurd e (by rw [HLX.out]; omega)⟩⟩
    case round =>
      obtain ⟨i, m, bs, A1, c1, rfl, rfl, hik, hmi, hown, hex, hsz, htx⟩ := hrel
      have HOWN := hid hown
      have hrow := hR.ext hex
      have g0 : wr.cell? ⟨w.heap.size, 0, none⟩ = some (.bool b) := hrow.cell 0
      have g1 : wr.cell? ⟨w.heap.size, 1, none⟩ = some (.slice A k c) := hrow.cell 1
      clear hown
      by_cases hlt : i < k
      · obtain ⟨lb, lo, x, eA, ex, _, hx⟩ := ((HR.out.ext hE).ext hex).at_ (k := i) (by rw [HLX.out]; exact hlt)
        subst eA
        obtain ⟨hmm, htI⟩ := htx.out.enter HL.out ex
        have HTI := hid htI
        have HMM := hid hmm
        clear htI ex hmm htx
        go_wp2_with fail
        have hi1 : (i : Int) < (k : Int) := by omega
        clear hmi
        go_loopw [3, 5, 6] (fun v pt kt wq => ∃ (t p : Nat) (bs : List UInt8) (A1 : Option Addr) (c1 : Nat), v = .slice A1 (9 * i + t) c1 ∧ pt = .int .i64 (p : Int) ∧ kt = .int .i64 (t : Int) ∧ t ≤ 9 ∧ p < 1000000000 ∧ wq.ownsRow W0.heap.size 5 1 (.slice A1 (9 * i + t) c1) (9 * i + t) (Bytes bs) ∧ Ext W0 wq ∧ W0.heap.size ≤ wq.heap.size ∧
            Hid (TxI xs N i t p bs)) (fun _ _ kt _ => 9 - (intOf kt).toNat)
        case atStart => exact ⟨0, x, bs, A1, c1, by rw [HMM.out, Nat.add_zero], rfl, rfl, by omega, HTI.out.2.2.2.1, by have := HOWN.out; rwa [HMM.out] at this, hex, hsz, HTI⟩
        case round =>
          clear HOWN HTI hrow g0 g1 hx hex hsz
          obtain ⟨t, p, bs1, A2, c2, rfl, rfl, rfl, ht, hpb, hown, hex, hsz, hti⟩ := hrel
          have HOWN := hid hown
          have hrow := hR.ext hex
          have g0 : wr.cell? ⟨w.heap.size, 0, none⟩ = some (.bool b) := hrow.cell 0
          have g1 : wr.cell? ⟨w.heap.size, 1, none⟩ = some (.slice (some ⟨lb, lo, none⟩) k c) := hrow.cell 1
          clear hown
          by_cases hgo : t < 9 ∧ (0 < p ∨ i + 1 < k)
          · obtain ⟨ht9, hor⟩ := hgo
            have hstep := hti.out.step ht9 (by rw [HLX.out]; exact hor)
            have hch := K.chr_toNat (n := p % 10) (by omega)
            have HST := hid hstep
            have hval : ((48 : Int) + (p : Int) % 10) = ((K.chr (p % 10)).toNat : Int) := by rw [hch]; omega
            have HVAL := hid hval
            have hbd : K.chr (p % 10) = K.chr (p % 10) := rfl
            clear hstep hch hti hval hbd
            have hor2 : 0 < p ∨ (¬ 0 < p ∧ (i : Int) < (k : Int) - 1) := by omega
            clear hor
            rcases hor2 with hp | ⟨hp, hlast⟩
            · have hp2 : (0 : Int) < (p : Int) := by omega
              go_wp2_with (at_builtin; refine wpList_append_own _ rfl _ _ 116 rfl W0.heap.size 5 i0 (.int .u8 0) 1 1 Tryd.underlying116 hi hz0 hz1 hz2 rfl (by decide) _ _ _ rfl (HOWN.out.alloc _) ⟨wr.heap.size, 0, none⟩ 1 1 [_] rfl rfl (cell_one_new _ _ _) (fun u hu => by simp at hu; subst hu; rfl) ?c1 ?c2 ?c3 ?_)
              case c1 => unfold maxLen; omega
              case c2 => omega
              case c3 => first | omega | (simp; omega)
              intro v' w1 hown' hgrow hnil
              rw [HVAL.out, ← Bytes_snoc] at hown'
              obtain ⟨g, cap, sp, rfl, hg, hc1, hc2, hrow1, hvl, hsl⟩ := own_form hown' (by omega)
              have hex' : Ext W0 w1 := (hex.alloc' _).grown hgrow (by simp; omega) (by
                intro k hk
                exact (HOWN.out.lt k hk).1)
              have hsz' : W0.heap.size ≤ w1.heap.size := hex'.size
              have HO := hid hown'
              clear hown' hgrow hnil hrow1 hvl hsl hg hc1 hc2
              go_wp2
              go_roundw
              case rel => exact ⟨t + 1, p / 10, bs1 ++ [K.chr (p % 10)], _, _, rfl, by simp, by simp, by omega, by omega, HO.out, hex', hsz', HST⟩
              case measure => simp [intOf]; omega
            · obtain rfl : p = 0 := by omega
              have hB0 : Hid (Bytes (bs1 ++ [K.chr (0 % 10)]) = Bytes bs1 ++ [.int .u8 48]) := hid (by rw [Bytes_snoc]; rfl)
              go_wp2_with (at_builtin; refine wpList_append_own _ rfl _ _ 116 rfl W0.heap.size 5 i0 (.int .u8 0) 1 1 Tryd.underlying116 hi hz0 hz1 hz2 rfl (by decide) _ _ _ rfl (HOWN.out.alloc _) ⟨wr.heap.size, 0, none⟩ 1 1 [_] rfl rfl (cell_one_new _ _ _) (fun u hu => by simp at hu; subst hu; rfl) ?c1 ?c2 ?c3 ?_)
              case c1 => unfold maxLen; omega
              case c2 => omega
              case c3 => first | omega | (simp; omega)
              intro v' w1 hown' hgrow hnil
              rw [← hB0.out] at hown'
              obtain ⟨g, cap, sp, rfl, hg, hc1, hc2, hrow1, hvl, hsl⟩ := own_form hown' (by omega)
              have hex' : Ext W0 w1 := (hex.alloc' _).grown hgrow (by simp; omega) (by
                intro k hk
                exact (HOWN.out.lt k hk).1)
              have hsz' : W0.heap.size ≤ w1.heap.size := hex'.size
              have HO := hid hown'
              clear hown' hgrow hnil hrow1 hvl hsl hg hc1 hc2
              go_wp2
              go_roundw
              case rel => exact ⟨t + 1, 0 / 10, bs1 ++ [K.chr (0 % 10)], _, _, rfl, by simp, by simp, by omega, by omega, HO.out, hex', hsz', HST⟩
              case measure => simp [intOf]; omega
          · have hlv := hti.out.leave (by rw [HLX.out]; exact hlt) ht (by rw [HLX.out]; exact hgo)
            have HLV := hid hlv
            clear hlv hti
            by_cases h9 : t < 9
            · obtain rfl : p = 0 := by omega
              have hlast : ¬ (i : Int) < (k : Int) - 1 := by omega
              clear hgo
              go_wp2
              go_roundw
              case rel => exact ⟨i + 1, 9 * i + t, bs1, A2, c2, rfl, by simp, by omega, by omega, HOWN.out, hex, hsz, HLV⟩
              case measure => simp [intOf]; omega
            · obtain rfl : t = 9 := by omega
              clear hgo h9
              go_wp2
              go_roundw
              case rel => exact ⟨i + 1, 9 * i + 9, bs1, A2, c2, rfl, by simp, by omega, by omega, HOWN.out, hex, hsz, HLV⟩
              case measure => simp [intOf]; omega
      · obtain rfl : i = k := by omega
        have hte := htx.out.2.2.2 HLX.out.symm
        have hdg := text_end bs N htx.out.2.1 hte.1 hte.2.1 hte.2.2
        have hm0 : 0 < m := by
          rw [← htx.out.1]; exact List.length_pos_iff.2 hte.2.1
        have HBL0 : Hid (bs.length = m) := hid htx.out.1
        rw [HN.out] at hdg
        have HDG := hid hdg
        clear hdg hte htx
        by_cases hneg : n < 0
        · obtain rfl : b = true := by rw [hbn.out]; exact decide_eq_true hneg
          have htxt : K.txt n = (bs ++ [45]).reverse := by unfold K.txt; rw [if_pos hneg, HDG.out]; simp
          have HTXT := hid htxt
          clear htxt hneg
          have hB45 : Hid (Bytes (bs ++ [45]) = Bytes bs ++ [.int .u8 45]) := hid (Bytes_snoc bs 45)
          go_wp2_with (at_builtin; refine wpList_append_own _ rfl _ _ 116 rfl W0.heap.size 5 i0 (.int .u8 0) 1 1 Tryd.underlying116 hi hz0 hz1 hz2 rfl (by decide) _ _ _ rfl (HOWN.out.alloc _) ⟨wr.heap.size, 0, none⟩ 1 1 [_] rfl rfl (cell_one_new _ _ _) (fun u hu => by simp at hu; subst hu; rfl) ?c1 ?c2 ?c3 ?_)
          case c1 => unfold maxLen; omega
          case c2 => omega
          case c3 => first | omega | (simp; omega)
          intro v' wB hown' hgrow hnil
          rw [← hB45.out] at hown'
          obtain ⟨g, cap, sp, rfl, hg, hc1, hc2, hrowB, hvl, hsl⟩ := own_form hown' (by omega)
          have hex' : Ext W0 wB := (hex.alloc' _).grown hgrow (by simp; omega) (by
            intro k hk
            exact (HOWN.out.lt k hk).1)
          have hsz' : W0.heap.size ≤ wB.heap.size := hex'.size
          have HO := hid hown'
          clear hown' hgrow hnil hrowB hvl hsl hg hc1 hc2
          have HOB := HO
          have HBL : Hid ((bs ++ [45]).length = m + 1) := hid (by rw [List.length_append, HBL0.out]; rfl)
          have hexW : Ext w wB := hE.step hex'
          have hbn3 : K.txt n = ((bs ++ [45]).drop 0).reverse := HTXT.out
          clear hex hsz hrow g0 g1 HOWN HO hex' hsz' hB45 HTXT
          have HRB := hid (Rd.of_own HOB.out)
          have HBN := hid hbn3
          clear hbn3
          go_wp2_with fail
          go_loopw [7, 8] (fun v z wq => ∃ (q d : Nat) (zz : Int) (A3 : Option Addr) (c3 : Nat), v = .slice A3 d c3 ∧ z = .int .i64 zz ∧ zz + 1 = (q : Int) ∧ d + q = (m + 1) ∧ wq.ownsRow wB.heap.size 5 1 (.slice A3 d c3) d (Bytes ((bs ++ [45]).drop q).reverse) ∧ Ext wB wq ∧ wB.heap.size ≤ wq.heap.size) (fun _ z _ => (intOf z + 1).toNat)
          case atStart => exact ⟨(m + 1), 0, _, none, 0, rfl, rfl, by simp, by omega, by rw [List.drop_of_length_le (by rw [HBL.out]; omega)]; exact World.ownsRow_nil _ _ _ _, Ext.rfl' _, Nat.le_refl _⟩
          case round =>
            obtain ⟨q, d, zz, A3, c3, rfl, rfl, hzz, hq, hown, hex, hsz⟩ := hrel
            have HO3 := hid hown
            clear hown
            by_cases hq0 : q = 0
            · subst hq0
              obtain rfl : zz = -1 := by omega
              have hcv := conv_bytes HO3.out (by rw [List.length_reverse, List.length_drop, HBL.out]; omega)
              have hxx := (hexW.step hex)
              go_wp2
              go_ret
              exact ⟨by rw [HBN.out]; first | rfl | simp, hxx⟩
            · obtain ⟨r, rfl⟩ : ∃ r, q = r + 1 := ⟨q - 1, by omega⟩
              obtain rfl : zz = (r : Int) := by omega
              obtain ⟨x, ex⟩ : ∃ x, (bs ++ [45])[r]? = some x := ⟨_, List.getElem?_eq_getElem (by rw [HBL.out]; omega)⟩
              obtain ⟨bb, oo, eA, hx⟩ := (HRB.out.ext hex).byte ex
              have HX := hid ex
              cases eA
              try rw [Nat.zero_add] at hx
              clear ex
              go_wp2_with (at_builtin; refine wpList_append_own _ rfl _ _ 116 rfl wB.heap.size 5 i0 (.int .u8 0) 1 1 Tryd.underlying116 hi hz0 hz1 hz2 rfl (by decide) _ _ _ rfl (HO3.out.alloc _) ⟨wr.heap.size, 0, none⟩ 1 1 [_] rfl rfl (cell_one_new _ _ _) (fun u hu => by simp at hu; subst hu; rfl) ?c1 ?c2 ?c3 ?_)
              case c1 => unfold maxLen; omega
              case c2 => omega
              case c3 => first | omega | (simp; omega)
              intro v' w1 hown' hgrow hnil
              have hdum := trivial
              obtain ⟨g, cap, sp, rfl, hg, hc1, hc2, hrow1, hvl, hsl⟩ := own_form hown' (by omega)
              have hex' : Ext wB w1 := (hex.alloc' _).grown hgrow (by simp; omega) (by
                intro k hk
                exact (HO3.out.lt k hk).1)
              have hsz' : wB.heap.size ≤ w1.heap.size := hex'.size
              have HO := hid hown'
              clear hown' hgrow hnil hrow1 hvl hsl hg hc1 hc2
              go_wp2
              go_roundw
              case rel =>
                refine ⟨r, d + 1, (r : Int) - 1, some ⟨g, 0, none⟩, cap, rfl, rfl, by omega, by omega, ?_, hex', hsz'⟩
                · have h := HO.out
                  rw [drop_at HX.out, List.reverse_cons, Bytes_snoc]
                  simpa using h
              case measure => simp [intOf]

        · obtain rfl : b = false := by rw [hbn.out]; exact decide_eq_false hneg
          obtain ⟨wB, rfl⟩ : ∃ wB, wB = wr := ⟨_, rfl⟩
          have htxt : K.txt n = bs.reverse := by unfold K.txt; rw [if_neg hneg, HDG.out]
          have HOB := HOWN
          have HBL := HBL0
          have hexW : Ext w wB := hE.step hex
          have hbn3 : K.txt n = (bs.drop 0).reverse := htxt
          clear htxt hneg hex hsz
          have HRB := hid (Rd.of_own HOB.out)
          have HBN := hid hbn3
          clear hbn3
          go_wp2_with fail
          go_loopw [7, 8] (fun v z wq => ∃ (q d : Nat) (zz : Int) (A3 : Option Addr) (c3 : Nat), v = .slice A3 d c3 ∧ z = .int .i64 zz ∧ zz + 1 = (q : Int) ∧ d + q = m ∧ wq.ownsRow wB.heap.size 5 1 (.slice A3 d c3) d (Bytes (bs.drop q).reverse) ∧ Ext wB wq ∧ wB.heap.size ≤ wq.heap.size) (fun _ z _ => (intOf z + 1).toNat)
          case atStart => exact ⟨m, 0, _, none, 0, rfl, rfl, by simp, by omega, by rw [List.drop_of_length_le (by rw [HBL.out]; omega)]; exact World.ownsRow_nil _ _ _ _, Ext.rfl' _, Nat.le_refl _⟩
          case round =>
            obtain ⟨q, d, zz, A3, c3, rfl, rfl, hzz, hq, hown, hex, hsz⟩ := hrel
            have HO3 := hid hown
            clear hown
            by_cases hq0 : q = 0
            · subst hq0
              obtain rfl : zz = -1 := by omega
              have hcv := conv_bytes HO3.out (by rw [List.length_reverse, List.length_drop, HBL.out]; omega)
              have hxx := (hexW.step hex)
              go_wp2
              go_ret
              exact ⟨by rw [HBN.out]; first | rfl | simp, hxx⟩
            · obtain ⟨r, rfl⟩ : ∃ r, q = r + 1 := ⟨q - 1, by omega⟩
              obtain rfl : zz = (r : Int) := by omega
              obtain ⟨x, ex⟩ : ∃ x, bs[r]? = some x := ⟨_, List.getElem?_eq_getElem (by rw [HBL.out]; omega)⟩
              obtain ⟨bb, oo, eA, hx⟩ := (HRB.out.ext hex).byte ex
              have HX := hid ex
              cases eA
              try rw [Nat.zero_add] at hx
              clear ex
              go_wp2_with (at_builtin; refine wpList_append_own _ rfl _ _ 116 rfl wB.heap.size 5 i0 (.int .u8 0) 1 1 Tryd.underlying116 hi hz0 hz1 hz2 rfl (by decide) _ _ _ rfl (HO3.out.alloc _) ⟨wr.heap.size, 0, none⟩ 1 1 [_] rfl rfl (cell_one_new _ _ _) (fun u hu => by simp at hu; subst hu; rfl) ?c1 ?c2 ?c3 ?_)
              case c1 => unfold maxLen; omega
              case c2 => omega
              case c3 => first | omega | (simp; omega)
              intro v' w1 hown' hgrow hnil
              have hdum := trivial
              obtain ⟨g, cap, sp, rfl, hg, hc1, hc2, hrow1, hvl, hsl⟩ := own_form hown' (by omega)
              have hex' : Ext wB w1 := (hex.alloc' _).grown hgrow (by simp; omega) (by
                intro k hk
                exact (HO3.out.lt k hk).1)
              have hsz' : wB.heap.size ≤ w1.heap.size := hex'.size
              have HO := hid hown'
              clear hown' hgrow hnil hrow1 hvl hsl hg hc1 hc2
              go_wp2
              go_roundw
              case rel =>
                refine ⟨r, d + 1, (r : Int) - 1, some ⟨g, 0, none⟩, cap, rfl, rfl, by omega, by omega, ?_, hex', hsz'⟩
                · have h := HO.out
                  rw [drop_at HX.out, List.reverse_cons, Bytes_snoc]
                  simpa using h
              case measure => simp [intOf]

end Go.Proofs.YtoilkfohhhidpaaDoor
