/- Joined texts: numbers with a sign; Contracts of the library, laid over this dump's numbers.; appendLimb, (natural).digits, (number).text; (natural).digits, (number).text, num.write; (number).plus, (number).minus; (number).times, (number).minus. -/
import Derived.Test.YtoilkfohhhidpaaDoorJCStepParts03
import Derived.Deep.RegionHeld3
import Derived.Shelf.Small.Bits
import Derived.Shelf.Small.Wraps
import Derived.Shelf.Strconv.Itoa0
import Derived.Shelf.Strconv.Itoa1
import Derived.Shelf.LaysM
import Derived.Shelf.Strconv.Itoa2
import Derived.Shelf.Strconv.AppendUint10
import Derived.Shelf.Strconv.AppendInt10
import Derived.Shelf.Strings.Prefix
import Derived.Test.YtoilkfohhhidpaaDoorProg
import Derived.Lib.AppendStr
import Derived.Laws.BytesArg
/- numbers with a sign -/
namespace Go.Proofs.YtoilkfohhhidpaaDoor
open Go.RowKit
/-- an integer in memory -/
def NumV (w : World) (v : Value) (n : Int) : Prop := ∃ sz b, v = .agg #[.bool b, sz] ∧ Hid (b = decide (n < 0)) ∧ NatV w sz n.natAbs
theorem NumV.ext {w w' : World} {v : Value} {n : Int} (h : NumV w v n) (e : Ext w w') : NumV w' v n := by
  obtain ⟨sz, b, h1, hb, h2⟩ := h
  exact ⟨sz, b, h1, hb, h2.ext e⟩
def NumPost (n : Int) (w : World) (e : Ending) (w' : World) : Prop := ∃ v, e = .returned v ∧ NumV w' v n ∧ Ext w w'
theorem NatV.len_zero {w : World} {A : Option Addr} {k c m : Nat} (h : NatV w (.slice A k c) m) : (0 < k) ↔ 0 < m := by
  obtain ⟨A', k', c', xs, hv, hl, _, _, hL, hm⟩ := h
  injection hv with _ hk _
  subst hk hm
  have := hL.zero_iff
  rcases Nat.eq_zero_or_pos k with h0 | h0
  · have : xs = [] := List.eq_nil_of_length_eq_zero (by omega)
    subst this; simp [K.lv]; omega
  · have : xs ≠ [] := by intro e; subst e; simp at hl; omega
    have := hL.pos this
    omega
set_option maxHeartbeats 800000 in
theorem signed_any (neg : Bool) (va : Value) (a : Nat) (w : World) (ha : NatV w va a) (n : Int) (hn : n.natAbs = a) (hs : (neg && decide (0 < a)) = decide (n < 0)) :
    Calls Tryd.prog 81 #[.bool neg, va] w (NumPost n w) := by
  have ha0 := ha
  obtain ⟨A, k, c, xs, rfl, h2, h3, h4, h5, h6⟩ := ha
  have hk := ha0.len_zero
  have HS := hid hs
  have HK := hid hk
  have HN := hid hn
  clear hs hk h2 h3 h4 h5 h6 hn
  have hfin : ∀ w' b, Ext w w' → b = decide (n < 0) → NumPost n w (.returned (.agg #[.bool b, .slice A k c])) w' := fun w' b e hb => ⟨_, rfl, ⟨.slice A k c, b, rfl, hid hb, by rw [HN.out]; exact ha0.ext e⟩, e⟩
  cases neg with
  | false =>
    go_enter Tryd.func81, Tryd.ntmps81
    go_wp2
    refine bodyPost_ret (v := .agg #[.bool false, .slice A k c]) (by simp [results, Tryd.results81, go_sem]) rfl (hfin _ _ ?_ (by rw [← HS.out]; rfl))
    exact (Ext.rfl' w).alloc' _
  | true =>
    by_cases hk0 : 0 < k
    · go_enter Tryd.func81, Tryd.ntmps81
      go_wp2
      refine bodyPost_ret (v := .agg #[.bool true, .slice A k c]) (by simp [results, Tryd.results81, go_sem]) rfl (hfin _ _ ?_ (by rw [← HS.out]; simp [HK.out.1 hk0]))
      exact (Ext.rfl' w).alloc' _
    · have h0 : ¬ 0 < a := fun h => hk0 (HK.out.2 h)
      go_enter Tryd.func81, Tryd.ntmps81
      go_wp2
      refine bodyPost_ret (v := .agg #[.bool false, .slice A k c]) (by simp [results, Tryd.results81, go_sem]) rfl (hfin _ _ ?_ (by rw [← HS.out]; simp [h0]))
      exact (Ext.rfl' w).alloc' _
/-- a block of two cells of the call's own, behind a call -/
theorem two_facts {W w' : World} {a b : Value} {t : TypeId} {H : Nat} (e : Ext (W.alloc (.cells #[a, b] t)) w') (hH : W.heap.size = H) :
    w'.cell? ⟨H, 0, none⟩ = some a ∧ w'.cell? ⟨H, 1, none⟩ = some b ∧ w'.frozen? ⟨H, 0, none⟩ = false ∧ w'.frozen? ⟨H, 1, none⟩ = false ∧ H < w'.heap.size ∧ Row w' H t [a, b] := by
  subst hH
  have h : Row w' W.heap.size t [a, b] := (Row.new W t [a, b]).ext e
  exact ⟨by rw [h.cell]; rfl, by rw [h.cell]; rfl, h.free 0, h.free 1, h.lt, h⟩
theorem NatV.slice {w : World} {v : Value} {n : Nat} (h : NatV w v n) : ∃ A k c, v = .slice A k c := by
  obtain ⟨A, k, c, _, rfl, _⟩ := h
  exact ⟨A, k, c, rfl⟩
/-- a row of numbers stands while a block that holds none is written -/
theorem Rd.two {w : World} {A A1 : Option Addr} {vs : List Value} {H k1 c1 : Nat} {t : TypeId} {x : Bool} {a b : Value} (h : Rd w A vs) (hv : ∀ u ∈ vs, ∃ k q, u = .int k q)
    (r : Row w H t [.bool x, .slice A1 k1 c1]) : Rd ((w.setCell ⟨H, 0, none⟩ a).setCell ⟨H, 1, none⟩ b) A vs := by
  rcases h with h | ⟨b1, o, hA, hb, hc⟩
  · exact .inl h
  · by_cases hH : b1 = H
    · subst hH
      refine .inl ?_
      cases vs with
      | nil => rfl
      | cons u vs =>
        exfalso
        have h0 := hc 0 u rfl
        obtain ⟨k, q, rfl⟩ := hv u (List.mem_cons_self ..)
        rw [r.cell] at h0
        match o, h0 with
        | 0, h0 => simp at h0
        | 1, h0 => simp at h0
        | o + 2, h0 => simp at h0
    · refine .inr ⟨b1, o, hA, by simpa [World.setCell] using hb, fun j u hu => ?_⟩
      rw [World.cell?_of_block (Below.heap_setCell _ _ _ _ (by exact hH)), World.cell?_of_block (Below.heap_setCell _ _ _ _ (by exact hH))]
      exact hc j u hu
theorem NatV.two {w : World} {v : Value} {n : Nat} {A1 : Option Addr} {H k1 c1 : Nat} {t : TypeId} {x : Bool} {a b : Value} (h : NatV w v n) (r : Row w H t [.bool x, .slice A1 k1 c1]) :
    NatV ((w.setCell ⟨H, 0, none⟩ a).setCell ⟨H, 1, none⟩ b) v n := by
  obtain ⟨A, k, c, xs, h1, h2, h3, h4, h5⟩ := h
  exact ⟨A, k, c, xs, h1, h2, h3, h4.two (by intro u hu; obtain ⟨y, _, rfl⟩ := List.mem_map.1 hu; exact ⟨_, _, rfl⟩) r, h5⟩
/-- a number is stored into the result's cells -/
theorem NumPost.stored {w W w3 : World} {n : Int} {A3 : Option Addr} {k3 c3 H : Nat} {t : TypeId} (hx : Ext (W.alloc (.cells #[.bool false, .slice none 0 0] t)) w3) (hW : Ext w W) (hH : W.heap.size = H)
    (hz : NatV w3 (.slice A3 k3 c3) n.natAbs) (b : Bool) (hb : b = decide (n < 0)) :
    NumPost n w (.returned (.agg #[.bool b, .slice A3 k3 c3])) ((w3.setCell ⟨H, 0, none⟩ (.bool b)).setCell ⟨H, 1, none⟩ (.slice A3 k3 c3)) := by
  have r := (two_facts hx hH).2.2.2.2.2
  have hs := hW.size
  refine ⟨_, rfl, ⟨.slice A3 k3 c3, b, rfl, hid hb, hz.two r⟩, ((hW.alloc' _).step hx).set' (by show _ ≤ H; omega) _ |>.set' (by show _ ≤ H; omega) _⟩
set_option maxHeartbeats 800000 in
theorem opposite_any (v : Value) (n : Int) (w : World) (h : NumV w v n) : Calls Tryd.prog 83 #[v] w (NumPost (-n) w) := by
  obtain ⟨sz, b, rfl, hbn, hz⟩ := h
  obtain ⟨A, k, c, rfl⟩ := hz.slice
  go_enter Tryd.func83, Tryd.ntmps83
  go_wp2_with fail
  refine (signed_any (!b) _ n.natAbs _ (hz.ext (((Ext.rfl' w).alloc' _).alloc' _)) (-n) (by omega) (by
    rw [hbn.out, Bool.eq_iff_iff]; simp; omega)).mono ?_
  rintro e w3 ⟨v3, rfl, ⟨sz3, b3, rfl, hb3, hz3⟩, hx3⟩
  obtain ⟨A3, k3, c3', rfl⟩ := hz3.slice
  obtain ⟨c0, c1, f0, f1, hl, _⟩ := two_facts (H := w.heap.size + 1) hx3 (by simp)
  have hfin := NumPost.stored hx3 ((Ext.rfl' w).alloc' _) (H := w.heap.size + 1) (by simp) hz3 b3 hb3.out
  have HF := hid hfin
  clear hfin hz3 hx3
  go_wp2
  refine bodyPost_ret (v := .agg #[.bool b3, .slice A3 k3 c3']) (by simp [results, Tryd.results83, go_sem, c0, c1]) rfl ?_
  exact HF.out
end Go.Proofs.YtoilkfohhhidpaaDoor
/- Contracts of the library, laid over this dump's numbers. -/
namespace Go.Proofs.YtoilkfohhhidpaaDoor.Shelf
open Go.Shelf Go.Proofs
def l_lays125_ren : Go.Shelf.Ren := ⟨fun | 125 => 90 | 128 => 102 | 129 => 103 | n => n, fun | 46 => 120 | 3 => 3 | 51 => 128 | 53 => 91 | 4 => 4 | 5 => 5 | 9 => 9 | n => n, fun | n => n⟩
theorem l_lays125 : Go.Proofs.Lays.n125 Tryd.prog l_lays125_ren := {
  mixed := by kernel_rfl
  f125 := Tryd.func90.trans (congrArg some (by kernel_rfl))
  f128 := Tryd.func102.trans (congrArg some (by kernel_rfl))
  f129 := Tryd.func103.trans (congrArg some (by kernel_rfl))
  t3 := Tryd.underlying3
  a3 := Tryd.isAgg3
  z3 := Tryd.sizeOf3
  v3 := Tryd.zeroValue3
  t4 := Tryd.underlying4
  a4 := Tryd.isAgg4
  z4 := Tryd.sizeOf4
  v4 := Tryd.zeroValue4
  t5 := Tryd.underlying5
  a5 := Tryd.isAgg5
  z5 := Tryd.sizeOf5
  v5 := Tryd.zeroValue5
  t9 := Tryd.underlying9
  a9 := Tryd.isAgg9
  z9 := Tryd.sizeOf9
  v9 := Tryd.zeroValue9
  t46 := Tryd.underlying120
  a46 := Tryd.isAgg120
  z46 := Tryd.sizeOf120
  v46 := Tryd.zeroValue120
  t51 := Tryd.underlying128
  a51 := Tryd.isAgg128
  z51 := Tryd.sizeOf128
  v51 := Tryd.zeroValue128
  t53 := Tryd.underlying91
  a53 := Tryd.isAgg91
  z53 := Tryd.sizeOf91
  v53 := Tryd.zeroValue91 }
theorem l_bits_Len (x : Int) (w : World) (h0 : 0 ≤ x) (h1 : x ≤ 18446744073709551615) :
    Calls Tryd.prog 90 #[.int .u64 x] w fun e w' => e = .returned (.int .i64 (Lib.bitLen x.toNat)) ∧ w' = w := Any.bits_Len l_lays125 x w h0 h1
def l_laysM288_ren : Go.Shelf.Ren := ⟨fun | 288 => 112 | 283 => 118 | 284 => 119 | 285 => 120 | 286 => 121 | 129 => 103 | 317 => 127 | 318 => 128 | 319 => 129 | 320 => 130 | 337 => 136 | 338 => 137 | n => n, fun | 37 => 116 | 53 => 91 | 3 => 3 | 4 => 4 | 9 => 9 | 171 => 145 | 0 => 0 | 173 => 147 | 212 => 152 | 51 => 128 | 5 => 5 | 20 => 20 | 213 => 153 | 46 => 120 | 232 => 165 | 233 => 166 | n => n, fun | 17 => 0 | 18 => 3 | 19 => 4 | n => n⟩
theorem l_laysM288 : Go.Proofs.LaysM.n288 Tryd.prog l_laysM288_ren := {
  mixed := by kernel_rfl
  f129 := Tryd.func103.trans (congrArg some (by kernel_rfl))
  f283 := Tryd.func118.trans (congrArg some (by kernel_rfl))
  f284 := Tryd.func119.trans (congrArg some (by kernel_rfl))
  f285 := Tryd.func120.trans (congrArg some (by kernel_rfl))
  f286 := Tryd.func121.trans (congrArg some (by kernel_rfl))
  f288 := Tryd.func112.trans (congrArg some (by kernel_rfl))
  f317 := Tryd.func127.trans (congrArg some (by kernel_rfl))
  f318 := Tryd.func128.trans (congrArg some (by kernel_rfl))
  f319 := Tryd.func129.trans (congrArg some (by kernel_rfl))
  f320 := Tryd.func130.trans (congrArg some (by kernel_rfl))
  f337 := Tryd.func136.trans (congrArg some (by kernel_rfl))
  f338 := Tryd.func137.trans (congrArg some (by kernel_rfl))
  t0 := Tryd.underlying0
  a0 := Tryd.isAgg0
  z0 := Tryd.sizeOf0
  v0 := Tryd.zeroValue0
  t3 := Tryd.underlying3
  a3 := Tryd.isAgg3
  z3 := Tryd.sizeOf3
  v3 := Tryd.zeroValue3
  t4 := Tryd.underlying4
  a4 := Tryd.isAgg4
  z4 := Tryd.sizeOf4
  v4 := Tryd.zeroValue4
  t5 := Tryd.underlying5
  a5 := Tryd.isAgg5
  z5 := Tryd.sizeOf5
  v5 := Tryd.zeroValue5
  t9 := Tryd.underlying9
  a9 := Tryd.isAgg9
  z9 := Tryd.sizeOf9
  v9 := Tryd.zeroValue9
  t20 := Tryd.underlying20
  a20 := Tryd.isAgg20
  z20 := Tryd.sizeOf20
  v20 := Tryd.zeroValue20
  t37 := Tryd.underlying116
  a37 := Tryd.isAgg116
  z37 := Tryd.sizeOf116
  v37 := Tryd.zeroValue116
  t46 := Tryd.underlying120
  a46 := Tryd.isAgg120
  z46 := Tryd.sizeOf120
  v46 := Tryd.zeroValue120
  t51 := Tryd.underlying128
  a51 := Tryd.isAgg128
  z51 := Tryd.sizeOf128
  v51 := Tryd.zeroValue128
  t53 := Tryd.underlying91
  a53 := Tryd.isAgg91
  z53 := Tryd.sizeOf91
  v53 := Tryd.zeroValue91
  t171 := Tryd.underlying145
  a171 := Tryd.isAgg145
  z171 := Tryd.sizeOf145
  v171 := Tryd.zeroValue145
  t173 := Tryd.underlying147
  a173 := Tryd.isAgg147
  z173 := Tryd.sizeOf147
  v173 := Tryd.zeroValue147
  t212 := Tryd.underlying152
  a212 := Tryd.isAgg152
  z212 := Tryd.sizeOf152
  v212 := Tryd.zeroValue152
  t213 := Tryd.underlying153
  a213 := Tryd.isAgg153
  z213 := Tryd.sizeOf153
  t232 := Tryd.underlying165
  a232 := Tryd.isAgg165
  z232 := Tryd.sizeOf165
  v232 := Tryd.zeroValue165
  t233 := Tryd.underlying166
  a233 := Tryd.isAgg166
  z233 := Tryd.sizeOf166
  v233 := Tryd.zeroValue166
  g17 := by kernel_rfl
  g18 := by kernel_rfl
  g19 := by kernel_rfl
  i0 := by kernel_rfl
  i3 := by kernel_rfl
  i4 := by kernel_rfl
  i5 := by kernel_rfl
  i9 := by kernel_rfl
  i20 := by kernel_rfl
  i37 := by kernel_rfl
  i46 := by kernel_rfl
  i51 := by kernel_rfl
  i53 := by kernel_rfl
  i171 := by kernel_rfl
  i173 := by kernel_rfl
  i212 := by kernel_rfl
  i232 := by kernel_rfl
  i233 := by kernel_rfl
  m17 := by kernel_rfl
  m18 := by kernel_rfl
  m19 := by kernel_rfl }
open Go.RowKit Go.Sort Go.Lib in
theorem l_internal_strconv_AppendUint_10 (B n u : Nat) (hu64 : u < 18446744073709551616) (sv : Value) (xs : List Value) (w : World) (hown : w.ownsRow B 5 1 sv n xs) (hBw : B ≤ w.heap.size) (hlim : n + 20 ≤ 140737488355328) (htab : Lib.TabIs Tryd.prog w "internal/strconv.uint64pow10" .u64 Lib.pow10Tab) :
    Calls Tryd.prog 112 #[sv, .int .u64 u, .int .i64 10] w fun e w' => ∃ v', e = .returned v' ∧ w'.ownsRow B 5 1 v' (n + (Lib.decDigits u).length) (xs ++ Lib.byteCells (Lib.decDigits u)) ∧ Below B w w' ∧ Lib.OthersKept 5 none w w' := Any.internal_strconv_AppendUint_10 l_laysM288 B n u hu64 sv xs w hown hBw hlim htab
def l_lays101_ren : Go.Shelf.Ren := ⟨fun | 101 => 50 | 208 => 85 | 206 => 98 | n => n, fun | 9 => 9 | 4 => 4 | 3 => 3 | n => n, fun | n => n⟩
theorem l_lays101 : Go.Proofs.Lays.n101 Tryd.prog l_lays101_ren := {
  mixed := by kernel_rfl
  f101 := Tryd.func50.trans (congrArg some (by kernel_rfl))
  f206 := Tryd.func98.trans (congrArg some (by kernel_rfl))
  f208 := Tryd.func85.trans (congrArg some (by kernel_rfl))
  t3 := Tryd.underlying3
  a3 := Tryd.isAgg3
  z3 := Tryd.sizeOf3
  v3 := Tryd.zeroValue3
  t4 := Tryd.underlying4
  a4 := Tryd.isAgg4
  z4 := Tryd.sizeOf4
  v4 := Tryd.zeroValue4
  t9 := Tryd.underlying9
  a9 := Tryd.isAgg9
  z9 := Tryd.sizeOf9
  v9 := Tryd.zeroValue9 }
open Go.RowKit Go.Lib in
theorem l_strings_TrimPrefix (s p : ByteArray) (w : World) :
    Calls Tryd.prog 50 #[.string s, .string p] w fun e w' => e = .returned (.string ⟨(Lib.trimPrefix s.data.toList p.data.toList).toArray⟩) ∧ w' = w := Any.strings_TrimPrefix l_lays101 s p w
end Go.Proofs.YtoilkfohhhidpaaDoor.Shelf
/- appendLimb, (natural).digits, (number).text -/
namespace Go.Proofs.YtoilkfohhhidpaaDoor
open Go.RowKit
abbrev Bytes (l : List UInt8) : List Value := l.map fun b => Value.int .u8 (b.toNat : Int)
/-- the last k decimal digits -/
def pad : Nat → Nat → List UInt8
  | 0, _ => []
  | k + 1, x => pad k (x / 10) ++ [K.chr (x % 10)]
theorem pad_len : ∀ k x, (pad k x).length = k
  | 0, _ => rfl
  | k + 1, x => by simp [pad, pad_len k]
theorem pad_zero : ∀ k, pad k 0 = List.replicate k 48
  | 0 => rfl
  | k + 1 => by rw [pad, Nat.zero_div, pad_zero k, List.replicate_succ']; rfl
theorem dgs_pad : ∀ (k x y : Nat), x < 10 ^ k → 0 < y → K.dgs (x + 10 ^ k * y) = K.dgs y ++ pad k x
  | 0, x, y, h, _ => by
    have : x = 0 := by simpa using h
    subst this; simp [pad]
  | k + 1, x, y, h, hy => by
    have hp : 10 ^ (k + 1) * y = 10 * (10 ^ k * y) := by rw [Nat.pow_succ, Nat.mul_comm (10 ^ k) 10, Nat.mul_assoc]
    have h1 : 0 < 10 ^ k * y := Nat.mul_pos (Nat.pow_pos (by omega)) hy
    rw [Nat.pow_succ] at h
    rw [K.dgs_big (by omega), hp, show (x + 10 * (10 ^ k * y)) / 10 = x / 10 + 10 ^ k * y by omega, show (x + 10 * (10 ^ k * y)) % 10 = x % 10 by omega,
      dgs_pad k (x / 10) y (by omega) hy, pad, List.append_assoc]
theorem dgs_limb (x y : Nat) (h : x < 1000000000) (hy : 0 < y) : K.dgs (x + 1000000000 * y) = K.dgs y ++ pad 9 x := dgs_pad 9 x y h hy
theorem decDigits_dgs (n : Nat) : Lib.decDigits n = K.dgs n := by
  induction n using Nat.strongRecOn with
  | ind n ih =>
    by_cases h : n < 10
    · rw [K.dgs_small h, Lib.decDigits, dif_pos h]; rfl
    · rw [K.dgs_big h, Lib.decDigits, dif_neg h, ih _ (by omega)]; rfl
/-- the table that printing reads -/
def Tab (w : World) : Prop := Lib.TabIs Tryd.prog w "internal/strconv.uint64pow10" .u64 Lib.pow10Tab
theorem Tab.ext {w w' : World} (h : Tab w) (e : Ext w w') : Tab w' := by
  have hg : Tryd.prog.globalNamed "internal/strconv.uint64pow10" = some 0 := by kernel_rfl
  refine var?_below e hg ?_ h
  rcases Nat.lt_or_ge 0 w.heap.size with hl | hl
  · exact hl
  · exfalso
    unfold Tab Lib.TabIs World.var? at h
    rw [hg, Option.bind_some, Array.getElem?_eq_none hl] at h
    cases h
/-- what an owned row of bytes is: a block, its spare behind it -/
theorem own_form {w : World} {base n : Nat} {v : Value} {vs : List Value} {e : TypeId} (h : w.ownsRow base e 1 v n vs) (hn : 0 < n) :
    ∃ g cap sp, v = .slice (some ⟨g, 0, none⟩) n cap ∧ base ≤ g ∧ n ≤ cap ∧ cap ≤ maxLen ∧ Row w g e (vs ++ sp) ∧ vs.length = n ∧ sp.length = cap - n := by
  rcases h.2 with ⟨_, h0⟩ | ⟨g, cap, cur, hv, hg, hh, hc, hm, hs, ht⟩
  · omega
  · have hl : vs.length = n := by have := h.1; omega
    refine ⟨g, cap, cur.toList.drop (n * 1), hv, hg, hc, hm, ?_, hl, by simp; omega⟩
    unfold Row
    rw [hh, ← ht, List.take_append_drop]
theorem own_of_row {w : World} {base n g cap : Nat} {vs sp : List Value} {e : TypeId} (r : Row w g e (vs ++ sp)) (hb : base ≤ g) (hl : vs.length = n) (hc : n ≤ cap) (hm : cap ≤ maxLen) (hs : sp.length = cap - n) :
    w.ownsRow base e 1 (.slice (some ⟨g, 0, none⟩) n cap) n vs := by
  refine ⟨by omega, .inr ⟨g, cap, (vs ++ sp).toArray, rfl, hb, r, hc, hm, by simp; omega, ?_⟩⟩
  subst hl
  simp
/-- a row of the call's own from base on, and the world below base as it was -/
def BytesPost (base n : Nat) (vs : List Value) (w : World) (e : Ending) (w' : World) : Prop := ∃ v, e = .returned v ∧ w'.ownsRow base 5 1 v n vs ∧ Below base w w' ∧ base ≤ w'.heap.size
set_option maxRecDepth 100000 in
set_option maxHeartbeats 1600000 in
theorem appendLimb_any (base n x : Nat) (v : Value) (vs : List Value) (w : World) (hown : w.ownsRow base 5 1 v n vs) (hb : base ≤ w.heap.size) (hn : n ≤ 1000000) (hx : x < 1000000000) :
    Calls Tryd.prog 101 #[v, .int .u64 (x : Int)] w (BytesPost base (n + 9) (vs ++ Bytes (pad 9 x)) w) := by
  obtain ⟨i0, hi, hz0, hz1, hz2⟩ := info_parts infoB
  have hlen : ∃ A c, v = .slice A n c := by
    rcases hown.2 with ⟨h, h0⟩ | ⟨g, cap, cur, h, _⟩
    · exact ⟨none, 0, by rw [h, h0]⟩
    · exact ⟨_, cap, h⟩
  obtain ⟨A, c, rfl⟩ := hlen
  go_enter Tryd.func101, Tryd.ntmps101
  go_wp2_with (at_builtin; refine Lib.wpList_append_own_string _ rfl _ _ 116 9 rfl base 5 i0 Tryd.underlying116 Tryd.underlying9 hi hz0 hz1 hz2 _ _ _ rfl hown ⟨#[48, 48, 48, 48, 48, 48, 48, 48, 48]⟩ rfl ?c3 ?c4 hb ?_)
  case c3 => unfold maxLen; show n + 9 ≤ _; omega
  case c4 => show n + 9 ≤ _; omega
  intro v1 w1 hown1 hgrow hnil
  have hsz : n + (⟨#[48, 48, 48, 48, 48, 48, 48, 48, 48]⟩ : ByteArray).size = n + 9 := rfl
  have hstr : Lib.strCells ⟨#[48, 48, 48, 48, 48, 48, 48, 48, 48]⟩ = Bytes (List.replicate 9 48) := rfl
  rw [hstr] at hown1
  obtain ⟨g, cap, sp, rfl, hg, hc1, hc2, hrow1, hvl, hsl⟩ := own_form hown1 (by omega)
  have hvs : vs.length = n := by simp at hvl; omega
  have hbel : Below base w w1 := (Below.refl _ w).grown hgrow hb (by
    intro k hk
    exact (hown.lt k hk).1)
  have hcap : cap ≤ 9223372036854775807 := hc2
  have HVS := hid hvs
  have HSL := hid hsl
  have HC2 := hid hc2
  clear hown hown1 hgrow hnil hsz hstr hvl hvs hsl hc2
  go_wp2_with fail
  go_loopw [1, 6] (fun lim i wr => ∃ (k y : Nat) (q : Int) (done : List UInt8), k ≤ 9 ∧ i = .int .i64 q ∧ -1 ≤ q ∧ q ≤ 1000100 ∧ q + 1 = ((n + k : Nat) : Int) ∧ lim = .int .u64 y ∧ y < 1000000000 ∧ y < 10 ^ k ∧ Row wr g 5 (vs ++ Bytes (List.replicate k 48 ++ done) ++ sp) ∧ done.length + k = 9 ∧
      pad k y ++ done = pad 9 x ∧ Below base w wr ∧ base ≤ wr.heap.size) (fun lim _ _ => (intOf lim).toNat)
  case atStart =>
    exact ⟨9, x, (n : Int) + 9 - 1, [], by omega, rfl, by omega, by omega, by omega, rfl, hx, by simpa using hx, by simpa using hrow1, rfl, by simp, hbel, by have := hbel.size; omega⟩
  case round =>
    obtain ⟨k, y, q, done, hk, rfl, hq0, hq1, hq, rfl, hyb, hy, hrow, hdl, hp, hbe, hsz⟩ := hrel
    have HQ := hid hq
    have HY := hid hy
    have HDL := hid hdl
    have HP := hid hp
    clear hq hy hdl hp hrow1
    by_cases h0 : 0 < y
    · obtain ⟨j, rfl⟩ : ∃ j, k = j + 1 := ⟨k - 1, by
        rcases Nat.eq_zero_or_pos k with h | h
        · subst h; have := HY.out; omega
        · omega⟩
      obtain ⟨p, rfl⟩ := Int.eq_ofNat_of_zero_le (show 0 ≤ q by have := HQ.out; omega)
      have hpj : p = n + j := by have := HQ.out; omega
      have hcell : wr.cell? ⟨g, p, none⟩ = some (.int .u8 48) := by
        rw [hrow.cell, hpj, List.append_assoc, List.getElem?_append_right (by rw [HVS.out]; omega), HVS.out, Nat.add_sub_cancel_left, List.getElem?_append_left (by simp; omega)]
        simp [Bytes, List.getElem?_append_left]
      have hfree := hrow.free p
      have hpc : p < n + 9 := by omega
      have HPJ := hid hpj
      have hnew : Row (wr.setCell ⟨g, p, none⟩ (.int .u8 (48 + (y : Int) % 10))) g 5 (vs ++ Bytes (List.replicate j 48 ++ (K.chr (y % 10) :: done)) ++ sp) := by
        have h1 := hrow.set p (.int .u8 (48 + (y : Int) % 10))
        have e1 : (vs ++ Bytes (List.replicate (j + 1) 48 ++ done) ++ sp).set p (.int .u8 (48 + (y : Int) % 10)) = vs ++ Bytes (List.replicate j 48 ++ (K.chr (y % 10) :: done)) ++ sp := by
          rw [hpj, List.append_assoc, List.set_append_right _ _ (by rw [HVS.out]; omega), HVS.out, Nat.add_sub_cancel_left, List.set_append_left _ _ (by simp; omega)]
          rw [List.append_assoc vs]
          congr 2
          rw [List.replicate_succ', List.append_assoc, List.singleton_append]
          simp only [Bytes, List.map_append, List.map_cons]
          rw [set_app _ _ _ _ _ (by simp)]
          rw [K.chr_toNat (Nat.mod_lt _ (by omega))]
          simp
        rw [e1] at h1
        exact h1
      clear hpj
      go_wp2
      go_roundw
      case rel =>
        refine ⟨j, y / 10, (p : Int) - 1, K.chr (y % 10) :: done, by omega, rfl, by omega, by omega, by have := HPJ.out; omega, by simp, by omega, ?_, hnew, by have := HDL.out; simp; omega, ?_, hbe.setCell (by exact hg) _, by simpa [World.setCell] using hsz⟩
        · have := HY.out
          rw [Nat.pow_succ] at this
          omega
        · rw [← HP.out, pad]; simp
      case measure => simp [intOf]; omega
    · obtain rfl : y = 0 := by omega
      have hres : wr.ownsRow base 5 1 (.slice (some ⟨g, 0, none⟩) (n + 9) cap) (n + 9) (vs ++ Bytes (pad 9 x)) := by
        rw [← HP.out, pad_zero]
        exact own_of_row hrow hg (by have := HDL.out; simp [HVS.out]; omega) hc1 HC2.out HSL.out
      have HR := hid hres
      clear hres hrow
      go_wp2
      go_ret
      exact ⟨_, rfl, HR.out, hbe, hsz⟩
end Go.Proofs.YtoilkfohhhidpaaDoor
/- (natural).digits, (number).text, num.write -/
namespace Go.Proofs.YtoilkfohhhidpaaDoor
open Go.RowKit
theorem below_drewN' {B : Nat} {a w : World} (h : Below B a w) (n : Nat) : Below B a (w.drewN n) := ⟨h.os, h.tape, h.output, h.size, h.block⟩
set_option maxHeartbeats 400000 in
theorem appendUint_any (base n u : Nat) (v : Value) (vs : List Value) (w : World) (hown : w.ownsRow base 5 1 v n vs) (hb : base ≤ w.heap.size) (hn : n ≤ 1000000) (hu : u < 1000000000) (ht : Tab w) :
    Calls Tryd.prog 100 #[v, .int .u64 (u : Int), .int .i64 10] w (BytesPost base (n + (K.dgs u).length) (vs ++ Bytes (K.dgs u)) w) := by
  go_enter Tryd.func100, Tryd.ntmps100
  go_wp2_with fail
  refine (Shelf.l_internal_strconv_AppendUint_10 base n u (by omega) v vs w hown hb (by omega) ht).mono ?_
  rintro e w' ⟨v', rfl, hown', hbel, -⟩
  rw [decDigits_dgs] at hown'
  go_wp2
  go_ret
  exact ⟨v', rfl, hown', hbel, by have := hbel.size; omega⟩
theorem lim_drop_pos {xs : List Nat} (h : K.Lim xs) {k : Nat} (hk : k < xs.length) : 0 < K.lv (xs.drop k) := by
  have hl : K.Lim (xs.drop k) := by
    refine ⟨fun x hx => h.1 x (List.mem_of_mem_drop hx), ?_⟩
    rw [List.getLast?_drop, if_neg (by omega)]
    exact h.2
  exact hl.pos (by intro e; have := congrArg List.length e; simp at this; omega)
set_option maxRecDepth 100000 in
set_option maxHeartbeats 1600000 in
theorem digits_any (v : Value) (n : Nat) (w : World) (h : NatV w v n) (la : n ≤ BIG) (ht : Tab w) :
    Calls Tryd.prog 88 #[v] w (BytesPost w.heap.size (K.dgs n).length (Bytes (K.dgs n)) w) := by
  obtain ⟨A, k, c, xs, rfl, h2, h3, h4, h5, h6⟩ := h
  have hk := len_of_big h5 (by omega)
  rw [h2] at hk
  by_cases h0 : k = 0
  · have hx : xs = [] := List.eq_nil_of_length_eq_zero (by omega)
    have hn : n = 0 := by rw [← h6, hx]; rfl
    subst hn h0
    clear h2 h3 h4 h5 h6 hx
    go_enter Tryd.func88, Tryd.ntmps88
    go_wp2
    go_ret
    refine ⟨_, rfl, ?_, (Below.refl _ w).alloc (Nat.le_refl _) _, by simp⟩
    rw [K.dgs_zero]
    exact own_of_row (sp := []) (Row.new w 5 [.int .u8 48]) (Nat.le_refl _) rfl (by simp) (by unfold maxLen; simp) rfl
  · have H2 := hid h2
    have H6 := hid h6
    have hmk := fun (w : World) => (fun (i : TypeInfo) (hi : Tryd.prog.info? 5 = some i) (hz : i.zero = some (.int .u8 0)) (hs : i.size = 1) (hb : i.bytes = 1) => run_make (P := Tryd.prog) w 116 5 i (.int .u8 0) Tryd.underlying116 hi hz .i64 .i64 0 ((k : Int) * 9) (by omega) (by omega) (by rw [hb]; omega) (by omega)) 
    obtain ⟨i0, hi, hz0, hz1, hz2⟩ := info_parts infoB
    have hmk2 : ∀ w : World, (Instr.makeSlice 116 (.int .i64 0) (.int .i64 ((k : Int) * 9))).run Tryd.prog w = .ok (.slice (some ⟨w.heap.size, 0, none⟩) 0 (k * 9)) (w.alloc (.cells (madeCells #[.int .u8 0] (k * 9)) 5)) := by
      intro w
      have h := hmk w i0 hi hz0 hz1 hz2
      rw [hz1, show ((k : Int) * 9).toNat = k * 9 by omega, Nat.mul_one] at h
      exact h
    obtain ⟨j, rfl⟩ : ∃ j, k = j + 1 := ⟨k - 1, by omega⟩
    have hmk3 : ∀ w : World, (Instr.makeSlice 116 (.int .i64 0) (.int .i64 (((j : Int) + 1) * 9))).run Tryd.prog w = .ok (.slice (some ⟨w.heap.size, 0, none⟩) 0 ((j + 1) * 9)) (w.alloc (.cells (madeCells #[.int .u8 0] ((j + 1) * 9)) 5)) := by
      intro w
      have h := hmk2 w
      rwa [show (((j + 1 : Nat)) : Int) = (j : Int) + 1 by omega] at h
    have hown0 : (w.alloc (.cells (madeCells #[.int .u8 0] ((j + 1) * 9)) 5)).ownsRow w.heap.size 5 1 (.slice (some ⟨w.heap.size, 0, none⟩) 0 ((j + 1) * 9)) 0 [] :=
      World.ownsRow_made w _ ((j + 1) * 9) (Nat.le_refl _) (by unfold maxLen; omega) (by rw [size_madeCells]; omega)
    have hext0 : Ext w (w.alloc (.cells (madeCells #[.int .u8 0] ((j + 1) * 9)) 5)) := (Ext.rfl' w).alloc' _
    have ht0 := ht.ext hext0
    obtain ⟨b1, o1, x, eA, ex, hb1, hx⟩ := (h4.ext hext0).at_ (k := j) (by omega)
    subst eA
    have hxB := h5.1 x (mem_at ex)
    have HX := hid ex
    have H5 := hid h5
    clear h2 h6 hmk hmk2 ex h5 h3 h0 ht hi hz0 hz1 hz2
    go_enter Tryd.func88, Tryd.ntmps88
    go_wp2_with fail
    refine (appendUint_any w.heap.size 0 x _ [] _ hown0 (by simp) (by omega) hxB ht0).mono ?_
    rintro e w1 ⟨v1, rfl, hown1, hbel1, hsz1⟩
    rw [Nat.zero_add, List.nil_append] at hown1
    have hb1' : Ext w w1 := (Ext.rfl' w).alloc' _ |>.trans hbel1
    clear hown0 hmk3 ht0 hx hb1
    go_wp2_with fail
    go_loopw [4, 5] (fun tv i wr => ∃ q : Int, -1 ≤ q ∧ q < j ∧ i = .int .i64 q ∧ wr.ownsRow w.heap.size 5 1 tv (K.dgs (K.lv (xs.drop (q + 1).toNat))).length (Bytes (K.dgs (K.lv (xs.drop (q + 1).toNat)))) ∧ Ext w wr) (fun _ i _ => (intOf i + 1).toNat)
    case atStart =>
      refine ⟨(j : Int) - 1, by omega, by omega, by simp, ?_, hb1'⟩
      rw [show ((j : Int) - 1 + 1).toNat = j by omega, drop_at HX.out, List.drop_of_length_le (by rw [H2.out]; omega)]
      simpa [K.lv] using hown1
    case round =>
      obtain ⟨q, hq1, hq2, rfl, hown, hext⟩ := hrel
      clear hown1
      by_cases hq : 0 ≤ q
      · obtain ⟨p, rfl⟩ := Int.eq_ofNat_of_zero_le hq
        obtain ⟨b2, o2, y, eB, ey, hb2, hy⟩ := (h4.ext hext).at_ (k := p) (by rw [H2.out]; omega)
        injection eB with eB
        injection eB with eB1 eB2
        subst eB1 eB2
        have hyB := H5.out.1 y (mem_at ey)
        have HY := hid ey
        have hpos := lim_drop_pos H5.out (k := p + 1) (by rw [H2.out]; omega)
        have hlen : (K.dgs (K.lv (xs.drop (p + 1)))).length ≤ 9000 := big_digits (by have := lv_drop_le xs (p + 1); have := H6.out; omega)
        rw [show ((p : Int) + 1).toNat = p + 1 by omega] at hown
        clear ey
        go_wp2_with fail
        refine (appendLimb_any w.heap.size _ y _ _ _ hown hext.size (by omega) hyB).mono ?_
        rintro e w2 ⟨v2, rfl, hown2, hbel2, hsz2⟩
        have hfin : Hid (w2.ownsRow w.heap.size 5 1 v2 (K.dgs (K.lv (xs.drop p))).length (Bytes (K.dgs (K.lv (xs.drop p))))) := by
          refine hid ?_
          have e1 : K.dgs (K.lv (xs.drop p)) = K.dgs (K.lv (xs.drop (p + 1))) ++ pad 9 y := by
            rw [drop_at HY.out, K.lv, dgs_limb _ _ hyB hpos]
          rw [e1, List.length_append, pad_len]
          simpa [Bytes] using hown2
        clear hown2 hown
        go_wp2
        go_roundw
        case rel =>
          refine ⟨(p : Int) - 1, by omega, by omega, rfl, ?_, hext.trans hbel2⟩
          rw [show ((p : Int) - 1 + 1).toNat = p by omega]
          exact hfin.out
        case measure => simp [intOf]
      · rw [show (q + 1).toNat = 0 by omega, List.drop_zero, H6.out] at hown
        have HO := hid hown
        clear hown
        go_wp2
        go_ret
        exact ⟨_, rfl, HO.out, hext, hext.size⟩
end Go.Proofs.YtoilkfohhhidpaaDoor
/- (number).plus, (number).minus -/
namespace Go.Proofs.YtoilkfohhhidpaaDoor
open Go.RowKit
theorem Ext.undrew {w w' : World} (h : Ext w.drew w') : Ext w w' := ⟨h.os, h.tape, h.output, h.size, h.block⟩
theorem Ext.undrewN {w w' : World} {n : Nat} (h : Ext (w.drewN n) w') : Ext w w' := ⟨h.os, h.tape, h.output, h.size, h.block⟩
theorem Ext.drew' {a b : World} (h : Ext a b) : Ext a b.drew := ⟨h.os, h.tape, h.output, h.size, h.block⟩
set_option maxRecDepth 100000 in
set_option maxHeartbeats 1600000 in
theorem nplus_same (A B : Option Addr) (ka ca kb cb a b : Nat) (na nb : Bool) (m : Int) (w : World) (ha : NatV w (.slice A ka ca) a) (hb : NatV w (.slice B kb cb) b) (la : a ≤ BIG) (lb : b ≤ BIG)
    (hm : m.natAbs = a + b) (hs : na = decide (m < 0)) :
    Calls Tryd.prog 45 #[.agg #[.bool na, .slice A ka ca], .agg #[.bool na, .slice B kb cb]] w (NumPost m w) := by
  have HM := hid hm
  have HS := hid hs
  clear hm hs
  have hq : (na == na) = true := by simp
  have hW2 : Ext w ((w.alloc (.cells #[.bool na, .slice A ka ca] 72)).alloc (.cells #[.bool na, .slice B kb cb] 72)) := ((Ext.rfl' w).alloc' _).alloc' _
  have hW3 : Ext w (((w.alloc (.cells #[.bool na, .slice A ka ca] 72)).alloc (.cells #[.bool na, .slice B kb cb] 72)).alloc (.cells #[.bool false, .slice none 0 0] 72)) := hW2.alloc' _
  have hk : ∀ w', Ext (((w.alloc (.cells #[.bool na, .slice A ka ca] 72)).alloc (.cells #[.bool na, .slice B kb cb] 72)).alloc (.cells #[.bool false, .slice none 0 0] 72)) w' →
      w'.cell? ⟨w.heap.size, 0, none⟩ = some (.bool na) ∧ w'.cell? ⟨w.heap.size, 1, none⟩ = some (.slice A ka ca) ∧ w'.cell? ⟨w.heap.size + 1, 0, none⟩ = some (.bool na) ∧ w'.cell? ⟨w.heap.size + 1, 1, none⟩ = some (.slice B kb cb) := by
    intro w' e
    have h1 := two_facts (W := w) (H := w.heap.size) (t := 72) (a := .bool na) (b := .slice A ka ca) (Ext.step (((Ext.rfl' _).alloc' _).alloc' _) e) rfl
    have h2 := two_facts (W := (w.alloc (.cells #[.bool na, .slice A ka ca] 72))) (H := w.heap.size + 1) (t := 72) (a := .bool na) (b := .slice B kb cb) (Ext.step ((Ext.rfl' _).alloc' _) e) (by simp)
    exact ⟨h1.1, h1.2.1, h2.1, h2.2.1⟩
  have ht : ∀ w', Ext (((w.alloc (.cells #[.bool na, .slice A ka ca] 72)).alloc (.cells #[.bool na, .slice B kb cb] 72)).alloc (.cells #[.bool false, .slice none 0 0] 72)) w' → _ :=
    fun w' e => two_facts (H := w.heap.size + 1 + 1) e (by simp)
  have HT := hid ht
  have hne1 : ¬ (w.heap.size + 1 + 1 = w.heap.size) := by omega
  have hne2 : ¬ (w.heap.size = w.heap.size + 1 + 1) := by omega
  have HK := hid hk
  have HW3 := hid hW3
  have HW2 := hid hW2
  clear hk hW3 hW2 ht
  go_enter Tryd.func45, Tryd.ntmps45
  go_wp2_with fail
  go_region_held3 (fun w' => w'.cell? ⟨w.heap.size, 0, none⟩ = some (.bool na) ∧ w'.cell? ⟨w.heap.size, 1, none⟩ = some (.slice A ka ca) ∧ w'.cell? ⟨w.heap.size + 1, 0, none⟩ = some (.bool na) ∧ w'.cell? ⟨w.heap.size + 1, 1, none⟩ = some (.slice B kb cb))
    (first | go_keep | exact HK.out _ hx3')
    (first | (go_at_call 79; refine (plus_any _ _ a b _ (ha.ext ?_) (hb.ext ?_) la lb).mono ?_; (first | exact HW3.out | exact HW3.out.drew'); (first | exact HW3.out | exact HW3.out.drew'); rintro e w3 ⟨v3, rfl, hz3, hx3⟩; obtain ⟨A3, k3, c3', rfl⟩ := hz3.slice; have hx3' := Ext.undrew hx3; obtain ⟨c0, c1, f0, f1, hl, _⟩ := HT.out _ hx3'))
  have hfin := NumPost.stored hx3' HW2.out (H := w.heap.size + 1 + 1) (by simp) (by rw [HM.out]; exact hz3) na HS.out
  have HF := hid hfin
  clear hfin
  go_wp2
  refine bodyPost_ret (v := .agg #[.bool na, .slice A3 k3 c3']) (by simp [results, Tryd.results45, go_sem, c0, c1]) rfl HF.out
set_option maxRecDepth 100000 in
set_option maxHeartbeats 1600000 in
theorem nplus_lt (A B : Option Addr) (ka ca kb cb a b : Nat) (na nb : Bool) (m : Int) (w : World) (ha : NatV w (.slice A ka ca) a) (hb : NatV w (.slice B kb cb) b) (la : a ≤ BIG) (lb : b ≤ BIG)
    (hne : na ≠ nb) (hab : a < b) (hm : m.natAbs = b - a) (hs : (nb && decide (0 < b - a)) = decide (m < 0)) :
    Calls Tryd.prog 45 #[.agg #[.bool na, .slice A ka ca], .agg #[.bool nb, .slice B kb cb]] w (NumPost m w) := by
  have HM := hid hm
  have HS := hid hs
  clear hm hs
  have hq : (na == nb) = false := by simpa using hne
  clear hne
  have hsg : sgn a b < 0 := by unfold sgn; rw [if_pos hab]; omega
  have hW2 : Ext w ((w.alloc (.cells #[.bool na, .slice A ka ca] 72)).alloc (.cells #[.bool nb, .slice B kb cb] 72)) := ((Ext.rfl' w).alloc' _).alloc' _
  have hW3 : Ext w (((w.alloc (.cells #[.bool na, .slice A ka ca] 72)).alloc (.cells #[.bool nb, .slice B kb cb] 72)).alloc (.cells #[.bool false, .slice none 0 0] 72)) := hW2.alloc' _
  have hk : ∀ w', Ext (((w.alloc (.cells #[.bool na, .slice A ka ca] 72)).alloc (.cells #[.bool nb, .slice B kb cb] 72)).alloc (.cells #[.bool false, .slice none 0 0] 72)) w' →
      w'.cell? ⟨w.heap.size, 0, none⟩ = some (.bool na) ∧ w'.cell? ⟨w.heap.size, 1, none⟩ = some (.slice A ka ca) ∧ w'.cell? ⟨w.heap.size + 1, 0, none⟩ = some (.bool nb) ∧ w'.cell? ⟨w.heap.size + 1, 1, none⟩ = some (.slice B kb cb) := by
    intro w' e
    have h1 := two_facts (W := w) (H := w.heap.size) (t := 72) (a := .bool na) (b := .slice A ka ca) (Ext.step (((Ext.rfl' _).alloc' _).alloc' _) e) rfl
    have h2 := two_facts (W := (w.alloc (.cells #[.bool na, .slice A ka ca] 72))) (H := w.heap.size + 1) (t := 72) (a := .bool nb) (b := .slice B kb cb) (Ext.step ((Ext.rfl' _).alloc' _) e) (by simp)
    exact ⟨h1.1, h1.2.1, h2.1, h2.2.1⟩
  have ht : ∀ w', Ext (((w.alloc (.cells #[.bool na, .slice A ka ca] 72)).alloc (.cells #[.bool nb, .slice B kb cb] 72)).alloc (.cells #[.bool false, .slice none 0 0] 72)) w' → _ :=
    fun w' e => two_facts (H := w.heap.size + 1 + 1) e (by simp)
  have HT := hid ht
  have hne1 : ¬ (w.heap.size + 1 + 1 = w.heap.size) := by omega
  have hne2 : ¬ (w.heap.size = w.heap.size + 1 + 1) := by omega
  have HK := hid hk
  have HW3 := hid hW3
  have HW2 := hid hW2
  clear hk hW3 hW2 ht
  go_enter Tryd.func45, Tryd.ntmps45
  go_wp2_with fail
  refine (natCmp_any _ _ a b _ (ha.ext ?_) (hb.ext ?_) la lb).mono ?_
  · exact HW3.out
  · exact HW3.out
  rintro e w1 ⟨rfl, hw1⟩
  have hx1 := hw1.ext
  have HX1 := hid hx1
  have hkk := HK.out _ hx1
  obtain ⟨e0, e1, e2, e3⟩ := hkk
  clear hx1 hw1
  go_wp2_with fail
  go_region_held3 (fun w' => w'.cell? ⟨w.heap.size, 0, none⟩ = some (.bool na) ∧ w'.cell? ⟨w.heap.size, 1, none⟩ = some (.slice A ka ca) ∧ w'.cell? ⟨w.heap.size + 1, 0, none⟩ = some (.bool nb) ∧ w'.cell? ⟨w.heap.size + 1, 1, none⟩ = some (.slice B kb cb))
    (first | go_keep | exact HK.out _ hx3a | exact HK.out _ hx3')
    (first | (go_at_call 82; refine (minus_any _ _ b a _ (hb.ext ?_) (ha.ext ?_) lb (by omega)).mono ?_; (first | exact HW3.out.step HX1.out | exact (HW3.out.step HX1.out).drew'); (first | exact HW3.out.step HX1.out | exact (HW3.out.step HX1.out).drew'); rintro e w2 ⟨v2, rfl, hz2, hx2⟩; have hx3a := HX1.out.step (Ext.undrew hx2); obtain ⟨A2, k2, c2', rfl⟩ := hz2.slice) | (go_at_call 81; refine (signed_any nb _ (b - a) _ hz2 m HM.out HS.out).mono ?_; rintro e w3 ⟨v3, rfl, ⟨z3, b3, rfl, hb3, hz3⟩, hx3⟩; have hx3' := hx3a.step hx3; obtain ⟨A3, k3, c3', rfl⟩ := hz3.slice; obtain ⟨c0, c1, f0, f1, hl, _⟩ := HT.out _ hx3'))
  have hfin := NumPost.stored hx3' HW2.out (H := w.heap.size + 1 + 1) (by simp) hz3 b3 hb3.out
  have HF := hid hfin
  clear hfin
  go_wp2
  refine bodyPost_ret (v := .agg #[.bool b3, .slice A3 k3 c3']) (by simp [results, Tryd.results45, go_sem, c0, c1]) rfl HF.out
set_option maxRecDepth 100000 in
set_option maxHeartbeats 1600000 in
theorem nplus_ge (A B : Option Addr) (ka ca kb cb a b : Nat) (na nb : Bool) (m : Int) (w : World) (ha : NatV w (.slice A ka ca) a) (hb : NatV w (.slice B kb cb) b) (la : a ≤ BIG) (lb : b ≤ BIG)
    (hne : na ≠ nb) (hab : ¬ a < b) (hm : m.natAbs = a - b) (hs : (na && decide (0 < a - b)) = decide (m < 0)) :
    Calls Tryd.prog 45 #[.agg #[.bool na, .slice A ka ca], .agg #[.bool nb, .slice B kb cb]] w (NumPost m w) := by
  have HM := hid hm
  have HS := hid hs
  clear hm hs
  have hq : (na == nb) = false := by simpa using hne
  clear hne
  have hsg : ¬ sgn a b < 0 := by unfold sgn; rw [if_neg hab]; split <;> omega
  have hW2 : Ext w ((w.alloc (.cells #[.bool na, .slice A ka ca] 72)).alloc (.cells #[.bool nb, .slice B kb cb] 72)) := ((Ext.rfl' w).alloc' _).alloc' _
  have hW3 : Ext w (((w.alloc (.cells #[.bool na, .slice A ka ca] 72)).alloc (.cells #[.bool nb, .slice B kb cb] 72)).alloc (.cells #[.bool false, .slice none 0 0] 72)) := hW2.alloc' _
  have hk : ∀ w', Ext (((w.alloc (.cells #[.bool na, .slice A ka ca] 72)).alloc (.cells #[.bool nb, .slice B kb cb] 72)).alloc (.cells #[.bool false, .slice none 0 0] 72)) w' →
      w'.cell? ⟨w.heap.size, 0, none⟩ = some (.bool na) ∧ w'.cell? ⟨w.heap.size, 1, none⟩ = some (.slice A ka ca) ∧ w'.cell? ⟨w.heap.size + 1, 0, none⟩ = some (.bool nb) ∧ w'.cell? ⟨w.heap.size + 1, 1, none⟩ = some (.slice B kb cb) := by
    intro w' e
    have h1 := two_facts (W := w) (H := w.heap.size) (t := 72) (a := .bool na) (b := .slice A ka ca) (Ext.step (((Ext.rfl' _).alloc' _).alloc' _) e) rfl
    have h2 := two_facts (W := (w.alloc (.cells #[.bool na, .slice A ka ca] 72))) (H := w.heap.size + 1) (t := 72) (a := .bool nb) (b := .slice B kb cb) (Ext.step ((Ext.rfl' _).alloc' _) e) (by simp)
    exact ⟨h1.1, h1.2.1, h2.1, h2.2.1⟩
  have ht : ∀ w', Ext (((w.alloc (.cells #[.bool na, .slice A ka ca] 72)).alloc (.cells #[.bool nb, .slice B kb cb] 72)).alloc (.cells #[.bool false, .slice none 0 0] 72)) w' → _ :=
    fun w' e => two_facts (H := w.heap.size + 1 + 1) e (by simp)
  have HT := hid ht
  have hne1 : ¬ (w.heap.size + 1 + 1 = w.heap.size) := by omega
  have hne2 : ¬ (w.heap.size = w.heap.size + 1 + 1) := by omega
  have HK := hid hk
  have HW3 := hid hW3
  have HW2 := hid hW2
  clear hk hW3 hW2 ht
  go_enter Tryd.func45, Tryd.ntmps45
  go_wp2_with fail
  refine (natCmp_any _ _ a b _ (ha.ext ?_) (hb.ext ?_) la lb).mono ?_
  · exact HW3.out
  · exact HW3.out
  rintro e w1 ⟨rfl, hw1⟩
  have hx1 := hw1.ext
  have HX1 := hid hx1
  have hkk := HK.out _ hx1
  obtain ⟨e0, e1, e2, e3⟩ := hkk
  clear hx1 hw1
  go_wp2_with fail
  go_region_held3 (fun w' => w'.cell? ⟨w.heap.size, 0, none⟩ = some (.bool na) ∧ w'.cell? ⟨w.heap.size, 1, none⟩ = some (.slice A ka ca) ∧ w'.cell? ⟨w.heap.size + 1, 0, none⟩ = some (.bool nb) ∧ w'.cell? ⟨w.heap.size + 1, 1, none⟩ = some (.slice B kb cb))
    (first | go_keep | exact HK.out _ hx3a | exact HK.out _ hx3')
    (first | (go_at_call 82; refine (minus_any _ _ a b _ (ha.ext ?_) (hb.ext ?_) la (by omega)).mono ?_; (first | exact HW3.out.step HX1.out | exact (HW3.out.step HX1.out).drew'); (first | exact HW3.out.step HX1.out | exact (HW3.out.step HX1.out).drew'); rintro e w2 ⟨v2, rfl, hz2, hx2⟩; have hx3a := HX1.out.step (Ext.undrew hx2); obtain ⟨A2, k2, c2', rfl⟩ := hz2.slice) | (go_at_call 81; refine (signed_any na _ (a - b) _ hz2 m HM.out HS.out).mono ?_; rintro e w3 ⟨v3, rfl, ⟨z3, b3, rfl, hb3, hz3⟩, hx3⟩; have hx3' := hx3a.step hx3; obtain ⟨A3, k3, c3', rfl⟩ := hz3.slice; obtain ⟨c0, c1, f0, f1, hl, _⟩ := HT.out _ hx3'))
  have hfin := NumPost.stored hx3' HW2.out (H := w.heap.size + 1 + 1) (by simp) hz3 b3 hb3.out
  have HF := hid hfin
  clear hfin
  go_wp2
  refine bodyPost_ret (v := .agg #[.bool b3, .slice A3 k3 c3']) (by simp [results, Tryd.results45, go_sem, c0, c1]) rfl HF.out
theorem nplus_any (va vb : Value) (m n : Int) (w : World) (ha : NumV w va m) (hb : NumV w vb n) (la : m.natAbs ≤ BIG) (lb : n.natAbs ≤ BIG) :
    Calls Tryd.prog 45 #[va, vb] w (NumPost (m + n) w) := by
  obtain ⟨sa, ba, rfl, hba, hza⟩ := ha
  obtain ⟨sb, bb, rfl, hbb, hzb⟩ := hb
  obtain ⟨A, ka, ca, rfl⟩ := hza.slice
  obtain ⟨B, kb, cb, rfl⟩ := hzb.slice
  have eba := hba.out
  have ebb := hbb.out
  subst eba ebb
  by_cases h1 : m < 0 <;> by_cases h2 : n < 0
  · rw [decide_eq_true h1, decide_eq_true h2]
    exact nplus_same A B ka ca kb cb _ _ true true (m + n) w hza hzb la lb (by omega) (by rw [decide_eq_true (by omega)])
  · rw [decide_eq_true h1, decide_eq_false h2]
    by_cases hab : m.natAbs < n.natAbs
    · exact nplus_lt A B ka ca kb cb _ _ true false (m + n) w hza hzb la lb (by simp) hab (by omega) (by simp; omega)
    · exact nplus_ge A B ka ca kb cb _ _ true false (m + n) w hza hzb la lb (by simp) hab (by omega) (by
        rw [Bool.eq_iff_iff]; simp; omega)
  · rw [decide_eq_false h1, decide_eq_true h2]
    by_cases hab : m.natAbs < n.natAbs
    · exact nplus_lt A B ka ca kb cb _ _ false true (m + n) w hza hzb la lb (by simp) hab (by omega) (by
        rw [Bool.eq_iff_iff]; simp; omega)
    · exact nplus_ge A B ka ca kb cb _ _ false true (m + n) w hza hzb la lb (by simp) hab (by omega) (by simp; omega)
  · rw [decide_eq_false h1, decide_eq_false h2]
    exact nplus_same A B ka ca kb cb _ _ false false (m + n) w hza hzb la lb (by omega) (by rw [decide_eq_false (by omega)])
end Go.Proofs.YtoilkfohhhidpaaDoor
/- (number).times, (number).minus -/
namespace Go.Proofs.YtoilkfohhhidpaaDoor
open Go.RowKit
set_option maxRecDepth 100000 in
set_option maxHeartbeats 1600000 in
theorem ntimes_l (A B : Option Addr) (ka ca kb cb a b : Nat) (na nb : Bool) (m : Int) (w : World) (ha : NatV w (.slice A ka ca) a) (hb : NatV w (.slice B kb cb) b) (la : a ≤ BIG) (lb : b ≤ BIG)
    (hm : m.natAbs = a * b) (hs : ((na != nb) && decide (0 < a * b)) = decide (m < 0)) :
    Calls Tryd.prog 47 #[.agg #[.bool na, .slice A ka ca], .agg #[.bool nb, .slice B kb cb]] w (NumPost m w) := by
  have HM := hid hm
  have HS := hid hs
  clear hm hs
  have hW2 : Ext w ((w.alloc (.cells #[.bool na, .slice A ka ca] 72)).alloc (.cells #[.bool nb, .slice B kb cb] 72)) := ((Ext.rfl' w).alloc' _).alloc' _
  have hW3 : Ext w (((w.alloc (.cells #[.bool na, .slice A ka ca] 72)).alloc (.cells #[.bool nb, .slice B kb cb] 72)).alloc (.cells #[.bool false, .slice none 0 0] 72)) := hW2.alloc' _
  have hk : ∀ w', Ext (((w.alloc (.cells #[.bool na, .slice A ka ca] 72)).alloc (.cells #[.bool nb, .slice B kb cb] 72)).alloc (.cells #[.bool false, .slice none 0 0] 72)) w' →
      w'.cell? ⟨w.heap.size, 0, none⟩ = some (.bool na) ∧ w'.cell? ⟨w.heap.size, 1, none⟩ = some (.slice A ka ca) ∧ w'.cell? ⟨w.heap.size + 1, 0, none⟩ = some (.bool nb) ∧ w'.cell? ⟨w.heap.size + 1, 1, none⟩ = some (.slice B kb cb) := by
    intro w' e
    have h1 := two_facts (W := w) (H := w.heap.size) (t := 72) (a := .bool na) (b := .slice A ka ca) (Ext.step (((Ext.rfl' _).alloc' _).alloc' _) e) rfl
    have h2 := two_facts (W := (w.alloc (.cells #[.bool na, .slice A ka ca] 72))) (H := w.heap.size + 1) (t := 72) (a := .bool nb) (b := .slice B kb cb) (Ext.step ((Ext.rfl' _).alloc' _) e) (by simp)
    exact ⟨h1.1, h1.2.1, h2.1, h2.2.1⟩
  have ht : ∀ w', Ext (((w.alloc (.cells #[.bool na, .slice A ka ca] 72)).alloc (.cells #[.bool nb, .slice B kb cb] 72)).alloc (.cells #[.bool false, .slice none 0 0] 72)) w' → _ :=
    fun w' e => two_facts (H := w.heap.size + 1 + 1) e (by simp)
  have HT := hid ht
  have hne1 : ¬ (w.heap.size + 1 + 1 = w.heap.size) := by omega
  have hne2 : ¬ (w.heap.size = w.heap.size + 1 + 1) := by omega
  have HK := hid hk
  have HW3 := hid hW3
  have HW2 := hid hW2
  clear hk hW3 hW2 ht
  go_enter Tryd.func47, Tryd.ntmps47
  go_wp2_with fail
  go_region_held3 (fun w' => w'.cell? ⟨w.heap.size, 0, none⟩ = some (.bool na) ∧ w'.cell? ⟨w.heap.size, 1, none⟩ = some (.slice A ka ca) ∧ w'.cell? ⟨w.heap.size + 1, 0, none⟩ = some (.bool nb) ∧ w'.cell? ⟨w.heap.size + 1, 1, none⟩ = some (.slice B kb cb))
    (first | go_keep | exact HK.out _ hx3a | exact HK.out _ hx3')
    (first | (go_at_call 84; refine (times_any _ _ a b _ (ha.ext ?_) (hb.ext ?_) la lb).mono ?_; (first | exact HW3.out | exact HW3.out.drew'); (first | exact HW3.out | exact HW3.out.drew'); rintro e w2 ⟨v2, rfl, hz2, hx2⟩; have hx3a := Ext.undrew hx2; obtain ⟨A2, k2, c2', rfl⟩ := hz2.slice) | (go_at_call 81; refine (signed_any (na != nb) _ (a * b) _ hz2 m HM.out HS.out).mono ?_; rintro e w3 ⟨v3, rfl, ⟨z3, b3, rfl, hb3, hz3⟩, hx3⟩; have hx3' := hx3a.step hx3; obtain ⟨A3, k3, c3', rfl⟩ := hz3.slice; obtain ⟨c0, c1, f0, f1, hl, _⟩ := HT.out _ hx3'))
  have hfin := NumPost.stored hx3' HW2.out (H := w.heap.size + 1 + 1) (by simp) hz3 b3 hb3.out
  have HF := hid hfin
  clear hfin
  go_wp2
  refine bodyPost_ret (v := .agg #[.bool b3, .slice A3 k3 c3']) (by simp [results, Tryd.results47, go_sem, c0, c1]) rfl HF.out
theorem ntimes_any (va vb : Value) (m n : Int) (w : World) (ha : NumV w va m) (hb : NumV w vb n) (la : m.natAbs ≤ BIG) (lb : n.natAbs ≤ BIG) :
    Calls Tryd.prog 47 #[va, vb] w (NumPost (m * n) w) := by
  obtain ⟨sa, ba, rfl, hba, hza⟩ := ha
  obtain ⟨sb, bb, rfl, hbb, hzb⟩ := hb
  obtain ⟨A, ka, ca, rfl⟩ := hza.slice
  obtain ⟨B, kb, cb, rfl⟩ := hzb.slice
  have eba := hba.out
  have ebb := hbb.out
  subst eba ebb
  refine ntimes_l A B ka ca kb cb _ _ _ _ (m * n) w hza hzb la lb (Int.natAbs_mul m n) ?_
  rcases Int.lt_trichotomy m 0 with h1 | h1 | h1 <;> rcases Int.lt_trichotomy n 0 with h2 | h2 | h2
  · have := Int.mul_pos_of_neg_of_neg h1 h2
    simp [h1, h2]; omega
  · subst h2; simp
  · have h3 := Int.mul_neg_of_neg_of_pos h1 h2
    have h4 : 0 < m.natAbs * n.natAbs := Nat.mul_pos (by omega) (by omega)
    simp [h1, h3, h4]; omega
  · subst h1; simp
  · subst h1; simp
  · subst h1; simp
  · have h3 := Int.mul_neg_of_pos_of_neg h1 h2
    have h4 : 0 < m.natAbs * n.natAbs := Nat.mul_pos (by omega) (by omega)
    simp [h2, h3, h4]; omega
  · subst h2; simp
  · have h3 := Int.mul_pos h1 h2
    have h4 : ¬ m < 0 := by omega
    have h5 : ¬ n < 0 := by omega
    simp [h4, h5]; omega
set_option maxRecDepth 100000 in
set_option maxHeartbeats 1600000 in
theorem nminus_l (A B : Option Addr) (ka ca kb cb : Nat) (na nb : Bool) (m n : Int) (w : World) (ha : NumV w (.agg #[.bool na, .slice A ka ca]) m) (hb : NumV w (.agg #[.bool nb, .slice B kb cb]) n) (la : m.natAbs ≤ BIG) (lb : n.natAbs ≤ BIG) :
    Calls Tryd.prog 46 #[.agg #[.bool na, .slice A ka ca], .agg #[.bool nb, .slice B kb cb]] w (NumPost (m + -n) w) := by
  have hW2 : Ext w ((w.alloc (.cells #[.bool na, .slice A ka ca] 72)).alloc (.cells #[.bool nb, .slice B kb cb] 72)) := ((Ext.rfl' w).alloc' _).alloc' _
  have hW3 : Ext w (((w.alloc (.cells #[.bool na, .slice A ka ca] 72)).alloc (.cells #[.bool nb, .slice B kb cb] 72)).alloc (.cells #[.bool false, .slice none 0 0] 72)) := hW2.alloc' _
  have hk : ∀ w', Ext (((w.alloc (.cells #[.bool na, .slice A ka ca] 72)).alloc (.cells #[.bool nb, .slice B kb cb] 72)).alloc (.cells #[.bool false, .slice none 0 0] 72)) w' →
      w'.cell? ⟨w.heap.size, 0, none⟩ = some (.bool na) ∧ w'.cell? ⟨w.heap.size, 1, none⟩ = some (.slice A ka ca) ∧ w'.cell? ⟨w.heap.size + 1, 0, none⟩ = some (.bool nb) ∧ w'.cell? ⟨w.heap.size + 1, 1, none⟩ = some (.slice B kb cb) := by
    intro w' e
    have h1 := two_facts (W := w) (H := w.heap.size) (t := 72) (a := .bool na) (b := .slice A ka ca) (Ext.step (((Ext.rfl' _).alloc' _).alloc' _) e) rfl
    have h2 := two_facts (W := (w.alloc (.cells #[.bool na, .slice A ka ca] 72))) (H := w.heap.size + 1) (t := 72) (a := .bool nb) (b := .slice B kb cb) (Ext.step ((Ext.rfl' _).alloc' _) e) (by simp)
    exact ⟨h1.1, h1.2.1, h2.1, h2.2.1⟩
  have ht : ∀ w', Ext (((w.alloc (.cells #[.bool na, .slice A ka ca] 72)).alloc (.cells #[.bool nb, .slice B kb cb] 72)).alloc (.cells #[.bool false, .slice none 0 0] 72)) w' → _ :=
    fun w' e => two_facts (H := w.heap.size + 1 + 1) e (by simp)
  have HT := hid ht
  have hne1 : ¬ (w.heap.size + 1 + 1 = w.heap.size) := by omega
  have hne2 : ¬ (w.heap.size = w.heap.size + 1 + 1) := by omega
  have HK := hid hk
  have HW3 := hid hW3
  have HW2 := hid hW2
  clear hk hW3 hW2 ht
  go_enter Tryd.func46, Tryd.ntmps46
  go_wp2_with fail
  go_region_held3 (fun w' => w'.cell? ⟨w.heap.size, 0, none⟩ = some (.bool na) ∧ w'.cell? ⟨w.heap.size, 1, none⟩ = some (.slice A ka ca) ∧ w'.cell? ⟨w.heap.size + 1, 0, none⟩ = some (.bool nb) ∧ w'.cell? ⟨w.heap.size + 1, 1, none⟩ = some (.slice B kb cb))
    (first | go_keep | exact HK.out _ hx3a | exact HK.out _ hx3')
    (first | (go_at_call 83; refine (opposite_any _ n _ (hb.ext ?_)).mono ?_; (first | exact HW3.out | exact HW3.out.drew'); rintro e w2 ⟨v2, rfl, ⟨z2, b2, rfl, hb2, hz2⟩, hx2⟩; have hx3a := Ext.undrew hx2; obtain ⟨A2, k2, c2', rfl⟩ := hz2.slice) | (go_at_call 45; refine (nplus_any _ _ m (-n) _ (ha.ext ?_) ⟨_, _, rfl, hb2, hz2⟩ la (by omega)).mono ?_; exact HW3.out.step hx3a; rintro e w3 ⟨v3, rfl, ⟨z3, b3, rfl, hb3, hz3⟩, hx3⟩; have hx3' := hx3a.step hx3; obtain ⟨A3, k3, c3', rfl⟩ := hz3.slice; obtain ⟨c0, c1, f0, f1, hl, _⟩ := HT.out _ hx3'))
  have hfin := NumPost.stored hx3' HW2.out (H := w.heap.size + 1 + 1) (by simp) hz3 b3 hb3.out
  have HF := hid hfin
  clear hfin
  go_wp2
  refine bodyPost_ret (v := .agg #[.bool b3, .slice A3 k3 c3']) (by simp [results, Tryd.results46, go_sem, c0, c1]) rfl HF.out
theorem nminus_any (va vb : Value) (m n : Int) (w : World) (ha : NumV w va m) (hb : NumV w vb n) (la : m.natAbs ≤ BIG) (lb : n.natAbs ≤ BIG) :
    Calls Tryd.prog 46 #[va, vb] w (NumPost (m - n) w) := by
  obtain ⟨sa, ba, rfl, hba, hza⟩ := ha
  obtain ⟨sb, bb, rfl, hbb, hzb⟩ := hb
  obtain ⟨A, ka, ca, rfl⟩ := hza.slice
  obtain ⟨B, kb, cb, rfl⟩ := hzb.slice
  rw [Int.sub_eq_add_neg]
  exact nminus_l A B ka ca kb cb _ _ m n w ⟨_, _, rfl, hba, hza⟩ ⟨_, _, rfl, hbb, hzb⟩ la lb
end Go.Proofs.YtoilkfohhhidpaaDoor
