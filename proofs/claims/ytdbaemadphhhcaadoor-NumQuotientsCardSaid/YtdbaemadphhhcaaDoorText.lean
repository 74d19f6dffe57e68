/- appendLimb, (natural).digits, (number).text -/
import Derived.Test.YtdbaemadphhhcaaDoorSign
import Derived.Test.YtdbaemadphhhcaaDoorShelf
import Derived.Lib.AppendStr
import Derived.Laws.BytesArg
namespace Go.Proofs.YtdbaemadphhhcaaDoor
open Go.RowKit
abbrev Bytes (l : List UInt8) : List Value := l.map fun b => Value.int .u8 (b.toNat : Int)
/-- the last k decimal digits -/
def pad : Nat → Nat → List UInt8
  | 0, _ => []
  | k + 1, x => pad k (x / 10) ++ [K.chr (x % 10)]
theorem pad_len : ∀ k x, (pad k x).length = k
  | 0, _ => rfl
  | k + 1, x => by simp [pad, pad_len k]
theorem pad_zero : ∀ k, pad k 0 = List.replicate k 48
  | 0 => rfl
  | k + 1 => by rw [pad, Nat.zero_div, pad_zero k, List.replicate_succ']; rfl
theorem dgs_pad : ∀ (k x y : Nat), x < 10 ^ k → 0 < y → K.dgs (x + 10 ^ k * y) = K.dgs y ++ pad k x
  | 0, x, y, h, _ => by
    have : x = 0 := by simpa using h
    subst this; simp [pad]
  | k + 1, x, y, h, hy => by
    have hp : 10 ^ (k + 1) * y = 10 * (10 ^ k * y) := by rw [Nat.pow_succ, Nat.mul_comm (10 ^ k) 10, Nat.mul_assoc]
    have h1 : 0 < 10 ^ k * y := Nat.mul_pos (Nat.pow_pos (by omega)) hy
    rw [Nat.pow_succ] at h
    rw [K.dgs_big (by omega), hp, show (x + 10 * (10 ^ k * y)) / 10 = x / 10 + 10 ^ k * y by omega, show (x + 10 * (10 ^ k * y)) % 10 = x % 10 by omega,
      dgs_pad k (x / 10) y (by omega) hy, pad, List.append_assoc]
theorem dgs_limb (x y : Nat) (h : x < 1000000000) (hy : 0 < y) : K.dgs (x + 1000000000 * y) = K.dgs y ++ pad 9 x := dgs_pad 9 x y h hy
theorem decDigits_dgs (n : Nat) : Lib.decDigits n = K.dgs n := by
  induction n using Nat.strongRecOn with
  | ind n ih =>
    by_cases h : n < 10
    · rw [K.dgs_small h, Lib.decDigits, dif_pos h]; rfl
    · rw [K.dgs_big h, Lib.decDigits, dif_neg h, ih _ (by omega)]; rfl
/-- the table that printing reads -/
def Tab (w : World) : Prop := Lib.TabIs Tryd.prog w "internal/strconv.uint64pow10" .u64 Lib.pow10Tab
theorem Tab.ext {w w' : World} (h : Tab w) (e : Ext w w') : Tab w' := by
  have hg : Tryd.prog.globalNamed "internal/strconv.uint64pow10" = some 0 := by kernel_rfl
  refine var?_below e hg ?_ h
  rcases Nat.lt_or_ge 0 w.heap.size with hl | hl
  · exact hl
  · exfalso
    unfold Tab Lib.TabIs World.var? at h
    rw [hg, Option.bind_some, Array.getElem?_eq_none hl] at h
    cases h
/-- what an owned row of bytes is: a block, its spare behind it -/
theorem own_form {w : World} {base n : Nat} {v : Value} {vs : List Value} {e : TypeId} (h : w.ownsRow base e 1 v n vs) (hn : 0 < n) :
    ∃ g cap sp, v = .slice (some ⟨g, 0, none⟩) n cap ∧ base ≤ g ∧ n ≤ cap ∧ cap ≤ maxLen ∧ Row w g e (vs ++ sp) ∧ vs.length = n ∧ sp.length = cap - n := by
  rcases h.2 with ⟨_, h0⟩ | ⟨g, cap, cur, hv, hg, hh, hc, hm, hs, ht⟩
  · omega
  · have hl : vs.length = n := by have := h.1; omega
    refine ⟨g, cap, cur.toList.drop (n * 1), hv, hg, hc, hm, ?_, hl, by simp; omega⟩
    unfold Row
    rw [hh, ← ht, List.take_append_drop]
theorem own_of_row {w : World} {base n g cap : Nat} {vs sp : List Value} {e : TypeId} (r : Row w g e (vs ++ sp)) (hb : base ≤ g) (hl : vs.length = n) (hc : n ≤ cap) (hm : cap ≤ maxLen) (hs : sp.length = cap - n) :
    w.ownsRow base e 1 (.slice (some ⟨g, 0, none⟩) n cap) n vs := by
  refine ⟨by omega, .inr ⟨g, cap, (vs ++ sp).toArray, rfl, hb, r, hc, hm, by simp; omega, ?_⟩⟩
  subst hl
  simp
/-- a row of the call's own from base on, and the world below base as it was -/
def BytesPost (base n : Nat) (vs : List Value) (w : World) (e : Ending) (w' : World) : Prop := ∃ v, e = .returned v ∧ w'.ownsRow base 5 1 v n vs ∧ Below base w w' ∧ base ≤ w'.heap.size
set_option maxRecDepth 100000 in
set_option maxHeartbeats 1600000 in
theorem appendLimb_any (base n x : Nat) (v : Value) (vs : List Value) (w : World) (hown : w.ownsRow base 5 1 v n vs) (hb : base ≤ w.heap.size) (hn : n ≤ 1000000) (hx : x < 1000000000) :
    Calls Tryd.prog 82 #[v, .int .u64 (x : Int)] w (BytesPost base (n + 9) (vs ++ Bytes (pad 9 x)) w) := by
  obtain ⟨i0, hi, hz0, hz1, hz2⟩ := info_parts infoB
  have hlen : ∃ A c, v = .slice A n c := by
    rcases hown.2 with ⟨h, h0⟩ | ⟨g, cap, cur, h, _⟩
    · exact ⟨none, 0, by rw [h, h0]⟩
    · exact ⟨_, cap, h⟩
  obtain ⟨A, c, rfl⟩ := hlen
  go_enter Tryd.func82, Tryd.ntmps82
  go_wp2_with (at_builtin; refine Lib.wpList_append_own_string _ rfl _ _ 79 9 rfl base 5 i0 Tryd.underlying79 Tryd.underlying9 hi hz0 hz1 hz2 _ _ _ rfl hown ⟨#[48, 48, 48, 48, 48, 48, 48, 48, 48]⟩ rfl ?c3 ?c4 hb ?_)
  case c3 => unfold maxLen; show n + 9 ≤ _; omega
  case c4 => show n + 9 ≤ _; omega
  intro v1 w1 hown1 hgrow hnil
  have hsz : n + (⟨#[48, 48, 48, 48, 48, 48, 48, 48, 48]⟩ : ByteArray).size = n + 9 := rfl
  have hstr : Lib.strCells ⟨#[48, 48, 48, 48, 48, 48, 48, 48, 48]⟩ = Bytes (List.replicate 9 48) := rfl
  rw [hstr] at hown1
  obtain ⟨g, cap, sp, rfl, hg, hc1, hc2, hrow1, hvl, hsl⟩ := own_form hown1 (by omega)
  have hvs : vs.length = n := by simp at hvl; omega
  have hbel : Below base w w1 := (Below.refl _ w).grown hgrow hb (by
    intro k hk
    exact (hown.lt k hk).1)
  have hcap : cap ≤ 9223372036854775807 := hc2
  have HVS := hid hvs
  have HSL := hid hsl
  have HC2 := hid hc2
  clear hown hown1 hgrow hnil hsz hstr hvl hvs hsl hc2
  go_wp2_with fail
  go_loopw [1, 6] (fun lim i wr => ∃ (k y : Nat) (q : Int) (done : List UInt8), k ≤ 9 ∧ i = .int .i64 q ∧ -1 ≤ q ∧ q ≤ 1000100 ∧ q + 1 = ((n + k : Nat) : Int) ∧ lim = .int .u64 y ∧ y < 1000000000 ∧ y < 10 ^ k ∧ Row wr g 5 (vs ++ Bytes (List.replicate k 48 ++ done) ++ sp) ∧ done.length + k = 9 ∧
      pad k y ++ done = pad 9 x ∧ Below base w wr ∧ base ≤ wr.heap.size) (fun lim _ _ => (intOf lim).toNat)
  case atStart =>
    exact ⟨9, x, (n : Int) + 9 - 1, [], by omega, rfl, by omega, by omega, by omega, rfl, hx, by simpa using hx, by simpa using hrow1, rfl, by simp, hbel, by have := hbel.size; omega⟩
  case round =>
    obtain ⟨k, y, q, done, hk, rfl, hq0, hq1, hq, rfl, hyb, hy, hrow, hdl, hp, hbe, hsz⟩ := hrel
    have HQ := hid hq
    have HY := hid hy
    have HDL := hid hdl
    have HP := hid hp
    clear hq hy hdl hp hrow1
    by_cases h0 : 0 < y
    · obtain ⟨j, rfl⟩ : ∃ j, k = j + 1 := ⟨k - 1, by
        rcases Nat.eq_zero_or_pos k with h | h
        · subst h; have := HY.out; omega
        · omega⟩
      obtain ⟨p, rfl⟩ := Int.eq_ofNat_of_zero_le (show 0 ≤ q by have := HQ.out; omega)
      have hpj : p = n + j := by have := HQ.out; omega
      have hcell : wr.cell? ⟨g, p, none⟩ = some (.int .u8 48) := by
        rw [hrow.cell, hpj, List.append_assoc, List.getElem?_append_right (by rw [HVS.out]; omega), HVS.out, Nat.add_sub_cancel_left, List.getElem?_append_left (by simp; omega)]
        simp [Bytes, List.getElem?_append_left]
      have hfree := hrow.free p
      have hpc : p < n + 9 := by omega
      have HPJ := hid hpj
      have hnew : Row (wr.setCell ⟨g, p, none⟩ (.int .u8 (48 + (y : Int) % 10))) g 5 (vs ++ Bytes (List.replicate j 48 ++ (K.chr (y % 10) :: done)) ++ sp) := by
        have h1 := hrow.set p (.int .u8 (48 + (y : Int) % 10))
        have e1 : (vs ++ Bytes (List.replicate (j + 1) 48 ++ done) ++ sp).set p (.int .u8 (48 + (y : Int) % 10)) = vs ++ Bytes (List.replicate j 48 ++ (K.chr (y % 10) :: done)) ++ sp := by
          rw [hpj, List.append_assoc, List.set_append_right _ _ (by rw [HVS.out]; omega), HVS.out, Nat.add_sub_cancel_left, List.set_append_left _ _ (by simp; omega)]
          rw [List.append_assoc vs]
          congr 2
          rw [List.replicate_succ', List.append_assoc, List.singleton_append]
          simp only [Bytes, List.map_append, List.map_cons]
          rw [set_app _ _ _ _ _ (by simp)]
          rw [K.chr_toNat (Nat.mod_lt _ (by omega))]
          simp
        rw [e1] at h1
        exact h1
      clear hpj
      go_wp2
      go_roundw
      case rel =>
        refine ⟨j, y / 10, (p : Int) - 1, K.chr (y % 10) :: done, by omega, rfl, by omega, by omega, by have := HPJ.out; omega, by simp, by omega, ?_, hnew, by have := HDL.out; simp; omega, ?_, hbe.setCell (by exact hg) _, by simpa [World.setCell] using hsz⟩
        · have := HY.out
          rw [Nat.pow_succ] at this
          omega
        · rw [← HP.out, pad]; simp
      case measure => simp [intOf]; omega
    · obtain rfl : y = 0 := by omega
      have hres : wr.ownsRow base 5 1 (.slice (some ⟨g, 0, none⟩) (n + 9) cap) (n + 9) (vs ++ Bytes (pad 9 x)) := by
        rw [← HP.out, pad_zero]
        exact own_of_row hrow hg (by have := HDL.out; simp [HVS.out]; omega) hc1 HC2.out HSL.out
      have HR := hid hres
      clear hres hrow
      go_wp2
      go_ret
      exact ⟨_, rfl, HR.out, hbe, hsz⟩
end Go.Proofs.YtdbaemadphhhcaaDoor
