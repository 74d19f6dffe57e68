/- Joined texts: num.readBoth; (number).gcd; (number).power; (number).power: the walk; num.combine, Add, Sub, Mul, Gcd; num.Compare, Power, Rest; num.Divide. -/
import Derived.Test.YtoilkfohhhidpaaDoorJCStepParts05
import Derived.Deep.LoopGhost
/- num.readBoth -/
namespace Go.Proofs.YtoilkfohhhidpaaDoor
open Go.RowKit
abbrev Z : Obj := .cells #[.bool false, .slice none 0 0] 72
theorem twoZ {w w' : World} (e : Ext ((w.alloc (.cells #[.bool false, .slice none 0 0] 72)).alloc (.cells #[.bool false, .slice none 0 0] 72)) w') :
    Row w' w.heap.size 72 [.bool false, .slice none 0 0] ∧ Row w' (w.heap.size + 1) 72 [.bool false, .slice none 0 0] ∧ w.heap.size + 1 < w'.heap.size ∧ Ext w w' := by
  have h1 := two_facts (W := w) (H := w.heap.size) (t := 72) (a := .bool false) (b := .slice none 0 0) (Ext.step ((Ext.rfl' _).alloc' _) e) rfl
  have h2 := two_facts (H := w.heap.size + 1) e (by simp)
  exact ⟨h1.2.2.2.2.2, h2.2.2.2.2.2, h2.2.2.2.2.1, (((Ext.rfl' w).alloc' _).alloc' _).step e⟩
def BothOk (m n : Int) (w : World) (e : Ending) (w' : World) : Prop := (∃ v1 v2, e = .returned (.tuple #[v1, v2, .int .i64 0]) ∧ NumV w' v1 m ∧ NumV w' v2 n) ∧ Ext w w'
def BothBad (w : World) (e : Ending) (w' : World) : Prop := e = .returned (.tuple #[.agg #[.bool false, .slice none 0 0], .agg #[.bool false, .slice none 0 0], .int .i64 1]) ∧ Ext w w'
set_option maxRecDepth 100000 in
set_option maxHeartbeats 1600000 in
theorem both_bad1 (l1 l2 : List UInt8) (w : World) (h1 : l1.length ≤ 140737488351232) (v1 : K.validL l1 = false) :
    Calls Tryd.prog 48 #[.string (Str l1), .string (Str l2)] w (BothBad w) := by
  go_enter Tryd.func48, Tryd.ntmps48
  go_wp2_with fail
  refine (read_bad l1 _ h1 v1).mono ?_
  rintro e w1 ⟨rfl, hx1⟩
  obtain ⟨r0, r1, hl, hE⟩ := twoZ hx1
  obtain ⟨g0, g1, g2, g3⟩ := (r0.alloc (.cells #[.bool false, .slice none 0 0] 72)).facts
  obtain ⟨i0, i1, i2, i3⟩ := (r1.alloc (.cells #[.bool false, .slice none 0 0] 72)).facts
  have hn1 : ¬ (w.heap.size = w1.heap.size) := by omega
  have hn2 : ¬ (w.heap.size + 1 = w1.heap.size) := by omega
  clear hx1 r0 r1
  go_wp2
  refine bodyPost_ret (v := .tuple #[.agg #[.bool false, .slice none 0 0], .agg #[.bool false, .slice none 0 0], .int .i64 1]) (by simp [results, Tryd.results48, go_sem, g0, g1, i0, i1]) rfl ?_
  exact ⟨rfl, ((((hE.alloc' _).set' (by exact Nat.le_refl _) _).set' (by exact Nat.le_refl _) _).set' (by exact Nat.le_succ _) _).set' (by exact Nat.le_succ _) _⟩
set_option maxRecDepth 100000 in
set_option maxHeartbeats 1600000 in
theorem both_bad2 (l1 l2 : List UInt8) (w : World) (h1 : l1.length ≤ 140737488351232) (h2 : l2.length ≤ 140737488351232) (v1 : K.validL l1 = true) (v2 : K.validL l2 = false) :
    Calls Tryd.prog 48 #[.string (Str l1), .string (Str l2)] w (BothBad w) := by
  go_enter Tryd.func48, Tryd.ntmps48
  go_wp2_with fail
  refine (read_ok l1 _ h1 v1).mono ?_
  rintro e w1 ⟨⟨v1, rfl, ⟨z1, b1, rfl, hb1, hz1⟩⟩, hx1⟩
  obtain ⟨A1, k1, c1, rfl⟩ := hz1.slice
  obtain ⟨r0, r1, hl, hE⟩ := twoZ hx1
  clear hx1
  go_wp2_with fail
  refine (read_bad l2 _ h2 v2).mono ?_
  rintro e w2 ⟨rfl, hx2⟩
  have hx2' : Ext w1 w2 := ((Ext.rfl' w1).alloc' _).step hx2
  have hE2 := hE.step hx2'
  obtain ⟨g0, g1, g2, g3⟩ := ((r0.ext hx2').alloc (.cells #[.bool false, .slice none 0 0] 72)).facts
  obtain ⟨i0, i1, i2, i3⟩ := ((r1.ext hx2').alloc (.cells #[.bool false, .slice none 0 0] 72)).facts
  clear hx2 r0 r1 hx2' hE
  go_wp2
  refine bodyPost_ret (v := .tuple #[.agg #[.bool false, .slice none 0 0], .agg #[.bool false, .slice none 0 0], .int .i64 1]) (by simp [results, Tryd.results48, go_sem, g0, g1, i0, i1]) rfl ?_
  exact ⟨rfl, ((((hE2.alloc' _).set' (by exact Nat.le_refl _) _).set' (by exact Nat.le_refl _) _).set' (by exact Nat.le_succ _) _).set' (by exact Nat.le_succ _) _⟩
set_option maxRecDepth 100000 in
set_option maxHeartbeats 1600000 in
theorem both_ok (l1 l2 : List UInt8) (w : World) (h1 : l1.length ≤ 140737488351232) (h2 : l2.length ≤ 140737488351232) (v1 : K.validL l1 = true) (v2 : K.validL l2 = true) :
    Calls Tryd.prog 48 #[.string (Str l1), .string (Str l2)] w (BothOk (K.numL l1) (K.numL l2) w) := by
  go_enter Tryd.func48, Tryd.ntmps48
  go_wp2_with fail
  refine (read_ok l1 _ h1 v1).mono ?_
  rintro e w1 ⟨⟨v1, rfl, ⟨z1, b1, rfl, hb1, hz1⟩⟩, hx1⟩
  obtain ⟨A1, k1, c1, rfl⟩ := hz1.slice
  obtain ⟨r0, r1, hl, hE⟩ := twoZ hx1
  clear hx1
  go_wp2_with fail
  refine (read_ok l2 _ h2 v2).mono ?_
  rintro e w2 ⟨⟨v2, rfl, ⟨z2, b2, rfl, hb2, hz2⟩⟩, hx2⟩
  obtain ⟨A2, k2, c2, rfl⟩ := hz2.slice
  have hx2' : Ext w1 w2 := ((Ext.rfl' w1).alloc' _).step hx2
  have hE2 := hE.step hx2'
  obtain ⟨-, -, -, -, hl1, rr⟩ := two_facts hx2 rfl
  have R0 := (r0.ext hx2').alloc (.cells #[.bool b2, .slice A2 k2 c2] 72)
  have R1 := (r1.ext hx2').alloc (.cells #[.bool b2, .slice A2 k2 c2] 72)
  obtain ⟨g0, g1, g2, g3⟩ := R0.facts
  obtain ⟨i0, i1, i2, i3⟩ := R1.facts
  obtain ⟨k0, k1', -, -⟩ := (rr.alloc (.cells #[.bool b2, .slice A2 k2 c2] 72)).facts
  have hfin := PairPost.stored (w := w) R0 R1 (hE2.alloc' _) (Nat.le_refl _) hb1 hb2 (hz1.ext (hx2'.alloc' (.cells #[.bool b2, .slice A2 k2 c2] 72))) (hz2.ext ((Ext.rfl' w2).alloc' (.cells #[.bool b2, .slice A2 k2 c2] 72)))
  have HF := hid hfin
  have hn1 : ¬ (w.heap.size = w1.heap.size) := by omega
  have hn2 : ¬ (w.heap.size + 1 = w1.heap.size) := by omega
  have hn3 : ¬ (w1.heap.size = w.heap.size) := by omega
  have hn4 : ¬ (w1.heap.size = w.heap.size + 1) := by omega
  have hn5 : ¬ (w.heap.size = w2.heap.size) := by omega
  have hn6 : ¬ (w.heap.size + 1 = w2.heap.size) := by omega
  have hn7 : ¬ (w2.heap.size = w.heap.size) := by omega
  have hn8 : ¬ (w2.heap.size = w.heap.size + 1) := by omega
  clear hx2 r0 r1 hx2' hE hfin hz1 hz2 R0 R1 rr hb1 hb2
  go_wp2_with fail
  go_region_held3 (fun w' => w'.cell? ⟨w1.heap.size, 0, none⟩ = some (.bool b1) ∧ w'.cell? ⟨w1.heap.size, 1, none⟩ = some (.slice A1 k1 c1) ∧ w'.cell? ⟨w2.heap.size, 0, none⟩ = some (.bool b2) ∧ w'.cell? ⟨w2.heap.size, 1, none⟩ = some (.slice A2 k2 c2))
    (go_keep) (fail)
  go_wp2
  refine bodyPost_ret (v := .tuple #[.agg #[.bool b1, .slice A1 k1 c1], .agg #[.bool b2, .slice A2 k2 c2], .int .i64 0]) (by simp [results, Tryd.results48, go_sem, g0, g1, i0, i1]) rfl ?_
  obtain ⟨y1, y2, hy, m1, m2, he⟩ := HF.out
  injection hy with hy
  injection hy with hy
  simp only [Array.mk.injEq, List.cons.injEq, and_true] at hy
  obtain ⟨rfl, rfl⟩ := hy
  exact ⟨⟨_, _, rfl, m1.ext (Ext.rfl' _).drew', m2.ext (Ext.rfl' _).drew'⟩, he.drew'⟩
end Go.Proofs.YtoilkfohhhidpaaDoor
/- (number).gcd -/
namespace Go.Proofs.YtoilkfohhhidpaaDoor
open Go.RowKit Go.Deep
theorem gcd_step (x y : Nat) (h : 0 < y) : Nat.gcd y (x % y) = Nat.gcd x y := by
  rw [Nat.gcd_comm x y, Nat.gcd_rec y x, Nat.gcd_comm]
set_option maxRecDepth 100000 in
set_option maxHeartbeats 1600000 in
theorem ngcd_any (va vb : Value) (m n : Int) (w : World) (ha : NumV w va m) (hb : NumV w vb n) (la : m.natAbs ≤ BIG) (lb : n.natAbs ≤ BIG) :
    Calls Tryd.prog 61 #[va, vb] w (NumPost (Nat.gcd m.natAbs n.natAbs : Int) w) := by
  obtain ⟨sa, ba, rfl, hba, hza⟩ := ha
  obtain ⟨sb, bb, rfl, hbb, hzb⟩ := hb
  obtain ⟨A, ka, ca, rfl⟩ := hza.slice
  obtain ⟨B, kb, cb, rfl⟩ := hzb.slice
  have hE2 : Ext w ((w.alloc (.cells #[.bool ba, .slice A ka ca] 72)).alloc (.cells #[.bool bb, .slice B kb cb] 72)) := ((Ext.rfl' w).alloc' _).alloc' _
  have hE : Ext w (((w.alloc (.cells #[.bool ba, .slice A ka ca] 72)).alloc (.cells #[.bool bb, .slice B kb cb] 72)).alloc (.cells #[.bool false, .slice none 0 0] 72)) := hE2.alloc' _
  have HE := hid hE
  have HE2 := hid hE2
  clear hba hbb hE hE2
  go_enter Tryd.func61, Tryd.ntmps61
  go_wp2_with fail
  go_region_held3 (fun w' => w'.cell? ⟨w.heap.size, 1, none⟩ = some (.slice A ka ca) ∧ w'.cell? ⟨w.heap.size + 1, 1, none⟩ = some (.slice B kb cb)) (go_keep) (fail)
  go_wp2_with fail
  go_loopg [5, 6] n.natAbs (fun g s5 s6 wr => ∃ (x y : Nat), NatV wr s5 x ∧ NatV wr s6 y ∧ x ≤ BIG ∧ y ≤ BIG ∧ y = g ∧ Hid (Nat.gcd x y = Nat.gcd m.natAbs n.natAbs) ∧ Ext (((w.alloc (.cells #[.bool ba, .slice A ka ca] 72)).alloc (.cells #[.bool bb, .slice B kb cb] 72)).alloc (.cells #[.bool false, .slice none 0 0] 72)) wr)
  case atStart => exact ⟨m.natAbs, n.natAbs, hza.ext HE.out.drew', hzb.ext HE.out.drew', la, lb, rfl, hid rfl, (Ext.rfl' _).drew'⟩
  case round =>
    obtain ⟨x, y, hx, hy, lx, ly, rfl, hg, hext⟩ := hrel
    obtain ⟨A1, k1, c1, rfl⟩ := hx.slice
    obtain ⟨A2, k2, c2, rfl⟩ := hy.slice
    by_cases hk : 0 < k2
    · have hy0 : 0 < y := (hy.len_zero).1 hk
      go_wp2_with fail
      refine (div_any _ _ x y wr hx hy lx ly hy0).mono ?_
      rintro e w2 ⟨v1, v2, rfl, hz1, hz2, hx2⟩
      have hlt := Nat.mod_lt x hy0
      have HLT := hid hlt
      obtain ⟨A3, k3, c3, rfl⟩ := hz2.slice
      clear hlt hk
      go_wp2
      go_roundg (x % y)
      case measure => exact HLT.out
      case rel => exact ⟨y, x % y, hy.ext hx2, hz2, ly, by have := HLT.out; omega, rfl, hid (by rw [← hg.out]; exact gcd_step x y hy0), hext.step hx2⟩
    · obtain rfl : y = 0 := by
        have := hy.len_zero
        omega
      have hfin := hg.out
      rw [Nat.gcd_zero_right] at hfin
      obtain ⟨g0, g1, g2, g3, -, -⟩ := two_facts (H := w.heap.size + 1 + 1) hext (by simp)
      have hst := NumPost.stored (n := (Nat.gcd m.natAbs n.natAbs : Int)) hext HE2.out (H := w.heap.size + 1 + 1) (by simp) (by rw [abs_cast, ← hfin]; exact hx) false (dec_cast _)
      have HF := hid hst
      clear hfin hst hext hg hx hy
      go_wp2
      refine bodyPost_ret (v := .agg #[.bool false, .slice A1 k1 c1]) (by simp [results, Tryd.results61, go_sem, g0, g1]) rfl HF.out
end Go.Proofs.YtoilkfohhhidpaaDoor
/- (number).power -/
namespace Go.Proofs.YtoilkfohhhidpaaDoor
open Go.RowKit
/-! ### bounds by limbs -/
def TOP (k : Nat) : Nat := 1000000000 ^ k
theorem TOP_add (a b : Nat) : TOP (a + b) = TOP a * TOP b := Nat.pow_add _ _ _
theorem TOP_pos (k : Nat) : 0 < TOP k := Nat.pow_pos (by omega)
theorem TOP_mono {a b : Nat} (h : a ≤ b) : TOP a ≤ TOP b := Nat.pow_le_pow_right (by omega) h
theorem nines_top (k : Nat) : K.lv (List.replicate k 999999999) + 1 = TOP k := lv_nines k
theorem BIG_top : BIG + 1 = TOP 1000 := nines_top 1000
theorem pw_top (k : Nat) : K.pw (9 * k) = TOP k := by unfold K.pw TOP; rw [Nat.pow_mul]
theorem LIM_top : K.LIM ≤ TOP 223 := by rw [← pw_top]; exact K.pw_mono (by omega)
theorem le_big {x a : Nat} (h : x < TOP a) (ha : a ≤ 1000) : x ≤ BIG := by
  have h1 := TOP_mono ha
  have h2 := BIG_top
  omega
theorem mul_top {x y a b : Nat} (hx : x < TOP a) (hy : y < TOP b) : x * y < TOP (a + b) := by rw [TOP_add]; exact Nat.mul_lt_mul'' hx hy
theorem fits_top {m : Int} (h : K.fits m) : m.natAbs < TOP 223 := Nat.lt_of_lt_of_le h LIM_top
theorem fits_big {m : Int} (h : K.fits m) : m.natAbs ≤ BIG := le_big (fits_top h) (by omega)
theorem NatV.top {w : World} {A : Option Addr} {k c n : Nat} (h : NatV w (.slice A k c) n) : n < TOP k ∧ (0 < k → TOP (k - 1) ≤ n) := by
  obtain ⟨A', k', c', xs, hv, hl, _, _, hL, hm⟩ := h
  injection hv with _ hk _
  subst hk hm hl
  exact ⟨K.lv_lt xs hL.1, fun h0 => hL.ge (by intro e; subst e; simp at h0)⟩
theorem pow_big {m : Int} {k n : Nat} (hk : k ≤ n) (h : 1 < (m ^ k).natAbs) : (m ^ k).natAbs ≤ (m ^ n).natAbs := by
  rw [Int.natAbs_pow] at h ⊢
  rw [Int.natAbs_pow]
  have h0 : m.natAbs ≠ 0 := by
    intro e; rw [e] at h
    rcases Nat.eq_zero_or_pos k with h1 | h1
    · subst h1; simp at h
    · rw [Nat.zero_pow h1] at h; omega
  exact Nat.pow_le_pow_right (by omega) hk
theorem band1 (q : Nat) (hq : q < 9223372036854775808) : bits .and .i64 (q : Int) 1 = ((q % 2 : Nat) : Int) := by
  have e1 : (BitVec.ofInt 64 (q : Int)).toNat = q := by
    rw [BitVec.ofInt_natCast, BitVec.toNat_ofNat]; exact Nat.mod_eq_of_lt (by omega)
  show IntKind.i64.wrap ((BitVec.ofInt 64 (q : Int) &&& BitVec.ofInt 64 1).toNat : Int) = _
  rw [BitVec.toNat_and, e1, show (BitVec.ofInt 64 1).toNat = 1 from rfl, Nat.and_one_is_mod, IntKind.wrap_i64]
  omega
theorem half (n j : Nat) : n / 2 ^ j = 2 * (n / 2 ^ (j + 1)) + n / 2 ^ j % 2 := by
  rw [Nat.pow_succ, ← Nat.div_div_eq_div_mul]; omega

def PowInv (w : World) (ba : Bool) (A : Option Addr) (ka ca : Nat) (r : Int) (wr : World) : Prop :=
  ∃ b A1 k1 c1, Row wr w.heap.size 72 [.bool ba, .slice A ka ca] ∧ Row wr (w.heap.size + 1) 72 [.bool false, .slice none 0 0] ∧ Row wr (w.heap.size + 1 + 1 + 1) 72 [.bool b, .slice A1 k1 c1] ∧
    Hid (b = decide (r < 0)) ∧ NatV wr (.slice A1 k1 c1) r.natAbs ∧ Ext w wr
theorem NumV.mk' {w : World} {b : Bool} {sz : Value} {n : Int} (hb : Hid (b = decide (n < 0))) (hz : NatV w sz n.natAbs) : NumV w (.agg #[.bool b, sz]) n := ⟨sz, b, rfl, hb, hz⟩
/-- the variable is overwritten -/
theorem PowInv.put {w wr w' : World} {ba b b' : Bool} {A A1 A2 : Option Addr} {ka ca k1 c1 k2 c2 : Nat} {r : Int} (h0 : Row wr w.heap.size 72 [.bool ba, .slice A ka ca]) (h1 : Row wr (w.heap.size + 1) 72 [.bool false, .slice none 0 0])
    (h2 : Row wr (w.heap.size + 1 + 1 + 1) 72 [.bool b, .slice A1 k1 c1]) (hw : Ext w wr) (hx : Ext wr w') (hb : Hid (b' = decide (r < 0))) (hz : NatV w' (.slice A2 k2 c2) r.natAbs) :
    let W := (w'.setCell ⟨w.heap.size + 1 + 1 + 1, 0, none⟩ (.bool b')).setCell ⟨w.heap.size + 1 + 1 + 1, 1, none⟩ (.slice A2 k2 c2)
    Row W w.heap.size 72 [.bool ba, .slice A ka ca] ∧ Row W (w.heap.size + 1) 72 [.bool false, .slice none 0 0] ∧ Row W (w.heap.size + 1 + 1 + 1) 72 [.bool b', .slice A2 k2 c2] ∧ NatV W (.slice A2 k2 c2) r.natAbs ∧ Ext w W := by
  have r0 := h0.ext hx
  have r1 := h1.ext hx
  have r2 := h2.ext hx
  exact ⟨(r0.far (by show _ ≠ w.heap.size + 1 + 1 + 1; omega) _).far (by show _ ≠ w.heap.size + 1 + 1 + 1; omega) _, (r1.far (by show _ ≠ w.heap.size + 1 + 1 + 1; omega) _).far (by show _ ≠ w.heap.size + 1 + 1 + 1; omega) _, (r2.set 0 (.bool b')).set 1 (.slice A2 k2 c2), hz.two r2,
    ((hw.step hx).set' (by show _ ≤ w.heap.size + 1 + 1 + 1; omega) _).set' (by show _ ≤ w.heap.size + 1 + 1 + 1; omega) _⟩
def PowPost (m : Int) (n : Nat) (w : World) (e : Ending) (w' : World) : Prop :=
  ∃ v r, e = .returned v ∧ NumV w' v r ∧ r.natAbs ≤ BIG ∧ (r = m ^ n ∨ (¬ K.fits r ∧ ¬ K.fits (m ^ n))) ∧ Ext w w'
/-- the variable becomes the result -/
theorem PowPost.stored {w W : World} {b : Bool} {A1 : Option Addr} {k1 c1 : Nat} {m r : Int} {n : Nat} (r1 : Row W (w.heap.size + 1) 72 [.bool false, .slice none 0 0]) (hb : Hid (b = decide (r < 0))) (hz : NatV W (.slice A1 k1 c1) r.natAbs) (he : Ext w W)
    (hB : r.natAbs ≤ BIG) (hr : r = m ^ n ∨ (¬ K.fits r ∧ ¬ K.fits (m ^ n))) :
    PowPost m n w (.returned (.agg #[.bool b, .slice A1 k1 c1])) ((W.setCell ⟨w.heap.size + 1, 0, none⟩ (.bool b)).setCell ⟨w.heap.size + 1, 1, none⟩ (.slice A1 k1 c1)) :=
  ⟨_, r, rfl, NumV.mk' hb (hz.two r1), hB, hr, (he.set' (by show _ ≤ w.heap.size + 1; omega) _).set' (by show _ ≤ w.heap.size + 1; omega) _⟩
end Go.Proofs.YtoilkfohhhidpaaDoor
/- (number).power: the walk -/
namespace Go.Proofs.YtoilkfohhhidpaaDoor
open Go.RowKit
theorem bitLen_le : ∀ (k x : Nat), x < 2 ^ k → k ≤ 60 → x < 2 ^ Lib.bitLen x ∧ Lib.bitLen x ≤ k
  | 0, x, h, _ => by
    have : x = 0 := by simpa using h
    subst this
    exact ⟨by decide, by decide⟩
  | k + 1, x, h, hk => by
    by_cases h0 : x = 0
    · subst h0
      exact ⟨by decide, Nat.le_trans (show Lib.bitLen 0 ≤ 0 by decide) (Nat.zero_le _)⟩
    · have h64 : x < 2 ^ 64 := Nat.lt_of_lt_of_le h (Nat.pow_le_pow_right (by omega) (by omega))
      have ih := bitLen_le k (x / 2) (by rw [Nat.pow_succ] at h; omega) (by omega)
      rw [Lib.bitLen_half x h0 h64, Nat.add_comm, Nat.pow_succ]
      omega
theorem bitLen_lt (n : Nat) (hn : n ≤ 10000) : n < 2 ^ Lib.bitLen n ∧ Lib.bitLen n ≤ 14 := bitLen_le 14 n (by omega) (by omega)
set_option maxRecDepth 100000 in
set_option maxHeartbeats 3200000 in
theorem npow_any (va : Value) (m : Int) (n : Nat) (w : World) (ha : NumV w va m) (la : K.fits m) (hn : n ≤ 10000) :
    Calls Tryd.prog 66 #[va, .int .i64 (n : Int)] w (PowPost m n w) := by
  obtain ⟨sa, ba, rfl, hba, hza⟩ := ha
  obtain ⟨A, ka, ca, rfl⟩ := hza.slice
  obtain ⟨hbl, hb14⟩ := bitLen_lt n hn
  have HBL := hid hbl
  have HBA := hid hba
  have HFT := hid (fits_top la)
  have HFB := hid (fits_big la)
  clear hbl hba la
  go_enter Tryd.func66, Tryd.ntmps66
  go_wp2_with fail
  refine (Shelf.l_bits_Len _ _ (by omega) (by omega)).mono ?_
  rintro e w1 ⟨rfl, rfl⟩
  rw [Int.toNat_natCast]
  generalize Lib.bitLen n = bl at *
  go_wp2_with fail
  go_loopw [6] (fun i wr => ∃ (q r : Int), -1 ≤ q ∧ q ≤ 13 ∧ i = .int .i64 q ∧ Hid (r = m ^ (n / 2 ^ (q + 1).toNat)) ∧ Hid (r.natAbs < TOP 223) ∧ PowInv w ba A ka ca r wr) (fun i _ => (intOf i + 1).toNat)
  case atStart =>
    refine ⟨(bl : Int) - 1, 1, by omega, by omega, rfl, hid ?_, hid ?_, false, some ⟨w.heap.size + 1 + 1, 0, none⟩, 1, 1, ?_, ?_, ?_, hid rfl, ?_, ?_⟩
    · rw [show ((bl : Int) - 1 + 1).toNat = bl by omega, Nat.div_eq_of_lt HBL.out]; exact (Int.pow_zero m).symm
    · rw [show (223 : Nat) = 222 + 1 from rfl, TOP_add]; have := TOP_pos 222; show 1 < _; unfold TOP at *; omega
    · exact (((Row.new w 72 [.bool ba, .slice A ka ca]).alloc _).alloc _).alloc _
    · have h := ((Row.new (w.alloc (.cells #[.bool ba, .slice A ka ca] 72)) 72 [.bool false, .slice none 0 0]).alloc (.cells #[.int .u64 1] 91)).alloc (.cells #[.bool false, .slice (some ⟨w.heap.size + 1 + 1, 0, none⟩) 1 1] 72)
      simpa using h
    · have h := Row.new (((w.alloc (.cells #[.bool ba, .slice A ka ca] 72)).alloc (.cells #[.bool false, .slice none 0 0] 72)).alloc (.cells #[.int .u64 1] 91)) 72 [.bool false, .slice (some ⟨w.heap.size + 1 + 1, 0, none⟩) 1 1]
      simpa using h
    · have h := (NatV.one ((w.alloc (.cells #[.bool ba, .slice A ka ca] 72)).alloc (.cells #[.bool false, .slice none 0 0] 72))).ext ((Ext.rfl' _).alloc' (.cells #[.bool false, .slice (some ⟨w.heap.size + 1 + 1, 0, none⟩) 1 1] 72))
      simpa using h
    · exact ((((Ext.rfl' w).alloc' _).alloc' _).alloc' _).alloc' _
  case round =>
    obtain ⟨q, r, hq1, hq2, rfl, hr, hrt, ⟨b, A1, k1, c1, r0, r1, r2, hb, hz, hext⟩⟩ := hrel
    by_cases hq : 0 ≤ q
    · obtain ⟨j, rfl⟩ := Int.eq_ofNat_of_zero_le hq
      have hr' : r = m ^ (n / 2 ^ (j + 1)) := by have := hr.out; rwa [show ((j : Int) + 1).toNat = j + 1 by omega] at this
      have hqn : n / 2 ^ j ≤ n := Nat.div_le_self _ _
      have hsq : r * r = m ^ (2 * (n / 2 ^ (j + 1))) := by rw [hr', ← Int.pow_add]; congr 1; omega
      have HSQ := hid hsq
      have hrr : (r * r).natAbs < TOP 446 := by rw [Int.natAbs_mul]; exact mul_top hrt.out hrt.out
      have HRR := hid hrr
      have HQN := hid hqn
      have hcast : (n : Int) / 2 ^ j = ((n / 2 ^ j : Nat) : Int) := by simp
      obtain ⟨g0, g1, g2, g3⟩ := r2.facts
      have hx0 : ∀ x : Nat, x = n / 2 ^ j % 2 → bits .and .i64 ((n : Int) / 2 ^ j) 1 = (x : Int) := by
        intro x hx
        rw [hcast, band1 _ (by omega), hx]
      clear hsq hrr hr' hqn hr
      by_cases hbit : n / 2 ^ j % 2 = 1
      · have hbb : (bits .and .i64 ((n : Int) / 2 ^ j) 1 == 1) = true := by rw [hx0 1 hbit.symm]; rfl
        have hpw : Hid (r * r * m = m ^ (n / 2 ^ j)) := by
          refine hid ?_
          rw [HSQ.out, ← Int.pow_succ]
          congr 1
          have := half n j
          omega
        have hrm : Hid ((r * r * m).natAbs < TOP 669) := by
          refine hid ?_
          rw [Int.natAbs_mul]; exact mul_top HRR.out HFT.out
        clear hx0 hcast hbit
        go_wp2_with fail
        refine (ntimes_any _ _ r r _ (NumV.mk' hb hz) (NumV.mk' hb hz) (le_big hrt.out (by omega)) (le_big hrt.out (by omega))).mono ?_
        rintro e w2 ⟨v2, rfl, ⟨z2, b2, rfl, hb2, hz2⟩, hx2⟩
        obtain ⟨A2, k2, c2, rfl⟩ := hz2.slice
        obtain ⟨g0, g1, g2, g3⟩ := (r2.ext hx2).facts
        obtain ⟨R0, R1, R2, hz3, hext3⟩ := PowInv.put r0 r1 r2 hext hx2 hb2 hz2
        obtain ⟨e0, e1, e2, e3⟩ := R0.facts
        obtain ⟨f0, f1, f2, f3⟩ := R2.facts
        clear r0 r1 r2 hx2 hz hz2 hext
        go_wp2_with fail
        refine (ntimes_any _ _ (r * r) m _ (NumV.mk' hb2 hz3) ((NumV.mk' HBA.out hza).ext hext3) (le_big HRR.out (by omega)) HFB.out).mono ?_
        rintro e w4 ⟨v4, rfl, ⟨z4, b4, rfl, hb4, hz4⟩, hx4⟩
        obtain ⟨A4, k4, c4, rfl⟩ := hz4.slice
        obtain ⟨e0, e1, e2, e3⟩ := (R2.ext hx4).facts
        obtain ⟨S0, S1, S2, hz5, hext5⟩ := PowInv.put R0 R1 R2 hext3 hx4 hb4 hz4
        obtain ⟨u0, u1, u2, u3⟩ := S1.facts
        obtain ⟨t0, t1, t2, t3⟩ := S2.facts
        have htop := hz5.top
        by_cases hk : 223 < k4
        · have hbig : K.LIM ≤ (r * r * m).natAbs := Nat.le_trans LIM_top (Nat.le_trans (TOP_mono (by omega)) (htop.2 (by omega)))
          have hnf : ¬ K.fits (r * r * m) := fun h => absurd h (by unfold K.fits; omega)
          have hnf2 : ¬ K.fits (m ^ n) := by
            intro h
            have h1 : 1 < K.LIM := by
              have h2 : K.pw 1 ≤ K.LIM := K.pw_mono (by omega)
              have h3 : K.pw 1 = 10 := rfl
              omega
            have h2 := pow_big (m := m) HQN.out (by rw [← hpw.out]; omega)
            rw [← hpw.out] at h2
            exact absurd h (by unfold K.fits; omega)
          have hfin := PowPost.stored (m := m) (n := n) S1 hb4 hz5 hext5 (le_big hrm.out (by omega)) (.inr ⟨hnf, hnf2⟩)
          have HF := hid hfin
          clear hfin hnf hnf2 hbig htop S0 S1 S2 hz5 hext5
          go_wp2
          refine bodyPost_ret (v := .agg #[.bool b4, .slice A4 k4 c4]) (by simp [results, Tryd.results66, go_sem, u0, u1]) rfl HF.out
        · have HTOP := hid (Nat.lt_of_lt_of_le htop.1 (TOP_mono (show k4 ≤ 223 by omega)))
          clear htop
          go_wp2
          go_roundw
          case rel => exact ⟨(j : Int) - 1, r * r * m, by omega, by omega, rfl, hid (by rw [show ((j : Int) - 1 + 1).toNat = j by omega]; exact hpw.out), HTOP, b4, A4, k4, c4, S0, S1, S2, hb4, hz5, hext5⟩
          case measure => simp [intOf]
      · have hbit0 : n / 2 ^ j % 2 = 0 := by omega
        have hbb : (bits .and .i64 ((n : Int) / 2 ^ j) 1 == 1) = false := by rw [hx0 0 hbit0.symm]; rfl
        have hpw : Hid (r * r = m ^ (n / 2 ^ j)) := by
          refine hid ?_
          rw [HSQ.out]
          congr 1
          have := half n j
          omega
        have hrm : Hid ((r * r).natAbs < TOP 669) := hid (Nat.lt_of_lt_of_le HRR.out (TOP_mono (by omega)))
        clear hx0 hcast hbit hbit0
        go_wp2_with fail
        refine (ntimes_any _ _ r r _ (NumV.mk' hb hz) (NumV.mk' hb hz) (le_big hrt.out (by omega)) (le_big hrt.out (by omega))).mono ?_
        rintro e w4 ⟨v4, rfl, ⟨z4, b4, rfl, hb4, hz4⟩, hx4⟩
        obtain ⟨A4, k4, c4, rfl⟩ := hz4.slice
        obtain ⟨e0, e1, e2, e3⟩ := (r2.ext hx4).facts
        obtain ⟨S0, S1, S2, hz5, hext5⟩ := PowInv.put r0 r1 r2 hext hx4 hb4 hz4
        obtain ⟨u0, u1, u2, u3⟩ := S1.facts
        obtain ⟨t0, t1, t2, t3⟩ := S2.facts
        have htop := hz5.top
        by_cases hk : 223 < k4
        · have hbig : K.LIM ≤ (r * r).natAbs := Nat.le_trans LIM_top (Nat.le_trans (TOP_mono (by omega)) (htop.2 (by omega)))
          have hnf : ¬ K.fits (r * r) := fun h => absurd h (by unfold K.fits; omega)
          have hnf2 : ¬ K.fits (m ^ n) := by
            intro h
            have h1 : 1 < K.LIM := by
              have h2 : K.pw 1 ≤ K.LIM := K.pw_mono (by omega)
              have h3 : K.pw 1 = 10 := rfl
              omega
            have h2 := pow_big (m := m) HQN.out (by rw [← hpw.out]; omega)
            rw [← hpw.out] at h2
            exact absurd h (by unfold K.fits; omega)
          have hfin := PowPost.stored (m := m) (n := n) S1 hb4 hz5 hext5 (le_big hrm.out (by omega)) (.inr ⟨hnf, hnf2⟩)
          have HF := hid hfin
          clear hfin hnf hnf2 hbig htop S0 S1 S2 hz5 hext5
          go_wp2
          refine bodyPost_ret (v := .agg #[.bool b4, .slice A4 k4 c4]) (by simp [results, Tryd.results66, go_sem, u0, u1]) rfl HF.out
        · have HTOP := hid (Nat.lt_of_lt_of_le htop.1 (TOP_mono (show k4 ≤ 223 by omega)))
          clear htop
          go_wp2
          go_roundw
          case rel => exact ⟨(j : Int) - 1, r * r, by omega, by omega, rfl, hid (by rw [show ((j : Int) - 1 + 1).toNat = j by omega]; exact hpw.out), HTOP, b4, A4, k4, c4, S0, S1, S2, hb4, hz5, hext5⟩
          case measure => simp [intOf]
    · obtain rfl : q = -1 := by omega
      obtain ⟨g0, g1, g2, g3⟩ := r1.facts
      obtain ⟨i0, i1, i2, i3⟩ := r2.facts
      have hfin := PowPost.stored (m := m) (n := n) r1 hb hz hext (le_big hrt.out (by omega)) (.inl (by have := hr.out; simpa using this))
      have HF := hid hfin
      clear hfin r0 r1 r2 hz hext
      go_wp2
      refine bodyPost_ret (v := .agg #[.bool b, .slice A1 k1 c1]) (by simp [results, Tryd.results66, go_sem, g0, g1]) rfl HF.out
end Go.Proofs.YtoilkfohhhidpaaDoor
/- num.combine, Add, Sub, Mul, Gcd -/
namespace Go.Proofs.YtoilkfohhhidpaaDoor
open Go.RowKit
theorem enter_of {P : Program} {f : FuncId} {fn : Func} (hf : P.funcs[f]? = some fn) (hname : (fn.name == "runtime.NumGoroutine") = false) (hb : fn.body.isSome = true) (args : Array Value) (w : World) :
    (callFunc f args).run P w = .ok (.enter f args) w := by
  obtain ⟨c, hc⟩ := Option.isSome_iff_exists.1 hb
  have h1 : fn.name ≠ "runtime.NumGoroutine" := by simpa using hname
  simp [callFunc, hf, h1, hc]
def BadStr (w : World) (e : Ending) (w' : World) : Prop := e = .returned (.tuple #[.string ⟨#[]⟩, .int .i64 1]) ∧ Ext w w'
theorem told_step {n : Int} {w w1 : World} {e : Ending} {w' : World} (h : Ext w w1) (k : ToldPost n w1 e w') : ToldPost n w e w' := ⟨k.1, k.2.1, h.step k.2.2⟩
set_option maxRecDepth 100000 in
set_option maxHeartbeats 800000 in
theorem combine_ok (f : FuncId) (hcf : ∀ args W, (callFunc f args).run Tryd.prog W = .ok (.enter f args) W) (k : Int) (l1 l2 : List UInt8) (w : World) (h1 : l1.length ≤ 140737488351232) (h2 : l2.length ≤ 140737488351232) (v1 : K.validL l1 = true) (v2 : K.validL l2 = true) (ht : Tab w)
    (hop : Hid (∀ W va vb, NumV W va (K.numL l1) → NumV W vb (K.numL l2) → Calls Tryd.prog f #[va, vb] W (NumPost k W))) (hk : k.natAbs ≤ BIG) :
    Calls Tryd.prog 44 #[.string (Str l1), .string (Str l2), .func (.func f) #[] #[]] w (ToldPost k w) := by
  go_enter Tryd.func44, Tryd.ntmps44
  go_wp2_with fail
  refine (both_ok l1 l2 w h1 h2 v1 v2).mono ?_
  rintro e w1 ⟨⟨y1, y2, rfl, ⟨z1, b1, rfl, hb1, hz1⟩, ⟨z2, b2, rfl, hb2, hz2⟩⟩, hx1⟩
  obtain ⟨A1, k1, c1, rfl⟩ := hz1.slice
  obtain ⟨A2, k2, c2, rfl⟩ := hz2.slice
  have hE : Ext w1 ((w1.alloc (.cells #[.bool b1, .slice A1 k1 c1] 72)).alloc (.cells #[.bool b2, .slice A2 k2 c2] 72)) := ((Ext.rfl' w1).alloc' _).alloc' _
  have n1 := (NumV.mk' hb1 hz1).ext hE
  have n2 := (NumV.mk' hb2 hz2).ext hE
  have hE2 := hx1.step hE
  clear hb1 hz1 hb2 hz2 hx1 hE
  go_wp2_with fail
  refine (hop.out _ _ _ n1 n2).mono ?_
  rintro e w2 ⟨v, rfl, hv, hx2⟩
  go_wp2_with fail
  refine (write_any v k w2 hv hk (ht.ext (hE2.step hx2))).mono ?_
  intro e w3 hp
  have hq := told_step (hE2.step hx2) hp
  clear hE2 hx2 n1 n2 hv hp
  by_cases hf : K.fits k
  · have he := hq.1 hf
    subst he
    go_wp2
    go_ret2
    exact hq
  · have he := hq.2.1 hf
    subst he
    go_wp2
    go_ret2
    exact hq
set_option maxRecDepth 100000 in
set_option maxHeartbeats 800000 in
theorem combine_bad (f : Value) (l1 l2 : List UInt8) (w : World) (h1 : l1.length ≤ 140737488351232) (h2 : l2.length ≤ 140737488351232) (v : K.validL l1 = false ∨ K.validL l2 = false) :
    Calls Tryd.prog 44 #[.string (Str l1), .string (Str l2), f] w (BadStr w) := by
  have hb : Calls Tryd.prog 48 #[.string (Str l1), .string (Str l2)] w (BothBad w) := by
    cases h : K.validL l1 with
    | false => exact both_bad1 l1 l2 w h1 h
    | true =>
      rcases v with v | v
      · rw [h] at v; cases v
      · exact both_bad2 l1 l2 w h1 h2 h v
  have HB := hid hb
  clear hb
  go_enter Tryd.func44, Tryd.ntmps44
  go_wp2_with fail
  refine HB.out.mono ?_
  rintro e w1 ⟨rfl, hx1⟩
  go_wp2
  go_ret2
  exact ⟨rfl, (hx1.alloc' _).alloc' _⟩
theorem gcd_le {a b c : Nat} (ha : a ≤ c) (hb : b ≤ c) : Nat.gcd a b ≤ c := by
  rcases Nat.eq_zero_or_pos a with h | h
  · subst h; rw [Nat.gcd_zero_left]; exact hb
  · exact Nat.le_trans (Nat.gcd_le_left b h) ha
set_option maxRecDepth 100000 in
theorem add_ok (l1 l2 : List UInt8) (w : World) (h1 : l1.length ≤ 140737488351232) (h2 : l2.length ≤ 140737488351232) (v1 : K.validL l1 = true) (v2 : K.validL l2 = true) (ht : Tab w) :
    Calls Tryd.prog 8 #[.string (Str l1), .string (Str l2)] w (ToldPost (K.numL l1 + K.numL l2) w) := by
  have f1 := fits_top (K.txt_numL l1 v1).2
  have f2 := fits_top (K.txt_numL l2 v2).2
  have g1 := fits_big (K.txt_numL l1 v1).2
  have g2 := fits_big (K.txt_numL l2 v2).2
  have hc := combine_ok 45 (enter_of Tryd.func45 (by kernel_rfl) (by kernel_rfl)) (K.numL l1 + K.numL l2) l1 l2 w h1 h2 v1 v2 ht (hid fun W va vb ha hb => nplus_any va vb _ _ W ha hb g1 g2) (by refine le_big (a := 224) ?_ (by omega); rw [show (224 : Nat) = 223 + 1 from rfl, TOP_add]; have := TOP_pos 223; have : TOP 1 = 1000000000 := rfl; rw [this]; omega)
  have HC := hid hc
  clear hc f1 f2 g1 g2
  go_enter Tryd.func8, Tryd.ntmps8
  go_wp2_with fail
  refine HC.out.mono ?_
  intro e w1 hq
  by_cases hf : K.fits (K.numL l1 + K.numL l2)
  · have he := hq.1 hf
    subst he
    go_wp2
    go_ret2
    exact hq
  · have he := hq.2.1 hf
    subst he
    go_wp2
    go_ret2
    exact hq
set_option maxRecDepth 100000 in
theorem add_bad (l1 l2 : List UInt8) (w : World) (h1 : l1.length ≤ 140737488351232) (h2 : l2.length ≤ 140737488351232) (v : K.validL l1 = false ∨ K.validL l2 = false) :
    Calls Tryd.prog 8 #[.string (Str l1), .string (Str l2)] w (BadStr w) := by
  go_enter Tryd.func8, Tryd.ntmps8
  go_wp2_with fail
  refine (combine_bad _ l1 l2 w h1 h2 v).mono ?_
  rintro e w1 ⟨rfl, hx⟩
  go_wp2
  go_ret2
  exact ⟨rfl, hx⟩
set_option maxRecDepth 100000 in
theorem sub_ok (l1 l2 : List UInt8) (w : World) (h1 : l1.length ≤ 140737488351232) (h2 : l2.length ≤ 140737488351232) (v1 : K.validL l1 = true) (v2 : K.validL l2 = true) (ht : Tab w) :
    Calls Tryd.prog 9 #[.string (Str l1), .string (Str l2)] w (ToldPost (K.numL l1 - K.numL l2) w) := by
  have f1 := fits_top (K.txt_numL l1 v1).2
  have f2 := fits_top (K.txt_numL l2 v2).2
  have g1 := fits_big (K.txt_numL l1 v1).2
  have g2 := fits_big (K.txt_numL l2 v2).2
  have hc := combine_ok 46 (enter_of Tryd.func46 (by kernel_rfl) (by kernel_rfl)) (K.numL l1 - K.numL l2) l1 l2 w h1 h2 v1 v2 ht (hid fun W va vb ha hb => nminus_any va vb _ _ W ha hb g1 g2) (by refine le_big (a := 224) ?_ (by omega); rw [show (224 : Nat) = 223 + 1 from rfl, TOP_add]; have := TOP_pos 223; have : TOP 1 = 1000000000 := rfl; rw [this]; omega)
  have HC := hid hc
  clear hc f1 f2 g1 g2
  go_enter Tryd.func9, Tryd.ntmps9
  go_wp2_with fail
  refine HC.out.mono ?_
  intro e w1 hq
  by_cases hf : K.fits (K.numL l1 - K.numL l2)
  · have he := hq.1 hf
    subst he
    go_wp2
    go_ret2
    exact hq
  · have he := hq.2.1 hf
    subst he
    go_wp2
    go_ret2
    exact hq
set_option maxRecDepth 100000 in
theorem sub_bad (l1 l2 : List UInt8) (w : World) (h1 : l1.length ≤ 140737488351232) (h2 : l2.length ≤ 140737488351232) (v : K.validL l1 = false ∨ K.validL l2 = false) :
    Calls Tryd.prog 9 #[.string (Str l1), .string (Str l2)] w (BadStr w) := by
  go_enter Tryd.func9, Tryd.ntmps9
  go_wp2_with fail
  refine (combine_bad _ l1 l2 w h1 h2 v).mono ?_
  rintro e w1 ⟨rfl, hx⟩
  go_wp2
  go_ret2
  exact ⟨rfl, hx⟩
set_option maxRecDepth 100000 in
theorem mul_ok (l1 l2 : List UInt8) (w : World) (h1 : l1.length ≤ 140737488351232) (h2 : l2.length ≤ 140737488351232) (v1 : K.validL l1 = true) (v2 : K.validL l2 = true) (ht : Tab w) :
    Calls Tryd.prog 10 #[.string (Str l1), .string (Str l2)] w (ToldPost (K.numL l1 * K.numL l2) w) := by
  have f1 := fits_top (K.txt_numL l1 v1).2
  have f2 := fits_top (K.txt_numL l2 v2).2
  have g1 := fits_big (K.txt_numL l1 v1).2
  have g2 := fits_big (K.txt_numL l2 v2).2
  have hc := combine_ok 47 (enter_of Tryd.func47 (by kernel_rfl) (by kernel_rfl)) (K.numL l1 * K.numL l2) l1 l2 w h1 h2 v1 v2 ht (hid fun W va vb ha hb => ntimes_any va vb _ _ W ha hb g1 g2) (by rw [Int.natAbs_mul]; exact le_big (mul_top f1 f2) (by omega))
  have HC := hid hc
  clear hc f1 f2 g1 g2
  go_enter Tryd.func10, Tryd.ntmps10
  go_wp2_with fail
  refine HC.out.mono ?_
  intro e w1 hq
  by_cases hf : K.fits (K.numL l1 * K.numL l2)
  · have he := hq.1 hf
    subst he
    go_wp2
    go_ret2
    exact hq
  · have he := hq.2.1 hf
    subst he
    go_wp2
    go_ret2
    exact hq
set_option maxRecDepth 100000 in
theorem mul_bad (l1 l2 : List UInt8) (w : World) (h1 : l1.length ≤ 140737488351232) (h2 : l2.length ≤ 140737488351232) (v : K.validL l1 = false ∨ K.validL l2 = false) :
    Calls Tryd.prog 10 #[.string (Str l1), .string (Str l2)] w (BadStr w) := by
  go_enter Tryd.func10, Tryd.ntmps10
  go_wp2_with fail
  refine (combine_bad _ l1 l2 w h1 h2 v).mono ?_
  rintro e w1 ⟨rfl, hx⟩
  go_wp2
  go_ret2
  exact ⟨rfl, hx⟩
set_option maxRecDepth 100000 in
theorem gcd_ok (l1 l2 : List UInt8) (w : World) (h1 : l1.length ≤ 140737488351232) (h2 : l2.length ≤ 140737488351232) (v1 : K.validL l1 = true) (v2 : K.validL l2 = true) (ht : Tab w) :
    Calls Tryd.prog 22 #[.string (Str l1), .string (Str l2)] w (ToldPost ((Nat.gcd (K.numL l1).natAbs (K.numL l2).natAbs : Int)) w) := by
  have f1 := fits_top (K.txt_numL l1 v1).2
  have f2 := fits_top (K.txt_numL l2 v2).2
  have g1 := fits_big (K.txt_numL l1 v1).2
  have g2 := fits_big (K.txt_numL l2 v2).2
  have hc := combine_ok 61 (enter_of Tryd.func61 (by kernel_rfl) (by kernel_rfl)) ((Nat.gcd (K.numL l1).natAbs (K.numL l2).natAbs : Int)) l1 l2 w h1 h2 v1 v2 ht (hid fun W va vb ha hb => ngcd_any va vb _ _ W ha hb g1 g2) (by rw [abs_cast]; exact gcd_le g1 g2)
  have HC := hid hc
  clear hc f1 f2 g1 g2
  go_enter Tryd.func22, Tryd.ntmps22
  go_wp2_with fail
  refine HC.out.mono ?_
  intro e w1 hq
  by_cases hf : K.fits ((Nat.gcd (K.numL l1).natAbs (K.numL l2).natAbs : Int))
  · have he := hq.1 hf
    subst he
    go_wp2
    go_ret2
    exact hq
  · have he := hq.2.1 hf
    subst he
    go_wp2
    go_ret2
    exact hq
set_option maxRecDepth 100000 in
theorem gcd_bad (l1 l2 : List UInt8) (w : World) (h1 : l1.length ≤ 140737488351232) (h2 : l2.length ≤ 140737488351232) (v : K.validL l1 = false ∨ K.validL l2 = false) :
    Calls Tryd.prog 22 #[.string (Str l1), .string (Str l2)] w (BadStr w) := by
  go_enter Tryd.func22, Tryd.ntmps22
  go_wp2_with fail
  refine (combine_bad _ l1 l2 w h1 h2 v).mono ?_
  rintro e w1 ⟨rfl, hx⟩
  go_wp2
  go_ret2
  exact ⟨rfl, hx⟩
end Go.Proofs.YtoilkfohhhidpaaDoor
/- num.Compare, Power, Rest -/
namespace Go.Proofs.YtoilkfohhhidpaaDoor
open Go.RowKit
theorem both_bad (l1 l2 : List UInt8) (w : World) (h1 : l1.length ≤ 140737488351232) (h2 : l2.length ≤ 140737488351232) (v : K.validL l1 = false ∨ K.validL l2 = false) :
    Calls Tryd.prog 48 #[.string (Str l1), .string (Str l2)] w (BothBad w) := by
  cases h : K.validL l1 with
  | false => exact both_bad1 l1 l2 w h1 h
  | true =>
    rcases v with v | v
    · rw [h] at v; cases v
    · exact both_bad2 l1 l2 w h1 h2 h v
set_option maxRecDepth 100000 in
set_option maxHeartbeats 800000 in
theorem compare_ok (l1 l2 : List UInt8) (w : World) (h1 : l1.length ≤ 140737488351232) (h2 : l2.length ≤ 140737488351232) (v1 : K.validL l1 = true) (v2 : K.validL l2 = true) :
    Calls Tryd.prog 11 #[.string (Str l1), .string (Str l2)] w (fun e w' => e = .returned (.tuple #[.int .i64 (sgnI (K.numL l1) (K.numL l2)), .int .i64 0]) ∧ Ext w w') := by
  have g1 := fits_big (K.txt_numL l1 v1).2
  have g2 := fits_big (K.txt_numL l2 v2).2
  go_enter Tryd.func11, Tryd.ntmps11
  go_wp2_with fail
  refine (both_ok l1 l2 w h1 h2 v1 v2).mono ?_
  rintro e w1 ⟨⟨y1, y2, rfl, ⟨z1, b1, rfl, hb1, hz1⟩, ⟨z2, b2, rfl, hb2, hz2⟩⟩, hx1⟩
  obtain ⟨A1, k1, c1, rfl⟩ := hz1.slice
  obtain ⟨A2, k2, c2, rfl⟩ := hz2.slice
  have hE : Ext w1 ((w1.alloc (.cells #[.bool b1, .slice A1 k1 c1] 72)).alloc (.cells #[.bool b2, .slice A2 k2 c2] 72)) := ((Ext.rfl' w1).alloc' _).alloc' _
  have n1 := (NumV.mk' hb1 hz1).ext hE
  have n2 := (NumV.mk' hb2 hz2).ext hE
  have hE2 := hx1.step hE
  clear hb1 hz1 hb2 hz2 hx1 hE
  go_wp2_with fail
  refine (ncmp_any _ _ _ _ _ n1 n2 g1 g2).mono ?_
  rintro e w2 ⟨rfl, hx2⟩
  obtain ⟨sg, hsg⟩ : ∃ sg, sgnI (K.numL l1) (K.numL l2) = sg := ⟨_, rfl⟩
  rw [hsg]
  have HSG := hid hsg
  clear hsg
  go_wp2
  go_ret2
  exact ⟨by rw [HSG.out]; rfl, hE2.step hx2⟩
set_option maxRecDepth 100000 in
set_option maxHeartbeats 800000 in
theorem compare_bad (l1 l2 : List UInt8) (w : World) (h1 : l1.length ≤ 140737488351232) (h2 : l2.length ≤ 140737488351232) (v : K.validL l1 = false ∨ K.validL l2 = false) :
    Calls Tryd.prog 11 #[.string (Str l1), .string (Str l2)] w (fun e w' => e = .returned (.tuple #[.int .i64 0, .int .i64 1]) ∧ Ext w w') := by
  go_enter Tryd.func11, Tryd.ntmps11
  go_wp2_with fail
  refine (both_bad l1 l2 w h1 h2 v).mono ?_
  rintro e w1 ⟨rfl, hx1⟩
  go_wp2
  go_ret2
  exact ⟨rfl, (hx1.alloc' _).alloc' _⟩
set_option maxRecDepth 100000 in
set_option maxHeartbeats 800000 in
theorem power_ok (l : List UInt8) (n : Nat) (w : World) (h1 : l.length ≤ 140737488351232) (v1 : K.validL l = true) (hn : n ≤ 10000) (ht : Tab w) :
    Calls Tryd.prog 26 #[.string (Str l), .int .i64 (n : Int)] w (ToldPost (K.numL l ^ n) w) := by
  have g1 := (K.txt_numL l v1).2
  go_enter Tryd.func26, Tryd.ntmps26
  go_wp2_with fail
  refine (read_ok l w h1 v1).mono ?_
  rintro e w1 ⟨⟨y1, rfl, ⟨z1, b1, rfl, hb1, hz1⟩⟩, hx1⟩
  obtain ⟨A1, k1, c1, rfl⟩ := hz1.slice
  have hE : Ext w1 (w1.alloc (.cells #[.bool b1, .slice A1 k1 c1] 72)) := (Ext.rfl' w1).alloc' _
  have n1 := (NumV.mk' hb1 hz1).ext hE
  have hE2 := hx1.step hE
  clear hb1 hz1 hx1 hE
  go_wp2_with fail
  refine (npow_any _ _ n _ n1 g1 hn).mono ?_
  rintro e w2 ⟨v, r, rfl, hv, hB, hr, hx2⟩
  have HR := hid hr
  clear hr
  go_wp2_with fail
  refine (write_any v r w2 hv hB (ht.ext (hE2.step hx2))).mono ?_
  intro e w3 hp
  have hq := told_step (hE2.step hx2) hp
  have hq2 : ToldPost (K.numL l ^ n) w e w3 := by
    rcases HR.out with h | ⟨h, h'⟩
    · rwa [h] at hq
    · exact ⟨fun hf => absurd hf h', fun _ => hq.2.1 h, hq.2.2⟩
  have HQ := hid hq2
  clear hE2 hx2 n1 hv hp hq2
  by_cases hf : K.fits r
  · have he := hq.1 hf
    subst he
    go_wp2
    go_ret2
    exact HQ.out
  · have he := hq.2.1 hf
    subst he
    go_wp2
    go_ret2
    exact HQ.out
set_option maxRecDepth 100000 in
set_option maxHeartbeats 800000 in
theorem power_form (l : List UInt8) (n : Int) (w : World) (h1 : l.length ≤ 140737488351232) (v1 : K.validL l = false) :
    Calls Tryd.prog 26 #[.string (Str l), .int .i64 n] w (BadStr w) := by
  go_enter Tryd.func26, Tryd.ntmps26
  go_wp2_with fail
  refine (read_bad l w h1 v1).mono ?_
  rintro e w1 ⟨rfl, hx1⟩
  go_wp2
  go_ret2
  exact ⟨rfl, hx1.alloc' _⟩
set_option maxRecDepth 100000 in
set_option maxHeartbeats 800000 in
theorem power_arg (l : List UInt8) (n : Int) (w : World) (h1 : l.length ≤ 140737488351232) (v1 : K.validL l = true) (hn : n < 0 ∨ 10000 < n) :
    Calls Tryd.prog 26 #[.string (Str l), .int .i64 n] w (fun e w' => e = .returned (.tuple #[.string ⟨#[]⟩, .int .i64 2]) ∧ Ext w w') := by
  go_enter Tryd.func26, Tryd.ntmps26
  go_wp2_with fail
  refine (read_ok l w h1 v1).mono ?_
  rintro e w1 ⟨⟨y1, rfl, ⟨z1, b1, rfl, hb1, hz1⟩⟩, hx1⟩
  obtain ⟨A1, k1, c1, rfl⟩ := hz1.slice
  by_cases h : n < 0
  · clear hn
    go_wp2
    go_ret2
    exact ⟨rfl, hx1.alloc' _⟩
  · have hn2 : 10000 < n := by omega
    clear hn
    go_wp2
    go_ret2
    exact ⟨rfl, hx1.alloc' _⟩
set_option maxRecDepth 100000 in
set_option maxHeartbeats 800000 in
theorem rest_ok (l : List UInt8) (d : Nat) (w : World) (h1 : l.length ≤ 140737488351232) (v1 : K.validL l = true) (hd : 1 ≤ d) (hd2 : d ≤ 2147483647) :
    Calls Tryd.prog 27 #[.string (Str l), .int .i64 (d : Int)] w (fun e w' => e = .returned (.tuple #[.int .i64 (K.numL l % d), .int .i64 0]) ∧ Ext w w') := by
  have g1 := fits_big (K.txt_numL l v1).2
  go_enter Tryd.func27, Tryd.ntmps27
  go_wp2_with fail
  refine (read_ok l w h1 v1).mono ?_
  rintro e w1 ⟨⟨y1, rfl, ⟨z1, b1, rfl, hb1, hz1⟩⟩, hx1⟩
  obtain ⟨A1, k1, c1, rfl⟩ := hz1.slice
  have hE : Ext w1 (w1.alloc (.cells #[.bool b1, .slice A1 k1 c1] 72)) := (Ext.rfl' w1).alloc' _
  have n1 := (NumV.mk' hb1 hz1).ext hE
  have hE2 := hx1.step hE
  clear hb1 hz1 hx1 hE
  go_wp2_with fail
  refine (nrest_any _ _ d _ n1 g1 (by omega) (by omega)).mono ?_
  rintro e w2 ⟨rfl, hx2⟩
  have hr0 : 0 ≤ K.numL l % (d : Int) := Int.emod_nonneg _ (by omega)
  have hr1 : K.numL l % (d : Int) < d := Int.emod_lt_of_pos _ (by omega)
  obtain ⟨r, hsg⟩ : ∃ r, K.numL l % (d : Int) = r := ⟨_, rfl⟩
  rw [hsg] at hr0 hr1 ⊢
  have HSG := hid hsg
  clear hsg
  go_wp2
  go_ret2
  exact ⟨by rw [HSG.out]; rfl, hE2.step hx2⟩
set_option maxRecDepth 100000 in
set_option maxHeartbeats 800000 in
theorem rest_form (l : List UInt8) (n : Int) (w : World) (h1 : l.length ≤ 140737488351232) (v1 : K.validL l = false) :
    Calls Tryd.prog 27 #[.string (Str l), .int .i64 n] w (fun e w' => e = .returned (.tuple #[.int .i64 0, .int .i64 1]) ∧ Ext w w') := by
  go_enter Tryd.func27, Tryd.ntmps27
  go_wp2_with fail
  refine (read_bad l w h1 v1).mono ?_
  rintro e w1 ⟨rfl, hx1⟩
  go_wp2
  go_ret2
  exact ⟨rfl, hx1.alloc' _⟩
set_option maxRecDepth 100000 in
set_option maxHeartbeats 800000 in
theorem rest_arg (l : List UInt8) (n : Int) (w : World) (h1 : l.length ≤ 140737488351232) (v1 : K.validL l = true) (hn : n < 1 ∨ 2147483647 < n) :
    Calls Tryd.prog 27 #[.string (Str l), .int .i64 n] w (fun e w' => e = .returned (.tuple #[.int .i64 0, .int .i64 2]) ∧ Ext w w') := by
  go_enter Tryd.func27, Tryd.ntmps27
  go_wp2_with fail
  refine (read_ok l w h1 v1).mono ?_
  rintro e w1 ⟨⟨y1, rfl, ⟨z1, b1, rfl, hb1, hz1⟩⟩, hx1⟩
  obtain ⟨A1, k1, c1, rfl⟩ := hz1.slice
  by_cases h : n < 1
  · clear hn
    go_wp2
    go_ret2
    exact ⟨rfl, hx1.alloc' _⟩
  · have hn2 : 2147483647 < n := by omega
    clear hn
    go_wp2
    go_ret2
    exact ⟨rfl, hx1.alloc' _⟩
end Go.Proofs.YtoilkfohhhidpaaDoor
/- num.Divide -/
namespace Go.Proofs.YtoilkfohhhidpaaDoor
open Go.RowKit
def Bad2 (k : Int) (w : World) (e : Ending) (w' : World) : Prop := e = .returned (.tuple #[.string ⟨#[]⟩, .string ⟨#[]⟩, .int .i64 k]) ∧ Ext w w'
set_option maxRecDepth 100000 in
set_option maxHeartbeats 800000 in
theorem divide_form (l1 l2 : List UInt8) (w : World) (h1 : l1.length ≤ 140737488351232) (h2 : l2.length ≤ 140737488351232) (v : K.validL l1 = false ∨ K.validL l2 = false) :
    Calls Tryd.prog 21 #[.string (Str l1), .string (Str l2)] w (Bad2 1 w) := by
  go_enter Tryd.func21, Tryd.ntmps21
  go_wp2_with fail
  refine (both_bad l1 l2 w h1 h2 v).mono ?_
  rintro e w1 ⟨rfl, hx1⟩
  go_wp2
  go_ret3
  exact ⟨rfl, (hx1.alloc' _).alloc' _⟩
set_option maxRecDepth 100000 in
set_option maxHeartbeats 800000 in
theorem divide_arg (l1 l2 : List UInt8) (w : World) (h1 : l1.length ≤ 140737488351232) (h2 : l2.length ≤ 140737488351232) (v1 : K.validL l1 = true) (v2 : K.validL l2 = true) (hn : ¬ 0 < K.numL l2) :
    Calls Tryd.prog 21 #[.string (Str l1), .string (Str l2)] w (Bad2 2 w) := by
  have hd : decide (0 < K.numL l2) = false := decide_eq_false hn
  have HD := hid hd
  clear hd hn
  go_enter Tryd.func21, Tryd.ntmps21
  go_wp2_with fail
  refine (both_ok l1 l2 w h1 h2 v1 v2).mono ?_
  rintro e w1 ⟨⟨y1, y2, rfl, ⟨z1, b1, rfl, hb1, hz1⟩, ⟨z2, b2, rfl, hb2, hz2⟩⟩, hx1⟩
  obtain ⟨A1, k1, c1, rfl⟩ := hz1.slice
  obtain ⟨A2, k2, c2, rfl⟩ := hz2.slice
  have hE : Ext w1 ((w1.alloc (.cells #[.bool b1, .slice A1 k1 c1] 72)).alloc (.cells #[.bool b2, .slice A2 k2 c2] 72)) := ((Ext.rfl' w1).alloc' _).alloc' _
  have n2 := (NumV.mk' hb2 hz2).ext hE
  have hE2 := hx1.step hE
  clear hb1 hz1 hb2 hz2 hx1 hE
  go_wp2_with fail
  refine (positive_any _ _ _ n2).mono ?_
  rintro e w2 ⟨rfl, hx2⟩
  rw [HD.out]
  go_wp2
  go_ret3
  exact ⟨rfl, hE2.step hx2⟩
def DivOk (q r : Int) (w : World) (e : Ending) (w' : World) : Prop := e = .returned (.tuple #[.string (Str (K.txt q)), .string (Str (K.txt r)), .int .i64 0]) ∧ Ext w w'
set_option maxRecDepth 100000 in
set_option maxHeartbeats 1600000 in
theorem divide_ok (l1 l2 : List UInt8) (w : World) (h1 : l1.length ≤ 140737488351232) (h2 : l2.length ≤ 140737488351232) (v1 : K.validL l1 = true) (v2 : K.validL l2 = true) (hn : 0 < K.numL l2) (ht : Tab w) :
    Calls Tryd.prog 21 #[.string (Str l1), .string (Str l2)] w (DivOk (K.numL l1 / K.numL l2) (K.numL l1 % K.numL l2) w) := by
  have g1 := fits_big (K.txt_numL l1 v1).2
  have g2 := fits_big (K.txt_numL l2 v2).2
  have hd : decide (0 < K.numL l2) = true := decide_eq_true hn
  have HD := hid hd
  have hr0 : 0 ≤ K.numL l1 % K.numL l2 := Int.emod_nonneg _ (by omega)
  have hr1 : K.numL l1 % K.numL l2 < K.numL l2 := Int.emod_lt_of_pos _ hn
  have hqb : (K.numL l1 / K.numL l2).natAbs ≤ BIG := Nat.le_trans (Int.natAbs_ediv_le_natAbs _ _) g1
  have hrb : (K.numL l1 % K.numL l2).natAbs ≤ BIG := by omega
  have HQ := hid hqb
  have HR := hid hrb
  clear hd hr0 hr1 hqb hrb
  go_enter Tryd.func21, Tryd.ntmps21
  go_wp2_with fail
  refine (both_ok l1 l2 w h1 h2 v1 v2).mono ?_
  rintro e w1 ⟨⟨y1, y2, rfl, ⟨z1, b1, rfl, hb1, hz1⟩, ⟨z2, b2, rfl, hb2, hz2⟩⟩, hx1⟩
  obtain ⟨A1, k1, c1, rfl⟩ := hz1.slice
  obtain ⟨A2, k2, c2, rfl⟩ := hz2.slice
  have hE : Ext w1 ((w1.alloc (.cells #[.bool b1, .slice A1 k1 c1] 72)).alloc (.cells #[.bool b2, .slice A2 k2 c2] 72)) := ((Ext.rfl' w1).alloc' _).alloc' _
  have n1 := (NumV.mk' hb1 hz1).ext hE
  have n2 := (NumV.mk' hb2 hz2).ext hE
  have hE2 := hx1.step hE
  clear hb1 hz1 hb2 hz2 hx1 hE
  go_wp2_with fail
  refine (positive_any _ _ _ n2).mono ?_
  rintro e w2 ⟨rfl, hx2⟩
  rw [HD.out]
  obtain ⟨f0, f1, f2, f3⟩ := boxes hx2
  go_wp2_with fail
  refine (ndivide_any _ _ _ _ _ (n1.ext hx2) (n2.ext hx2) g1 g2 hn).mono ?_
  rintro e w3 ⟨u1, u2, rfl, ⟨z3, b3, rfl, hb3, hz3⟩, ⟨z4, b4, rfl, hb4, hz4⟩, hx3⟩
  obtain ⟨A3, k3, c3, rfl⟩ := hz3.slice
  obtain ⟨A4, k4, c4, rfl⟩ := hz4.slice
  have hE3 := (hE2.step hx2).step hx3
  have hE4 : Ext w3 ((w3.alloc (.cells #[.bool b3, .slice A3 k3 c3] 72)).alloc (.cells #[.bool b4, .slice A4 k4 c4] 72)) := ((Ext.rfl' w3).alloc' _).alloc' _
  have n3 := (NumV.mk' hb3 hz3).ext hE4
  have n4 := (NumV.mk' hb4 hz4).ext hE4
  have ht4 := ht.ext (hE3.step hE4)
  have hk : ∀ w', Ext ((w3.alloc (.cells #[.bool b3, .slice A3 k3 c3] 72)).alloc (.cells #[.bool b4, .slice A4 k4 c4] 72)) w' → _ := fun w' e => boxes e
  have HK := hid hk
  have N3 := hid n3
  have N4 := hid n4
  have HT := hid ht4
  have HE := hid (hE3.step hE4)
  clear hk n3 n4 ht4 hE3 hE4 hE2 hx2 hx3 hz3 hz4 hb3 hb4 n1 n2 f0 f1 f2 f3 ht
  go_wp2_with fail
  go_region_held3 (fun w' => w'.cell? ⟨w3.heap.size, 0, none⟩ = some (.bool b3) ∧ w'.cell? ⟨w3.heap.size, 1, none⟩ = some (.slice A3 k3 c3) ∧ w'.cell? ⟨w3.heap.size + 1, 0, none⟩ = some (.bool b4) ∧ w'.cell? ⟨w3.heap.size + 1, 1, none⟩ = some (.slice A4 k4 c4))
    (first | go_keep | exact HK.out _ hxa | exact HK.out _ (hxa.step hx6))
    (first | (go_at_call_of 60 (Value.agg #[Value.bool b3, Value.slice A3 k3 c3]); refine (text_any _ _ _ (N3.out.ext ?_) HQ.out (HT.out.ext ?_)).mono ?_; exact (Ext.rfl' _).drew'; exact (Ext.rfl' _).drew'; rintro e w5 ⟨rfl, hx5⟩; have hxa := Ext.undrew hx5; clear hx5) | (go_at_call_of 60 (Value.agg #[Value.bool b4, Value.slice A4 k4 c4]); refine (text_any _ _ _ (N4.out.ext ?_) HR.out (HT.out.ext ?_)).mono ?_; exact hxa; exact hxa; rintro e w6 ⟨rfl, hx6⟩))
  go_wp2
  go_ret3
  exact ⟨rfl, (HE.out.step hxa).step hx6⟩
end Go.Proofs.YtoilkfohhhidpaaDoor
