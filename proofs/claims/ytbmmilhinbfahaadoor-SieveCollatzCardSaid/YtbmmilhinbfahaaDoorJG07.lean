/- Joined texts: the reference's linear maps: One, Then, Text; a number is mapped by the linear map of its word as by Run; the law WordLinear; the reference's Then at a map, Of, Text; package sieve: fall; package sieve: the keys of the sorts; Contracts of the library, laid over this dump's numbers.; package sieve: the comparers of the sorts; package sieve: sortBy at ints. -/
import Derived.Test.YtbmmilhinbfahaaDoorJG06
import Derived.Test.YtbmmilhinbfahaaDoorJG05
import Derived.Shelf.SlSortCmp.WholeK
import Derived.Shelf.Small.Bits
import Derived.Shelf.Small.Wraps
import Derived.Shelf.Strconv.Itoa0
import Derived.Shelf.Strconv.Itoa1
import Derived.Shelf.LaysM
import Derived.Shelf.Strconv.Itoa2
import Derived.Shelf.Strconv.Itoa3
import Derived.Shelf.Strconv.Itoa4
import Derived.Shelf.Strings.Prefix
import Derived.Ground.Names2Prog
import Derived.Shelf.Slices.SearchI
import Derived.Ground.SlsfProg
import Derived.Shelf.SlSortCmp.Insertion
import Derived.Shelf.SlSortCmp.SiftDown1
import Derived.Shelf.SlSortCmp.HeapSort1
import Derived.Shelf.SlSortCmp.Insertion1
import Derived.Shelf.SlSortCmp.Median1
import Derived.Shelf.SlSortCmp.Pivot1
import Derived.Shelf.SlSortCmp.ReverseRange1
import Derived.Shelf.SlSortCmp.PartialInsertion1
import Derived.Shelf.SlSortCmp.PartitionEqual1
import Derived.Shelf.SlSortCmp.Partition1
import Derived.Shelf.SlSortCmp.Pdq1
import Derived.Shelf.SlSortCmp.Whole1
import Derived.Shelf.SlSortCmp.NoneTotal
import Derived.Test.YtbmmilhinbfahaaDoorProg
set_option linter.unusedSimpArgs false
set_option linter.unusedVariables false
/- the reference's linear maps: One, Then, Text -/
namespace Go.Proofs.YtbmmilhinbfahaaDoor
open Go.RowKit
/-- a linear map of the reference's -/
def LineR (w : World) (v : Value) (l : Int × Int × Int) : Prop :=
  ∃ (b1 : Bool) (A1 : Option Addr) (k1 c1 : Nat) (b2 : Bool) (A2 : Option Addr) (k2 c2 : Nat) (b3 : Bool) (A3 : Option Addr) (k3 c3 : Nat), v = .agg #[.bool b1, .slice A1 k1 c1, .bool b2, .slice A2 k2 c2, .bool b3, .slice A3 k3 c3] ∧ RefV w (.agg #[.bool b1, .slice A1 k1 c1]) l.1 ∧ RefV w (.agg #[.bool b2, .slice A2 k2 c2]) l.2.1 ∧ RefV w (.agg #[.bool b3, .slice A3 k3 c3]) l.2.2
theorem LineR.ext {w w' : World} {v : Value} {l : Int × Int × Int} (h : LineR w v l) (e : Ext w w') : LineR w' v l := by
  obtain ⟨b1, A1, k1, c1, b2, A2, k2, c2, b3, A3, k3, c3, h0, h1, h2, h3⟩ := h
  exact ⟨b1, A1, k1, c1, b2, A2, k2, c2, b3, A3, k3, c3, h0, h1.ext e, h2.ext e, h3.ext e⟩
theorem LineR.kept {w w' : World} {v : Value} {l : Int × Int × Int} (h : LineR w v l) (e : KeepRd w w') : LineR w' v l := by
  obtain ⟨b1, A1, k1, c1, b2, A2, k2, c2, b3, A3, k3, c3, h0, h1, h2, h3⟩ := h
  exact ⟨b1, A1, k1, c1, b2, A2, k2, c2, b3, A3, k3, c3, h0, h1.kept e, h2.kept e, h3.kept e⟩
def LinePost (l : Int × Int × Int) (w : World) (e : Ending) (w' : World) : Prop := ∃ v, e = .returned v ∧ LineR w' v l ∧ Ext w w'
theorem ref_nil (w : World) : RefV w (.agg #[.bool false, .slice none 0 0]) 0 := ⟨none, 0, 0, [], false, rfl, hid (by simp), rfl, Nat.le_refl _, Rd.nil _ _, ⟨by simp, by simp⟩, rfl⟩
/-- all blocks but H are as they were -/
def Off (w w' : World) (H : Nat) : Prop := w'.heap.size = w.heap.size ∧ ∀ g, g ≠ H → w'.heap[g]? = w.heap[g]?
theorem Off.rfl' (w : World) (H : Nat) : Off w w H := ⟨rfl, fun _ _ => rfl⟩
theorem Off.set {w w' : World} {H : Nat} (h : Off w w' H) (i : Nat) (u : Value) : Off w (w'.setCell ⟨H, i, none⟩ u) H :=
  ⟨by rw [World.size_setCell]; exact h.1, fun g hg => (Below.heap_setCell w' ⟨H, i, none⟩ u g (by exact hg)).trans (h.2 g hg)⟩
theorem Off.cell {w w' : World} {H : Nat} (h : Off w w' H) {g i : Nat} (hg : g ≠ H) : w'.cell? ⟨g, i, none⟩ = w.cell? ⟨g, i, none⟩ := World.cell?_of_block (h.2 g hg)
theorem Off.row {w w' : World} {H g : Nat} {t : TypeId} {vs : List Value} (h : Off w w' H) (r : Row w g t vs) (hg : g ≠ H) : Row w' g t vs := (h.2 g hg).trans r
theorem Off.keep {w w' : World} {H : Nat} {t : TypeId} {vs : List Value} (h : Off w w' H) (r : Row w H t vs) (hv : NoInt vs) : KeepRd w w' :=
  KeepRd.but ⟨vs.toArray, t, (0, 0), r, by simpa using hv⟩ (by rw [h.1]; exact Nat.le_refl _) (fun j _ hj => h.2 j hj)
theorem Off.ext {w w1 w' : World} {H : Nat} (h : Off w1 w' H) (e : Ext w w1) (hH : w.heap.size ≤ H) (ho : w'.os = w1.os) (ht : w'.tape = w1.tape) (hp : w'.output = w1.output) : Ext w w' :=
  ⟨ho.trans e.os, ht.trans e.tape, hp.trans e.output, by rw [h.1]; exact e.size, fun g hg => (h.2 g (by omega)).trans (e.block g hg)⟩
theorem no_int6 (b1 b2 b3 : Bool) (A1 A2 A3 : Option Addr) (k1 k2 k3 c1 c2 c3 : Nat) : NoInt [.bool b1, .slice A1 k1 c1, .bool b2, .slice A2 k2 c2, .bool b3, .slice A3 k3 c3] := by
  intro v hv k x e
  subst e
  simp at hv
theorem row_facts6 {w : World} {g : Nat} {t : TypeId} {a b c d e f : Value} (h : Row w g t [a, b, c, d, e, f]) :
    (w.cell? ⟨g, 0, none⟩ = some a ∧ w.cell? ⟨g, 1, none⟩ = some b ∧ w.cell? ⟨g, 2, none⟩ = some c ∧ w.cell? ⟨g, 3, none⟩ = some d ∧ w.cell? ⟨g, 4, none⟩ = some e ∧ w.cell? ⟨g, 5, none⟩ = some f) ∧
    (w.frozen? ⟨g, 0, none⟩ = false ∧ w.frozen? ⟨g, 1, none⟩ = false ∧ w.frozen? ⟨g, 2, none⟩ = false ∧ w.frozen? ⟨g, 3, none⟩ = false ∧ w.frozen? ⟨g, 4, none⟩ = false ∧ w.frozen? ⟨g, 5, none⟩ = false) :=
  ⟨⟨by rw [h.cell]; rfl, by rw [h.cell]; rfl, by rw [h.cell]; rfl, by rw [h.cell]; rfl, by rw [h.cell]; rfl, by rw [h.cell]; rfl⟩, h.free 0, h.free 1, h.free 2, h.free 3, h.free 4, h.free 5⟩
theorem Row.put6 {w : World} {H : Nat} {t : TypeId} {a b c d e f a' b' c' d' e' f' : Value} (h : Row w H t [a, b, c, d, e, f]) : Row (((((((w.setCell ⟨H, 0, none⟩ (a')).setCell ⟨H, 1, none⟩ (b')).setCell ⟨H, 2, none⟩ (c')).setCell ⟨H, 3, none⟩ (d')).setCell ⟨H, 4, none⟩ (e')).setCell ⟨H, 5, none⟩ (f'))) H t [a', b', c', d', e', f'] :=
  (((((h.set 0 a').set 1 b').set 2 c').set 3 d').set 4 e').set 5 f'
end Go.Proofs.YtbmmilhinbfahaaDoor
/- a number is mapped by the linear map of its word as by Run -/
namespace Go.Proofs.YtbmmilhinbfahaaDoor
open Go.RowKit
theorem word_snoc (m : Int) (us ad : List Int) (k : Nat) (x : Int) : wordI m us ad (k + 1) x = wordI m us ad k x ++ [orbN m us ad k x % m] := by
  unfold wordI; rw [List.range_succ, List.map_append]; rfl
theorem word_len (m : Int) (us ad : List Int) (k : Nat) (x : Int) : (wordI m us ad k x).length = k := by simp [wordI]
theorem word_B {m : Int} {us ad : List Int} {k : Nat} {x : Int} (hm : 0 < m) (hk : k ≤ 200) : wordB m (wordI m us ad k x) = true :=
  wordB_iff.2 ⟨by rw [word_len]; exact hk, fun r hr => by
    obtain ⟨i, -, rfl⟩ := List.mem_map.1 hr
    exact ⟨Int.emod_nonneg _ (by omega), Int.emod_lt_of_pos _ hm⟩⟩
theorem div_shift {m u a r q y : Int} (hy : y = m * q + r) (h : (u * r + a) % m = 0) : (u * y + a) % m = 0 := by
  subst hy
  rw [show u * (m * q + r) + a = (u * r + a) + m * (u * q) by rw [Int.mul_add, Int.mul_left_comm]; omega, Int.add_mul_emod_self_left]
  exact h
theorem step_mul {m : Int} {us ad : List Int} (hM : mapP m us ad) (y : Int) : stepI m us ad y * m = us.getD (y % m).toNat 0 * y + ad.getD (y % m).toNat 0 := by
  have hr := rOf_lt (m := m) (x := y) (by have := hM.1; omega)
  have hu := rule_at hM y
  have hd : (us.getD (rOf m y) 0 * y + ad.getD (rOf m y) 0) % m = 0 := div_shift (r := (rOf m y : Int)) (q := y / m) (by rw [hr.2]; exact (Int.mul_ediv_add_emod y m).symm) hu.2.2.2.2
  show (us.getD (rOf m y) 0 * y + ad.getD (rOf m y) 0) / m * m = _
  rw [Int.ediv_mul_cancel (Int.dvd_of_emod_eq_zero hd)]
  rfl
theorem lin_orb {m : Int} {us ad : List Int} (hM : mapP m us ad) (x : Int) : ∀ k : Nat, (lineI m us ad (wordI m us ad k x)).1 * x + (lineI m us ad (wordI m us ad k x)).2.1 = (lineI m us ad (wordI m us ad k x)).2.2 * orbN m us ad k x
  | 0 => by
    show (1 : Int) * x + 0 = 1 * x
    omega
  | k + 1 => by
    have ih := lin_orb hM x k
    have hs := step_mul hM (orbN m us ad k x)
    rw [word_snoc, lineI_snoc]
    show us.getD _ 0 * (lineI m us ad (wordI m us ad k x)).1 * x + (us.getD _ 0 * (lineI m us ad (wordI m us ad k x)).2.1 + ad.getD _ 0 * (lineI m us ad (wordI m us ad k x)).2.2) = (lineI m us ad (wordI m us ad k x)).2.2 * m * stepI m us ad (orbN m us ad k x)
    generalize lineI m us ad (wordI m us ad k x) = l at *
    generalize us.getD (orbN m us ad k x % m).toNat 0 = u at *
    generalize ad.getD (orbN m us ad k x % m).toNat 0 = a at *
    generalize stepI m us ad (orbN m us ad k x) = s at *
    generalize orbN m us ad k x = y at *
    obtain ⟨M, A, D⟩ := l
    simp only at ih ⊢
    have e1 : u * M * x + (u * A + a * D) = u * (M * x + A) + a * D := by rw [Int.mul_add, Int.mul_assoc, Int.add_assoc]
    rw [e1, ih, Int.mul_assoc, Int.mul_comm m s, hs, Int.mul_add, Int.mul_left_comm, Int.mul_comm a D]
theorem run_orb {m : Int} {us ad : List Int} (k : Nat) : ∀ (x : Int), none ∉ seqO m us ad k x → runO m us ad k x = some (orbN m us ad k x) := by
  induction k with
  | zero => intro x h; rfl
  | succ k ih =>
    intro x h
    rw [seqO] at h
    rw [runO_succ, orbN_cons]
    have ih2 := ih (stepI m us ad x)
    generalize fitsB (stepI m us ad x) = b at *
    cases b with
    | true =>
      rw [if_pos rfl] at h ⊢
      exact ih2 (fun h2 => h (List.mem_cons_of_mem _ h2))
    | false =>
      rw [if_neg (by simp)] at h
      exact absurd (List.mem_singleton.2 rfl) h
/-- what a run tells, where the word is told -/
def RunS (m : Int) (us ad : List Int) (k : Nat) (x : Int) : Prop := (K.fits (orbN m us ad k x) ∧ runO m us ad k x = some (orbN m us ad k x)) ∨ (¬ K.fits (orbN m us ad k x) ∧ runO m us ad k x = none)
theorem run_s {m : Int} {us ad : List Int} {k : Nat} {x : Int} (h : none ∉ seqO m us ad k x) : RunS m us ad (k + 1) x := by
  unfold RunS
  rw [runO_snoc, run_orb k x h, Option.bind_some]
  show (K.fits (stepI m us ad (orbN m us ad k x)) ∧ _) ∨ (¬ K.fits (stepI m us ad (orbN m us ad k x)) ∧ _)
  by_cases hf : K.fits (stepI m us ad (orbN m us ad k x))
  · exact .inl ⟨hf, by rw [if_pos (fitsB_yes hf)]; rfl⟩
  · exact .inr ⟨hf, by rw [if_neg (by rw [fitsB_no hf]; simp)]⟩
theorem run_n {m : Int} {us ad : List Int} {k : Nat} {x : Int} (h : none ∈ seqO m us ad k x) : runO m us ad (k + 1) x = none := by
  rw [runO_snoc, (seq_run m us ad k x).2 h]; rfl
/-- what Word tells -/
def WordS (m : Int) (us ad : List Int) (k : Nat) (x : Int) (ws : List Int) (f : Int) : Prop := (f = 0 ∧ ws = wordI m us ad k x ∧ RunS m us ad k x) ∨ (f = 3 ∧ runO m us ad k x = none)
theorem fits_mul {D y : Int} (hD : 0 < D) (h : K.fits (D * y)) : K.fits y := by
  unfold K.fits at *
  rw [Int.natAbs_mul] at h
  have h1 : 1 * y.natAbs ≤ D.natAbs * y.natAbs := Nat.mul_le_mul_right _ (by omega)
  omega
end Go.Proofs.YtbmmilhinbfahaaDoor
/- the law WordLinear -/
namespace Go.Proofs.YtbmmilhinbfahaaDoor
open Go.RowKit
theorem powers_div {m : Int} {us ad ws : List Int} (hm : 0 < m) : 0 < (lineI m us ad ws).2.2 := by
  rw [lineI_div]; exact Int.pow_pos hm
theorem lin_fits {m : Int} {us ad ws : List Int} (hM : mapP m us ad) (hW : wordB m ws = true) : K.fits (lineI m us ad ws).1 ∧ K.fits (lineI m us ad ws).2.1 ∧ K.fits (lineI m us ad ws).2.2 := by
  have hw := wordB_iff.1 hW
  have hB := lineI_B hM ws hw.2
  have hm := hM.1
  have hf := hB.fits hM hw.1 (r := 0) (by omega) (by omega)
  exact ⟨hf.1, hf.2.1, hf.2.2.1⟩
end Go.Proofs.YtbmmilhinbfahaaDoor
/- the reference's Then at a map, Of, Text -/
namespace Go.Proofs.YtbmmilhinbfahaaDoor
open Go.RowKit
theorem lineB_big {m : Int} {us ad : List Int} (hM : mapP m us ad) {k : Nat} {l : Int × Int × Int} (h : LineB k l) (hk : k ≤ 200) {r : Int} (h0 : 0 ≤ r) (h1 : r < m) :
    l.1.natAbs ≤ BIG ∧ l.2.1.natAbs ≤ BIG ∧ l.2.2.natAbs ≤ BIG ∧ (us.getD r.toNat 0 * l.2.1).natAbs ≤ BIG ∧ (ad.getD r.toNat 0 * l.2.2).natAbs ≤ BIG := by
  obtain ⟨f1, f2, f3, -, f5, f6, -⟩ := LineB.fits hM h hk h0 h1
  exact ⟨fits_big f1, fits_big f2, fits_big f3, by rw [Int.mul_comm]; exact fits_big f5, fits_big f6⟩
theorem take_next {ws : List Int} {j : Nat} (h : j < ws.length) : ws.take (j + 1) = ws.take j ++ [ws.getD j 0] := by
  rw [List.take_add_one, List.getElem?_eq_getElem h, List.getD_eq_getElem?_getD, List.getElem?_eq_getElem h]; rfl
theorem line_next (m : Int) (us ad : List Int) {ws : List Int} {j : Nat} (h : j < ws.length) : lineI m us ad (ws.take (j + 1)) = thenL m us ad (lineI m us ad (ws.take j)) (ws.getD j 0) := by
  rw [take_next h, lineI_snoc]
theorem word_at {m : Int} {ws : List Int} (hW : wordB m ws = true) {j : Nat} (h : j < ws.length) : 0 ≤ ws.getD j 0 ∧ ws.getD j 0 < m := by
  refine (wordB_iff.1 hW).2 _ ?_
  rw [List.getD_eq_getElem?_getD, List.getElem?_eq_getElem h]
  exact List.getElem_mem h
theorem take_B {m : Int} {us ad ws : List Int} (hM : mapP m us ad) (hW : wordB m ws = true) {j : Nat} (h : j ≤ ws.length) : LineB j (lineI m us ad (ws.take j)) := by
  have := lineI_B hM (ws.take j) (fun r hr => (wordB_iff.1 hW).2 r (List.mem_of_mem_take hr))
  rwa [List.length_take, Nat.min_eq_left h] at this
theorem Ext.set6 {w w3 : World} {H : Nat} {a b c d e f : Value} (hw : Ext w w3) (hH : w.heap.size ≤ H) : Ext w (((((((w3.setCell ⟨H, 0, none⟩ (a)).setCell ⟨H, 1, none⟩ (b)).setCell ⟨H, 2, none⟩ (c)).setCell ⟨H, 3, none⟩ (d)).setCell ⟨H, 4, none⟩ (e)).setCell ⟨H, 5, none⟩ (f))) :=
  ((((((hw.set' (by show _ ≤ H; omega) _).set' (by show _ ≤ H; omega) _).set' (by show _ ≤ H; omega) _).set' (by show _ ≤ H; omega) _).set' (by show _ ≤ H; omega) _).set' (by show _ ≤ H; omega) _)
theorem Off.six {w3 : World} {H : Nat} {a b c d e f : Value} : Off w3 (((((((w3.setCell ⟨H, 0, none⟩ (a)).setCell ⟨H, 1, none⟩ (b)).setCell ⟨H, 2, none⟩ (c)).setCell ⟨H, 3, none⟩ (d)).setCell ⟨H, 4, none⟩ (e)).setCell ⟨H, 5, none⟩ (f))) H := (((((((Off.rfl' _ _).set _ _).set _ _).set _ _).set _ _).set _ _).set _ _)
end Go.Proofs.YtbmmilhinbfahaaDoor
/- package sieve: fall -/
namespace Go.Proofs.YtbmmilhinbfahaaDoor
open Go.RowKit
/-- a fall -/
def FaV (s r : Int) (su sa sd sb : ByteArray) : Value := .agg #[.int .i64 s, .int .i64 r, .string su, .string sa, .string sd, .string sb]
theorem floor_s (a b q : Int) (w : World) (hq : Hid (a / b = q)) (hb : 0 < b) (h0 : -9223372036854775808 < a) (h1 : a ≤ 9223372036854775807) (h2 : b ≤ 9223372036854775807) :
    Calls Tryd.prog 29 #[.int .i64 a, .int .i64 b] w (fun e w' => e = .returned (.int .i64 q) ∧ Ext w w') := by
  rw [← hq.out]; exact floor_any a b w hb h0 h1 h2
set_option maxRecDepth 100000 in
set_option maxHeartbeats 6400000 in
theorem fall_l (s r mu ad di q : Int) (su sa sd sb : ByteArray) (w : World) (ht : Tab w) (h0 : mu < di) (hu : Hid (0 ≤ mu ∧ di ≤ 786432)) (hA : Hid (ad.natAbs ≤ 9000000000000000000)) (hq : Hid (ad / (di - mu) = q))
    (Hsu : Hid (Str (K.txt mu) = su)) (Hsa : Hid (Str (K.txt ad) = sa)) (Hsd : Hid (Str (K.txt di) = sd)) (Hsb : Hid (Str (K.txt q) = sb)) :
    Calls Tryd.prog 14 #[PlV s r mu ad di] w (fun e w' => e = .returned (FaV s r su sa sd sb) ∧ Ext w w') := by
  have hqB : q.natAbs ≤ 9000000000000000000 := by
    rw [← hq.out]; exact Nat.le_trans (Int.natAbs_ediv_le_natAbs _ _) hA.out
  have HQB := hid hqB
  have W1 : IntKind.i64.wrap (di - mu) = di - mu := IntWalk.i64_in _ (by have := hu.out; omega)
  have B1 := hid (show -9223372036854775808 ≤ mu ∧ mu ≤ 9223372036854775807 by have := hu.out; omega)
  have B2 := hid (show -9223372036854775808 ≤ ad ∧ ad ≤ 9223372036854775807 by have := hA.out; omega)
  have B3 := hid (show -9223372036854775808 ≤ di ∧ di ≤ 9223372036854775807 by have := hu.out; omega)
  have B4 := hid (show -9223372036854775808 ≤ q ∧ q ≤ 9223372036854775807 by omega)
  have B5 := hid (show 0 < di - mu ∧ -9223372036854775808 < ad ∧ di - mu ≤ 9223372036854775807 by have := hu.out; have := hA.out; omega)
  unfold PlV
  have HT0 := hid ht
  have hx : Ext w ((w.alloc (.cells #[.int .i64 s, .int .i64 r, .int .i64 mu, .int .i64 ad, .int .i64 di] 46)).alloc (.cells #[.int .i64 0, .int .i64 0, .string ⟨#[]⟩, .string ⟨#[]⟩, .string ⟨#[]⟩, .string ⟨#[]⟩] 37)) := ((Ext.rfl' w).alloc' _).alloc' _
  have h1 : Row ((w.alloc (.cells #[.int .i64 s, .int .i64 r, .int .i64 mu, .int .i64 ad, .int .i64 di] 46)).alloc (.cells #[.int .i64 0, .int .i64 0, .string ⟨#[]⟩, .string ⟨#[]⟩, .string ⟨#[]⟩, .string ⟨#[]⟩] 37)) w.heap.size 46 [.int .i64 s, .int .i64 r, .int .i64 mu, .int .i64 ad, .int .i64 di] := (Row.new w _ _).alloc _
  have h2 : Row ((w.alloc (.cells #[.int .i64 s, .int .i64 r, .int .i64 mu, .int .i64 ad, .int .i64 di] 46)).alloc (.cells #[.int .i64 0, .int .i64 0, .string ⟨#[]⟩, .string ⟨#[]⟩, .string ⟨#[]⟩, .string ⟨#[]⟩] 37)) (w.heap.size + 1) 37 [.int .i64 0, .int .i64 0, .string ⟨#[]⟩, .string ⟨#[]⟩, .string ⟨#[]⟩, .string ⟨#[]⟩] := by
    have := Row.new (w.alloc (.cells #[.int .i64 s, .int .i64 r, .int .i64 mu, .int .i64 ad, .int .i64 di] 46)) 37 [.int .i64 0, .int .i64 0, .string ⟨#[]⟩, .string ⟨#[]⟩, .string ⟨#[]⟩, .string ⟨#[]⟩]
    rwa [World.size_alloc] at this
  obtain ⟨W, hW⟩ : ∃ W, ((w.alloc (.cells #[.int .i64 s, .int .i64 r, .int .i64 mu, .int .i64 ad, .int .i64 di] 46)).alloc (.cells #[.int .i64 0, .int .i64 0, .string ⟨#[]⟩, .string ⟨#[]⟩, .string ⟨#[]⟩, .string ⟨#[]⟩] 37)) = W := ⟨_, rfl⟩
  rw [hW] at hx h1 h2
  have HX := hid hx
  have HW := hid hW
  have R1 := hid h1
  have R2 := hid h2
  have HT := hid (ht.ext hx)
  have HSO : Hid (∀ W' W'', Ext W W' → Off W' W'' (w.heap.size + 1) → W''.cell? ⟨w.heap.size, 0, none⟩ = some (.int .i64 s) ∧ W''.cell? ⟨w.heap.size, 1, none⟩ = some (.int .i64 r) ∧ W''.cell? ⟨w.heap.size, 2, none⟩ = some (.int .i64 mu) ∧ W''.cell? ⟨w.heap.size, 3, none⟩ = some (.int .i64 ad) ∧ W''.cell? ⟨w.heap.size, 4, none⟩ = some (.int .i64 di)) := hid (by
    intro W' W'' e ho
    obtain ⟨p0, p1, p2, p3, p4⟩ := row_facts5 (ho.row (R1.out.ext e) (by omega))
    exact ⟨p0, p1, p2, p3, p4⟩)
  have HS : Hid (∀ W', Ext W W' → W'.cell? ⟨w.heap.size, 0, none⟩ = some (.int .i64 s) ∧ W'.cell? ⟨w.heap.size, 1, none⟩ = some (.int .i64 r) ∧ W'.cell? ⟨w.heap.size, 2, none⟩ = some (.int .i64 mu) ∧ W'.cell? ⟨w.heap.size, 3, none⟩ = some (.int .i64 ad) ∧ W'.cell? ⟨w.heap.size, 4, none⟩ = some (.int .i64 di)) := hid fun W' e => HSO.out W' W' e (Off.rfl' _ _)
  clear hW hx h1 h2 hqB ht h0
  go_enter Tryd.func14, Tryd.ntmps14
  have hcur : Ext W W := Ext.rfl' _
  go_upto_region 1 with fail
  rw [HW.out]
  go_region_held3 (fun W' => W'.cell? ⟨w.heap.size, 0, none⟩ = some (.int .i64 s) ∧ W'.cell? ⟨w.heap.size, 1, none⟩ = some (.int .i64 r) ∧ W'.cell? ⟨w.heap.size, 2, none⟩ = some (.int .i64 mu) ∧ W'.cell? ⟨w.heap.size, 3, none⟩ = some (.int .i64 ad) ∧ W'.cell? ⟨w.heap.size, 4, none⟩ = some (.int .i64 di))
    (first | (with_reducible exact HS.out _ hcur) | (with_reducible exact HS.out _ hcur.drew') | (with_reducible exact HSO.out _ _ hcur (((((((Off.rfl' _ _).set _ _).set _ _).set _ _).set _ _).set _ _).set _ _)) | go_keep)
    (first
      | (go_at_call_of 28 (Value.int IntKind.i64 (mu)); refine (decimal_s (mu) _ _ Hsu B1.out.1 B1.out.2 (HT.out.ext ?_)).mono ?_; (first | exact hcur | exact hcur.drew' | exact hcur.alloc' _ | exact hcur.drew'.alloc' _ | exact (hcur.alloc' _).drew'); rintro e w20 ⟨rfl, hx⟩; have hcur := Ext.step hcur (by first | exact hx | exact Ext.undrew hx | exact Ext.step ((Ext.rfl' _).alloc' _) hx | exact Ext.step ((Ext.rfl' _).drew'.alloc' _) hx))
      | (go_at_call_of 28 (Value.int IntKind.i64 (ad)); refine (decimal_s (ad) _ _ Hsa B2.out.1 B2.out.2 (HT.out.ext ?_)).mono ?_; (first | exact hcur | exact hcur.drew' | exact hcur.alloc' _ | exact hcur.drew'.alloc' _ | exact (hcur.alloc' _).drew'); rintro e w21 ⟨rfl, hx⟩; have hcur := Ext.step hcur (by first | exact hx | exact Ext.undrew hx | exact Ext.step ((Ext.rfl' _).alloc' _) hx | exact Ext.step ((Ext.rfl' _).drew'.alloc' _) hx))
      | (go_at_call_of 28 (Value.int IntKind.i64 (di)); refine (decimal_s (di) _ _ Hsd B3.out.1 B3.out.2 (HT.out.ext ?_)).mono ?_; (first | exact hcur | exact hcur.drew' | exact hcur.alloc' _ | exact hcur.drew'.alloc' _ | exact (hcur.alloc' _).drew'); rintro e w22 ⟨rfl, hx⟩; have hcur := Ext.step hcur (by first | exact hx | exact Ext.undrew hx | exact Ext.step ((Ext.rfl' _).alloc' _) hx | exact Ext.step ((Ext.rfl' _).drew'.alloc' _) hx))
      | (go_at_call 29; refine (floor_s ad (di - mu) q _ hq B5.out.1 B5.out.2.1 B2.out.2 B5.out.2.2).mono ?_; rintro e w23 ⟨rfl, hx⟩; have hcur := Ext.step hcur (by first | exact hx | exact Ext.undrew hx | exact Ext.step ((Ext.rfl' _).alloc' _) hx | exact Ext.step ((Ext.rfl' _).drew'.alloc' _) hx))
      | (go_at_call_of 28 (Value.int IntKind.i64 (q)); refine (decimal_s (q) _ _ Hsb B4.out.1 B4.out.2 (HT.out.ext ?_)).mono ?_; (first | exact hcur | exact hcur.drew' | exact hcur.alloc' _ | exact hcur.drew'.alloc' _ | exact (hcur.alloc' _).drew'); rintro e w24 ⟨rfl, hx⟩; have hcur := Ext.step hcur (by first | exact hx | exact Ext.undrew hx | exact Ext.step ((Ext.rfl' _).alloc' _) hx | exact Ext.step ((Ext.rfl' _).drew'.alloc' _) hx); (have hyy := row_facts6 (R2.out.ext hcur); obtain ⟨⟨y0, y1, y2, y3, y4, y5⟩, z0, z1, z2, z3, z4, z5⟩ := hyy)))
  all_goals
    have HF := hid ((HX.out.step hcur).set6 (H := w.heap.size + 1) (a := .int .i64 s) (b := .int .i64 r) (c := .string su) (d := .string sa) (e := .string sd) (f := .string sb) (by omega))
    go_wp2
    refine bodyPost_ret (v := .agg #[.int .i64 s, .int .i64 r, .string su, .string sa, .string sd, .string sb]) (by simp [results, Tryd.results14, go_sem, y0, y1, y2, y3, y4, y5]) rfl ⟨rfl, HF.out⟩
end Go.Proofs.YtbmmilhinbfahaaDoor
/- package sieve: the keys of the sorts -/
namespace Go.Proofs.YtbmmilhinbfahaaDoor
open Go.RowKit
set_option maxRecDepth 100000 in
set_option maxHeartbeats 800000 in
theorem key_steps (s r : Int) (su sa sd sb : ByteArray) (w : World) : Calls Tryd.prog 20 #[FaV s r su sa sd sb] w (fun e w' => e = .returned (.int .i64 s) ∧ w' = w.alloc (.cells #[.int .i64 s, .int .i64 r, .string su, .string sa, .string sd, .string sb] 37)) := by
  have hr : Row (w.alloc (.cells #[.int .i64 s, .int .i64 r, .string su, .string sa, .string sd, .string sb] 37)) w.heap.size 37 [.int .i64 s, .int .i64 r, .string su, .string sa, .string sd, .string sb] := Row.new w _ _
  obtain ⟨⟨y0, y1, y2, y3, y4, y5⟩, -⟩ := row_facts6 hr
  unfold FaV
  clear hr
  go_enter Tryd.func20, Tryd.ntmps20
  go_wp2
  go_ret
  exact ⟨rfl, rfl⟩
set_option maxRecDepth 100000 in
set_option maxHeartbeats 800000 in
theorem key_rest (s r : Int) (su sa sd sb : ByteArray) (w : World) : Calls Tryd.prog 21 #[FaV s r su sa sd sb] w (fun e w' => e = .returned (.int .i64 r) ∧ w' = w.alloc (.cells #[.int .i64 s, .int .i64 r, .string su, .string sa, .string sd, .string sb] 37)) := by
  have hr : Row (w.alloc (.cells #[.int .i64 s, .int .i64 r, .string su, .string sa, .string sd, .string sb] 37)) w.heap.size 37 [.int .i64 s, .int .i64 r, .string su, .string sa, .string sd, .string sb] := Row.new w _ _
  obtain ⟨⟨y0, y1, y2, y3, y4, y5⟩, -⟩ := row_facts6 hr
  unfold FaV
  clear hr
  go_enter Tryd.func21, Tryd.ntmps21
  go_wp2
  go_ret
  exact ⟨rfl, rfl⟩
set_option maxRecDepth 100000 in
set_option maxHeartbeats 800000 in
theorem key_int (x : Int) (w : World) : Calls Tryd.prog 23 #[.int .i64 x] w (fun e w' => e = .returned (.int .i64 x) ∧ w' = w) := by
  go_enter Tryd.func23, Tryd.ntmps23
  go_wp2
  go_ret
  exact ⟨rfl, rfl⟩
end Go.Proofs.YtbmmilhinbfahaaDoor
/- Contracts of the library, laid over this dump's numbers. -/
namespace Go.Proofs.YtbmmilhinbfahaaDoor.ShelfC
open Go.Shelf Go.Proofs
def l_lays122_ren : Go.Shelf.Ren := ⟨fun | 122 => 32 | 215 => 42 | n => n, fun | 3 => 3 | 4 => 4 | n => n, fun | n => n⟩
theorem l_lays122 : Go.Proofs.Lays.n122 Tryd.prog l_lays122_ren := {
  mixed := by kernel_rfl
  f122 := Tryd.func32.trans (congrArg some (by kernel_rfl))
  f215 := Tryd.func42.trans (congrArg some (by kernel_rfl))
  t3 := Tryd.underlying3
  a3 := Tryd.isAgg3
  z3 := Tryd.sizeOf3
  v3 := Tryd.zeroValue3
  t4 := Tryd.underlying4
  a4 := Tryd.isAgg4
  z4 := Tryd.sizeOf4
  v4 := Tryd.zeroValue4 }
open Go.RowKit in
theorem l_cmp_Compare_int (x y : Int) (w : World) :
    Calls Tryd.prog 32 #[.int .i64 x, .int .i64 y] w fun e w' => e = .returned (.int .i64 (Lib.compareInt x y)) ∧ w' = w := Any.cmp_Compare_int l_lays122 x y w
def l_laysSlF06_f33_ren : Go.Shelf.Ren := ⟨fun | 6 => 33 | 15 => 41 | 14 => 43 | 28 => 56 | 29 => 57 | 20 => 58 | 21 => 59 | 22 => 60 | 23 => 61 | 24 => 62 | 25 => 63 | 26 => 64 | 27 => 65 | 46 => 76 | 47 => 72 | 48 => 73 | 49 => 77 | 50 => 78 | 57 => 84 | n => n, fun | 22 => 22 | 24 => 3 | 25 => 64 | 3 => 3 | 39 => 80 | 0 => 0 | 53 => 94 | 55 => 75 | 4 => 4 | 46 => 87 | 45 => 86 | 50 => 91 | 5 => 5 | 9 => 9 | 66 => 108 | 70 => 112 | 76 => 119 | 77 => 120 | n => n, fun | n => n⟩
theorem l_laysSlF06_f33 : Go.Proofs.SlLaysF0.n6 Tryd.prog l_laysSlF06_f33_ren := {
  mixed := by kernel_rfl
  f6 := ⟨Tryd.f33.name, by decide, Tryd.func33.trans (congrArg some (by kernel_rfl))⟩
  f14 := ⟨Tryd.f43.name, by decide, Tryd.func43.trans (congrArg some (by kernel_rfl))⟩
  f15 := Tryd.func41.trans (congrArg some (by kernel_rfl))
  f20 := ⟨Tryd.f58.name, by decide, Tryd.func58.trans (congrArg some (by kernel_rfl))⟩
  f21 := ⟨Tryd.f59.name, by decide, Tryd.func59.trans (congrArg some (by kernel_rfl))⟩
  f22 := ⟨Tryd.f60.name, by decide, Tryd.func60.trans (congrArg some (by kernel_rfl))⟩
  f23 := ⟨Tryd.f61.name, by decide, Tryd.func61.trans (congrArg some (by kernel_rfl))⟩
  f24 := ⟨Tryd.f62.name, by decide, Tryd.func62.trans (congrArg some (by kernel_rfl))⟩
  f25 := ⟨Tryd.f63.name, by decide, Tryd.func63.trans (congrArg some (by kernel_rfl))⟩
  f26 := ⟨Tryd.f64.name, by decide, Tryd.func64.trans (congrArg some (by kernel_rfl))⟩
  f27 := ⟨Tryd.f65.name, by decide, Tryd.func65.trans (congrArg some (by kernel_rfl))⟩
  f28 := Tryd.func56.trans (congrArg some (by kernel_rfl))
  f29 := Tryd.func57.trans (congrArg some (by kernel_rfl))
  f46 := ⟨Tryd.f76.name, by decide, Tryd.func76.trans (congrArg some (by kernel_rfl))⟩
  f47 := Tryd.func72.trans (congrArg some (by kernel_rfl))
  f48 := Tryd.func73.trans (congrArg some (by kernel_rfl))
  f49 := ⟨Tryd.f77.name, by decide, Tryd.func77.trans (congrArg some (by kernel_rfl))⟩
  f50 := ⟨Tryd.f78.name, by decide, Tryd.func78.trans (congrArg some (by kernel_rfl))⟩
  f57 := ⟨Tryd.f84.name, by decide, Tryd.func84.trans (congrArg some (by kernel_rfl))⟩
  t0 := Tryd.underlying0
  a0 := Tryd.isAgg0
  z0 := Tryd.sizeOf0
  v0 := Tryd.zeroValue0
  t3 := Tryd.underlying3
  a3 := Tryd.isAgg3
  z3 := Tryd.sizeOf3
  v3 := Tryd.zeroValue3
  t4 := Tryd.underlying4
  a4 := Tryd.isAgg4
  z4 := Tryd.sizeOf4
  v4 := Tryd.zeroValue4
  t5 := Tryd.underlying5
  a5 := Tryd.isAgg5
  z5 := Tryd.sizeOf5
  v5 := Tryd.zeroValue5
  t9 := Tryd.underlying9
  a9 := Tryd.isAgg9
  z9 := Tryd.sizeOf9
  v9 := Tryd.zeroValue9
  t22 := Tryd.underlying22
  a22 := Tryd.isAgg22
  z22 := Tryd.sizeOf22
  v22 := Tryd.zeroValue22
  t25 := Tryd.underlying64
  a25 := Tryd.isAgg64
  z25 := Tryd.sizeOf64
  v25 := Tryd.zeroValue64
  t39 := Tryd.underlying80
  a39 := Tryd.isAgg80
  z39 := Tryd.sizeOf80
  v39 := Tryd.zeroValue80
  t45 := Tryd.underlying86
  a45 := Tryd.isAgg86
  z45 := Tryd.sizeOf86
  v45 := Tryd.zeroValue86
  t46 := Tryd.underlying87
  a46 := Tryd.isAgg87
  z46 := Tryd.sizeOf87
  v46 := Tryd.zeroValue87
  t50 := Tryd.underlying91
  a50 := Tryd.isAgg91
  z50 := Tryd.sizeOf91
  v50 := Tryd.zeroValue91
  t53 := Tryd.underlying94
  a53 := Tryd.isAgg94
  z53 := Tryd.sizeOf94
  v53 := Tryd.zeroValue94
  t55 := Tryd.underlying75
  a55 := Tryd.isAgg75
  z55 := Tryd.sizeOf75
  v55 := Tryd.zeroValue75
  t66 := Tryd.underlying108
  a66 := Tryd.isAgg108
  z66 := Tryd.sizeOf108
  v66 := Tryd.zeroValue108
  t70 := Tryd.underlying112
  a70 := Tryd.isAgg112
  z70 := Tryd.sizeOf112
  v70 := Tryd.zeroValue112
  t76 := Tryd.underlying119
  a76 := Tryd.isAgg119
  z76 := Tryd.sizeOf119
  v76 := Tryd.zeroValue119
  t77 := Tryd.underlying120
  a77 := Tryd.isAgg120
  z77 := Tryd.sizeOf120
  v77 := Tryd.zeroValue120 }
open Go.RowKit Go.Lib Go.Sort in
theorem l_slices_SortFunc_none {α : Type} [Inhabited α] (p : Option Addr) (cap : Nat) (fv : Value) (w : World) :
    Calls Tryd.prog 33 #[.slice p 0 cap, fv] w fun e w' => e = .returned (.tuple #[]) ∧ w' = w := AnyF.slices_SortFunc_none l_laysSlF06_f33 p cap fv w
def l_laysSlF6_f33_ren : Go.Shelf.Ren := ⟨fun | 6 => 33 | 15 => 41 | 14 => 43 | 28 => 56 | 29 => 57 | 20 => 58 | 21 => 59 | 22 => 60 | 23 => 61 | 24 => 62 | 25 => 63 | 26 => 64 | 27 => 65 | 46 => 76 | 47 => 72 | 48 => 73 | 49 => 77 | 50 => 78 | 57 => 84 | n => n, fun | 22 => 22 | 24 => 3 | 25 => 64 | 3 => 3 | 39 => 80 | 0 => 0 | 53 => 94 | 55 => 75 | 4 => 4 | 46 => 87 | 45 => 86 | 50 => 91 | 5 => 5 | 9 => 9 | 66 => 108 | 70 => 112 | 76 => 119 | 77 => 120 | n => n, fun | n => n⟩
theorem l_laysSlF6_f33 : Go.Proofs.SlLaysF.n6 Tryd.prog l_laysSlF6_f33_ren := {
  mixed := by kernel_rfl
  f6 := ⟨Tryd.f33.name, by decide, Tryd.func33.trans (congrArg some (by kernel_rfl))⟩
  f14 := ⟨Tryd.f43.name, by decide, Tryd.func43.trans (congrArg some (by kernel_rfl))⟩
  f15 := Tryd.func41.trans (congrArg some (by kernel_rfl))
  f20 := ⟨Tryd.f58.name, by decide, Tryd.func58.trans (congrArg some (by kernel_rfl))⟩
  f21 := ⟨Tryd.f59.name, by decide, Tryd.func59.trans (congrArg some (by kernel_rfl))⟩
  f22 := ⟨Tryd.f60.name, by decide, Tryd.func60.trans (congrArg some (by kernel_rfl))⟩
  f23 := ⟨Tryd.f61.name, by decide, Tryd.func61.trans (congrArg some (by kernel_rfl))⟩
  f24 := ⟨Tryd.f62.name, by decide, Tryd.func62.trans (congrArg some (by kernel_rfl))⟩
  f25 := ⟨Tryd.f63.name, by decide, Tryd.func63.trans (congrArg some (by kernel_rfl))⟩
  f26 := ⟨Tryd.f64.name, by decide, Tryd.func64.trans (congrArg some (by kernel_rfl))⟩
  f27 := ⟨Tryd.f65.name, by decide, Tryd.func65.trans (congrArg some (by kernel_rfl))⟩
  f28 := Tryd.func56.trans (congrArg some (by kernel_rfl))
  f29 := Tryd.func57.trans (congrArg some (by kernel_rfl))
  f46 := ⟨Tryd.f76.name, by decide, Tryd.func76.trans (congrArg some (by kernel_rfl))⟩
  f47 := Tryd.func72.trans (congrArg some (by kernel_rfl))
  f48 := Tryd.func73.trans (congrArg some (by kernel_rfl))
  f49 := ⟨Tryd.f77.name, by decide, Tryd.func77.trans (congrArg some (by kernel_rfl))⟩
  f50 := ⟨Tryd.f78.name, by decide, Tryd.func78.trans (congrArg some (by kernel_rfl))⟩
  f57 := ⟨Tryd.f84.name, by decide, Tryd.func84.trans (congrArg some (by kernel_rfl))⟩
  t0 := Tryd.underlying0
  a0 := Tryd.isAgg0
  z0 := Tryd.sizeOf0
  v0 := Tryd.zeroValue0
  t3 := Tryd.underlying3
  a3 := Tryd.isAgg3
  z3 := Tryd.sizeOf3
  v3 := Tryd.zeroValue3
  t4 := Tryd.underlying4
  a4 := Tryd.isAgg4
  z4 := Tryd.sizeOf4
  v4 := Tryd.zeroValue4
  t5 := Tryd.underlying5
  a5 := Tryd.isAgg5
  z5 := Tryd.sizeOf5
  v5 := Tryd.zeroValue5
  t9 := Tryd.underlying9
  a9 := Tryd.isAgg9
  z9 := Tryd.sizeOf9
  v9 := Tryd.zeroValue9
  t22 := Tryd.underlying22
  a22 := Tryd.isAgg22
  z22 := Tryd.sizeOf22
  v22 := Tryd.zeroValue22
  a24 := Tryd.isAgg3
  z24 := Tryd.sizeOf3
  t25 := Tryd.underlying64
  a25 := Tryd.isAgg64
  z25 := Tryd.sizeOf64
  v25 := Tryd.zeroValue64
  t39 := Tryd.underlying80
  a39 := Tryd.isAgg80
  z39 := Tryd.sizeOf80
  v39 := Tryd.zeroValue80
  t45 := Tryd.underlying86
  a45 := Tryd.isAgg86
  z45 := Tryd.sizeOf86
  v45 := Tryd.zeroValue86
  t46 := Tryd.underlying87
  a46 := Tryd.isAgg87
  z46 := Tryd.sizeOf87
  v46 := Tryd.zeroValue87
  t50 := Tryd.underlying91
  a50 := Tryd.isAgg91
  z50 := Tryd.sizeOf91
  v50 := Tryd.zeroValue91
  t53 := Tryd.underlying94
  a53 := Tryd.isAgg94
  z53 := Tryd.sizeOf94
  v53 := Tryd.zeroValue94
  t55 := Tryd.underlying75
  a55 := Tryd.isAgg75
  z55 := Tryd.sizeOf75
  v55 := Tryd.zeroValue75
  t66 := Tryd.underlying108
  a66 := Tryd.isAgg108
  z66 := Tryd.sizeOf108
  v66 := Tryd.zeroValue108
  t70 := Tryd.underlying112
  a70 := Tryd.isAgg112
  z70 := Tryd.sizeOf112
  v70 := Tryd.zeroValue112
  t76 := Tryd.underlying119
  a76 := Tryd.isAgg119
  z76 := Tryd.sizeOf119
  v76 := Tryd.zeroValue119
  t77 := Tryd.underlying120
  a77 := Tryd.isAgg120
  z77 := Tryd.sizeOf120
  v77 := Tryd.zeroValue120 }
open Go.RowKit Go.Lib Go.Sort in
theorem l_slices_SortFunc_total {α : Type} [Inhabited α] (enc : α → Value) (h1 : OneCell enc) (cf : α → α → Int) (hO : SWO (ltOf cf)) (g : Nat) (cb : Array Value) (blk off cap : Nat) (d : Array α) (w : World) (eg : ∀ args w, (callFunc g args).run Tryd.prog w = .ok (.enter g args) w) (hcmp : CmpLays1 Tryd.prog g cb enc cf blk off d.size w) (hH : Holds enc w blk off d) (hblk : blk < w.heap.size) (hsz : d.size < 4611686018427387904) (hT : ∀ x y, (ltOf cf) x y = false → (ltOf cf) y x = false → x = y) :
    Calls Tryd.prog 33 #[.slice (some ⟨blk, off, none⟩) d.size cap, .func (.func g) #[] cb] w fun e w' =>
      e = .returned (.tuple #[]) ∧ ∃ n os, w' = sortWorld enc w blk off n (d.toList.mergeSort fun x y => !(ltOf cf) y x).toArray os := Any.slices_SortFunc_total l_laysSlF6_f33 enc h1 cf hO g cb blk off cap d w eg hcmp hH hblk hsz hT
def l_laysFall_ren : Go.Shelf.Ren := ⟨fun | 6 => 30 | 15 => 41 | 14 => 40 | 28 => 56 | 29 => 57 | 20 => 48 | 21 => 49 | 22 => 50 | 23 => 51 | 24 => 52 | 25 => 53 | 26 => 54 | 27 => 55 | 46 => 71 | 47 => 72 | 48 => 73 | 49 => 74 | 50 => 75 | 57 => 83 | n => n, fun | 22 => 28 | 24 => 37 | 25 => 65 | 3 => 3 | 39 => 80 | 0 => 0 | 53 => 94 | 55 => 75 | 4 => 4 | 46 => 87 | 45 => 86 | 50 => 91 | 5 => 5 | 9 => 9 | 66 => 108 | 70 => 112 | 76 => 119 | 77 => 120 | n => n, fun | n => n⟩
theorem l_laysFall : Go.Proofs.SlLaysF0.n6 Tryd.prog l_laysFall_ren := {
  mixed := by kernel_rfl
  f6 := ⟨Tryd.f30.name, by decide, Tryd.func30.trans (congrArg some (by kernel_rfl))⟩
  f14 := ⟨Tryd.f40.name, by decide, Tryd.func40.trans (congrArg some (by kernel_rfl))⟩
  f15 := Tryd.func41.trans (congrArg some (by kernel_rfl))
  f20 := ⟨Tryd.f48.name, by decide, Tryd.func48.trans (congrArg some (by kernel_rfl))⟩
  f21 := ⟨Tryd.f49.name, by decide, Tryd.func49.trans (congrArg some (by kernel_rfl))⟩
  f22 := ⟨Tryd.f50.name, by decide, Tryd.func50.trans (congrArg some (by kernel_rfl))⟩
  f23 := ⟨Tryd.f51.name, by decide, Tryd.func51.trans (congrArg some (by kernel_rfl))⟩
  f24 := ⟨Tryd.f52.name, by decide, Tryd.func52.trans (congrArg some (by kernel_rfl))⟩
  f25 := ⟨Tryd.f53.name, by decide, Tryd.func53.trans (congrArg some (by kernel_rfl))⟩
  f26 := ⟨Tryd.f54.name, by decide, Tryd.func54.trans (congrArg some (by kernel_rfl))⟩
  f27 := ⟨Tryd.f55.name, by decide, Tryd.func55.trans (congrArg some (by kernel_rfl))⟩
  f28 := Tryd.func56.trans (congrArg some (by kernel_rfl))
  f29 := Tryd.func57.trans (congrArg some (by kernel_rfl))
  f46 := ⟨Tryd.f71.name, by decide, Tryd.func71.trans (congrArg some (by kernel_rfl))⟩
  f47 := Tryd.func72.trans (congrArg some (by kernel_rfl))
  f48 := Tryd.func73.trans (congrArg some (by kernel_rfl))
  f49 := ⟨Tryd.f74.name, by decide, Tryd.func74.trans (congrArg some (by kernel_rfl))⟩
  f50 := ⟨Tryd.f75.name, by decide, Tryd.func75.trans (congrArg some (by kernel_rfl))⟩
  f57 := ⟨Tryd.f83.name, by decide, Tryd.func83.trans (congrArg some (by kernel_rfl))⟩
  t0 := Tryd.underlying0
  a0 := Tryd.isAgg0
  z0 := Tryd.sizeOf0
  v0 := Tryd.zeroValue0
  t3 := Tryd.underlying3
  a3 := Tryd.isAgg3
  z3 := Tryd.sizeOf3
  v3 := Tryd.zeroValue3
  t4 := Tryd.underlying4
  a4 := Tryd.isAgg4
  z4 := Tryd.sizeOf4
  v4 := Tryd.zeroValue4
  t5 := Tryd.underlying5
  a5 := Tryd.isAgg5
  z5 := Tryd.sizeOf5
  v5 := Tryd.zeroValue5
  t9 := Tryd.underlying9
  a9 := Tryd.isAgg9
  z9 := Tryd.sizeOf9
  v9 := Tryd.zeroValue9
  t22 := Tryd.underlying28
  a22 := Tryd.isAgg28
  z22 := Tryd.sizeOf28
  v22 := Tryd.zeroValue28
  t25 := Tryd.underlying65
  a25 := Tryd.isAgg65
  z25 := Tryd.sizeOf65
  v25 := Tryd.zeroValue65
  t39 := Tryd.underlying80
  a39 := Tryd.isAgg80
  z39 := Tryd.sizeOf80
  v39 := Tryd.zeroValue80
  t45 := Tryd.underlying86
  a45 := Tryd.isAgg86
  z45 := Tryd.sizeOf86
  v45 := Tryd.zeroValue86
  t46 := Tryd.underlying87
  a46 := Tryd.isAgg87
  z46 := Tryd.sizeOf87
  v46 := Tryd.zeroValue87
  t50 := Tryd.underlying91
  a50 := Tryd.isAgg91
  z50 := Tryd.sizeOf91
  v50 := Tryd.zeroValue91
  t53 := Tryd.underlying94
  a53 := Tryd.isAgg94
  z53 := Tryd.sizeOf94
  v53 := Tryd.zeroValue94
  t55 := Tryd.underlying75
  a55 := Tryd.isAgg75
  z55 := Tryd.sizeOf75
  v55 := Tryd.zeroValue75
  t66 := Tryd.underlying108
  a66 := Tryd.isAgg108
  z66 := Tryd.sizeOf108
  v66 := Tryd.zeroValue108
  t70 := Tryd.underlying112
  a70 := Tryd.isAgg112
  z70 := Tryd.sizeOf112
  v70 := Tryd.zeroValue112
  t76 := Tryd.underlying119
  a76 := Tryd.isAgg119
  z76 := Tryd.sizeOf119
  v76 := Tryd.zeroValue119
  t77 := Tryd.underlying120
  a77 := Tryd.isAgg120
  z77 := Tryd.sizeOf120
  v77 := Tryd.zeroValue120 }
open Go.RowKit Go.Lib Go.Sort in
theorem l_sortFall_none {α : Type} [Inhabited α] (p : Option Addr) (cap : Nat) (fv : Value) (w : World) :
    Calls Tryd.prog 30 #[.slice p 0 cap, fv] w fun e w' => e = .returned (.tuple #[]) ∧ w' = w := AnyF.slices_SortFunc_none l_laysFall p cap fv w
open Go.RowKit Go.Lib Go.Sort in
theorem l_sortFall_total {α : Type} [Inhabited α] (k : Nat) (aE : ∀ w, (isAgg 37).run Tryd.prog w = .ok true w) (zE : ∀ w, (Go.sizeOf 37).run Tryd.prog w = .ok k w) (enc : α → List Value) (hk : ∀ x, (enc x).length = k) (h1 : ∀ x, ∀ v ∈ enc x, v.oneCell' = true) (cf : α → α → Int) (hO : SWO (ltOf cf)) (g : Nat) (cb : Array Value) (blk off cap : Nat) (d : Array α) (w : World)
    (eg : ∀ args w, (callFunc g args).run Tryd.prog w = .ok (.enter g args) w) (hcmp : CmpLays Tryd.prog g cb enc k cf blk off d.size w) (hH : HoldsK enc k w blk off d) (hblk : blk < w.heap.size) (hsz : d.size < 4611686018427387904) (hT : ∀ x y, (ltOf cf) x y = false → (ltOf cf) y x = false → x = y) :
    Calls Tryd.prog 30 #[.slice (some ⟨blk, off, none⟩) d.size cap, .func (.func g) #[] cb] w fun e w' =>
      e = .returned (.tuple #[]) ∧ ∃ n os, w' = sortWorldK enc k w blk off n (d.toList.mergeSort fun x y => !(ltOf cf) y x).toArray os := AnyQ.slices_SortFunc_total l_laysFall k aE zE enc hk h1 cf hO g cb blk off cap d w eg hcmp hH hblk hsz hT
end Go.Proofs.YtbmmilhinbfahaaDoor.ShelfC
/- package sieve: the comparers of the sorts -/
namespace Go.Proofs.YtbmmilhinbfahaaDoor
open Go.RowKit Go.Sort
/-- a world with draws and new blocks behind it: nothing else -/
def Grw (w w' : World) : Prop := ∃ (q : Nat) (os : Array Obj), w' = grow (w.drewN q) os
theorem Grw.rfl' (w : World) : Grw w w := ⟨0, #[], by rw [grow_empty]; rfl⟩
theorem Grw.drewN {w w1 : World} (h : Grw w w1) (n : Nat) : Grw w (w1.drewN n) := by
  obtain ⟨q, os, rfl⟩ := h
  exact ⟨q + n, os, by rw [← World.drewN_drewN]; rfl⟩
theorem Grw.drew {w w1 : World} (h : Grw w w1) : Grw w w1.drew := h.drewN 1
theorem Grw.alloc {w w1 : World} (h : Grw w w1) (o : Obj) : Grw w (w1.alloc o) := by
  obtain ⟨q, os, rfl⟩ := h
  exact ⟨q, os ++ #[o], by rw [alloc_eq_grow, grow_grow]⟩
theorem Grw.trans {a b c : World} (h : Grw a b) (k : Grw b c) : Grw a c := by
  obtain ⟨q, os, rfl⟩ := h
  obtain ⟨q2, os2, rfl⟩ := k
  refine ⟨q + q2, os ++ os2, ?_⟩
  rw [← grow_grow, ← World.drewN_drewN]
  rfl
theorem Grw.ext {w w' : World} (h : Grw w w') : Ext w w' := by
  obtain ⟨q, os, rfl⟩ := h
  exact ⟨rfl, rfl, rfl, by rw [size_grow]; exact Nat.le_add_right _ _, fun k hk => heap_grow_old (w.drewN q) os hk⟩
theorem cmp_same (x : Int) : Lib.compareInt x x = 0 := by unfold Lib.compareInt; rw [if_neg (by omega), if_neg (by omega)]
theorem cmp_ne {x y : Int} (h : ¬ x = y) : ¬ Lib.compareInt x y = 0 := by
  unfold Lib.compareInt
  split
  · omega
  · split <;> omega
theorem cmp_c (x y : Int) (w : World) {c : Int} (hc : Hid (Lib.compareInt x y = c)) : Calls Tryd.prog 32 #[.int .i64 x, .int .i64 y] w (fun e w' => e = .returned (.int .i64 c) ∧ w' = w) := by
  rw [← hc.out]; exact ShelfC.l_cmp_Compare_int x y w
theorem cmp_g (x y : Int) (w : World) {c : Int} (hc : Hid (Lib.compareInt x y = c)) : Calls Tryd.prog 32 #[.int .i64 x, .int .i64 y] w (fun e w' => e = .returned (.int .i64 c) ∧ Grw w w') :=
  (cmp_c x y w hc).mono fun e w' h => ⟨h.1, by rw [h.2]; exact Grw.rfl' _⟩
theorem key_stepsG (s r : Int) (su sa sd sb : ByteArray) (w : World) : Calls Tryd.prog 20 #[.agg #[.int .i64 s, .int .i64 r, .string su, .string sa, .string sd, .string sb]] w (fun e w' => e = .returned (.int .i64 s) ∧ Grw w w') :=
  (key_steps s r su sa sd sb w).mono fun e w' h => ⟨h.1, by rw [h.2]; exact (Grw.rfl' _).alloc _⟩
theorem key_restG (s r : Int) (su sa sd sb : ByteArray) (w : World) : Calls Tryd.prog 21 #[.agg #[.int .i64 s, .int .i64 r, .string su, .string sa, .string sd, .string sb]] w (fun e w' => e = .returned (.int .i64 r) ∧ Grw w w') :=
  (key_rest s r su sa sd sb w).mono fun e w' h => ⟨h.1, by rw [h.2]; exact (Grw.rfl' _).alloc _⟩
/-- by steps, then by rest -/
def cmpSR (s1 r1 s2 r2 : Int) : Int := if s1 = s2 then Lib.compareInt r1 r2 else Lib.compareInt s1 s2
set_option maxRecDepth 100000 in
set_option maxHeartbeats 6400000 in
theorem cmpFall_any (s1 r1 s2 r2 : Int) (su1 sa1 sd1 sb1 su2 sa2 sd2 sb2 : ByteArray) (HB HK : Nat) (W : World) (hb : W.cell? ⟨HB, 0, none⟩ = some (.slice (some ⟨HK, 0, none⟩) 2 2)) (h0 : W.cell? ⟨HK, 0, none⟩ = some (.func (.func 20) #[] #[])) (h1 : W.cell? ⟨HK, 1, none⟩ = some (.func (.func 21) #[] #[])) (lb : HB < W.heap.size) (lk : HK < W.heap.size) :
    Calls Tryd.prog 31 #[FaV s1 r1 su1 sa1 sd1 sb1, FaV s2 r2 su2 sa2 sd2 sb2, .pointer (some ⟨HB, 0, none⟩)] W (fun e w' => e = .returned (.int .i64 (cmpSR s1 r1 s2 r2)) ∧ Grw W w') := by
  have hg : Grw W ((W.alloc (.cells #[.int .i64 s1, .int .i64 r1, .string su1, .string sa1, .string sd1, .string sb1] 37)).alloc (.cells #[.int .i64 s2, .int .i64 r2, .string su2, .string sa2, .string sd2, .string sb2] 37)) := ((Grw.rfl' W).alloc _).alloc _
  have q1 : Row ((W.alloc (.cells #[.int .i64 s1, .int .i64 r1, .string su1, .string sa1, .string sd1, .string sb1] 37)).alloc (.cells #[.int .i64 s2, .int .i64 r2, .string su2, .string sa2, .string sd2, .string sb2] 37)) W.heap.size 37 [.int .i64 s1, .int .i64 r1, .string su1, .string sa1, .string sd1, .string sb1] := (Row.new W _ _).alloc _
  have q2 : Row ((W.alloc (.cells #[.int .i64 s1, .int .i64 r1, .string su1, .string sa1, .string sd1, .string sb1] 37)).alloc (.cells #[.int .i64 s2, .int .i64 r2, .string su2, .string sa2, .string sd2, .string sb2] 37)) (W.heap.size + 1) 37 [.int .i64 s2, .int .i64 r2, .string su2, .string sa2, .string sd2, .string sb2] := by
    have := Row.new (W.alloc (.cells #[.int .i64 s1, .int .i64 r1, .string su1, .string sa1, .string sd1, .string sb1] 37)) 37 [.int .i64 s2, .int .i64 r2, .string su2, .string sa2, .string sd2, .string sb2]
    rwa [World.size_alloc] at this
  have hcb : ((W.alloc (.cells #[.int .i64 s1, .int .i64 r1, .string su1, .string sa1, .string sd1, .string sb1] 37)).alloc (.cells #[.int .i64 s2, .int .i64 r2, .string su2, .string sa2, .string sd2, .string sb2] 37)).cell? ⟨HB, 0, none⟩ = some (.slice (some ⟨HK, 0, none⟩) 2 2) := by rw [hg.ext.cell lb, hb]
  have hc0 : ((W.alloc (.cells #[.int .i64 s1, .int .i64 r1, .string su1, .string sa1, .string sd1, .string sb1] 37)).alloc (.cells #[.int .i64 s2, .int .i64 r2, .string su2, .string sa2, .string sd2, .string sb2] 37)).cell? ⟨HK, 0, none⟩ = some (.func (.func 20) #[] #[]) := by rw [hg.ext.cell lk, h0]
  have hc1 : ((W.alloc (.cells #[.int .i64 s1, .int .i64 r1, .string su1, .string sa1, .string sd1, .string sb1] 37)).alloc (.cells #[.int .i64 s2, .int .i64 r2, .string su2, .string sa2, .string sd2, .string sb2] 37)).cell? ⟨HK, 1, none⟩ = some (.func (.func 21) #[] #[]) := by rw [hg.ext.cell lk, h1]
  have hlb : HB < ((W.alloc (.cells #[.int .i64 s1, .int .i64 r1, .string su1, .string sa1, .string sd1, .string sb1] 37)).alloc (.cells #[.int .i64 s2, .int .i64 r2, .string su2, .string sa2, .string sd2, .string sb2] 37)).heap.size := Nat.lt_of_lt_of_le lb hg.ext.size
  have hlk : HK < ((W.alloc (.cells #[.int .i64 s1, .int .i64 r1, .string su1, .string sa1, .string sd1, .string sb1] 37)).alloc (.cells #[.int .i64 s2, .int .i64 r2, .string su2, .string sa2, .string sd2, .string sb2] 37)).heap.size := Nat.lt_of_lt_of_le lk hg.ext.size
  unfold FaV
  obtain ⟨w2, hw2⟩ : ∃ w2, ((W.alloc (.cells #[.int .i64 s1, .int .i64 r1, .string su1, .string sa1, .string sd1, .string sb1] 37)).alloc (.cells #[.int .i64 s2, .int .i64 r2, .string su2, .string sa2, .string sd2, .string sb2] 37)) = w2 := ⟨_, rfl⟩
  rw [hw2] at hg q1 q2 hcb hc0 hc1 hlb hlk
  have HW2 := hid hw2
  have W0 := hid hg
  have RA := hid q1
  have RB := hid q2
  have HSC : Hid (∀ W', Grw w2 W' → W'.cell? ⟨HB, 0, none⟩ = some (.slice (some ⟨HK, 0, none⟩) 2 2) ∧ W'.cell? ⟨HK, 0, none⟩ = some (.func (.func 20) #[] #[]) ∧ W'.cell? ⟨HK, 1, none⟩ = some (.func (.func 21) #[] #[])) := hid (fun W' e => ⟨by rw [e.ext.cell hlb, hcb], by rw [e.ext.cell hlk, hc0], by rw [e.ext.cell hlk, hc1]⟩)
  clear hw2 hg q1 q2 hb h0 h1 lb lk hc0 hc1 hlb hlk
  go_enter Tryd.func31, Tryd.ntmps31
  go_upto_region 1 with fail
  rw [HW2.out]
  go_wp2_with fail
  go_loopw [11] (fun iz wr => ∃ j : Nat, j ≤ 2 ∧ iz = .int .i64 (j : Int) ∧ Hid ((1 ≤ j → s1 = s2) ∧ (2 ≤ j → r1 = r2)) ∧ Grw w2 wr) (fun iz _ => 2 - (intOf iz).toNat)
  case atStart => exact ⟨0, by omega, rfl, hid ⟨fun h => absurd h (by omega), fun h => absurd h (by omega)⟩, Grw.rfl' _⟩
  case round =>
    clear hcb
    obtain ⟨j, hj, rfl, HJ, hx⟩ := hrel
    have EX := hid hx
    obtain ⟨k0, k1, k2⟩ := HSC.out _ hx
    have HS : Hid (∀ W', Grw wr W' → W'.cell? ⟨W.heap.size, 0, none⟩ = some (.int .i64 s1) ∧ W'.cell? ⟨W.heap.size, 1, none⟩ = some (.int .i64 r1) ∧ W'.cell? ⟨W.heap.size, 2, none⟩ = some (.string su1) ∧ W'.cell? ⟨W.heap.size, 3, none⟩ = some (.string sa1) ∧ W'.cell? ⟨W.heap.size, 4, none⟩ = some (.string sd1) ∧ W'.cell? ⟨W.heap.size, 5, none⟩ = some (.string sb1) ∧ W'.cell? ⟨W.heap.size + 1, 0, none⟩ = some (.int .i64 s2) ∧ W'.cell? ⟨W.heap.size + 1, 1, none⟩ = some (.int .i64 r2) ∧ W'.cell? ⟨W.heap.size + 1, 2, none⟩ = some (.string su2) ∧ W'.cell? ⟨W.heap.size + 1, 3, none⟩ = some (.string sa2) ∧ W'.cell? ⟨W.heap.size + 1, 4, none⟩ = some (.string sd2) ∧ W'.cell? ⟨W.heap.size + 1, 5, none⟩ = some (.string sb2)) := hid (by
      intro W' e
      obtain ⟨⟨a0, a1, a2, a3, a4, a5⟩, -⟩ := row_facts6 (RA.out.ext (EX.out.trans e).ext)
      obtain ⟨⟨b0, b1, b2, b3, b4, b5⟩, -⟩ := row_facts6 (RB.out.ext (EX.out.trans e).ext)
      exact ⟨a0, a1, a2, a3, a4, a5, b0, b1, b2, b3, b4, b5⟩)
    clear hx
    match j, hj, HJ with
    | 0, hj, HJ =>
      -- key 0
      obtain ⟨c, hc⟩ : ∃ c, Lib.compareInt s1 s2 = c := ⟨_, rfl⟩
      have HC := hid hc
      have hcur : Grw wr wr := Grw.rfl' _
      clear hc
      go_upto_region 4 with fail
      go_cut [8] (fun sx wx => sx = .int .i64 c ∧ Grw wr wx)
      case first =>
        go_region_held3 (fun W' => W'.cell? ⟨W.heap.size, 0, none⟩ = some (.int .i64 s1) ∧ W'.cell? ⟨W.heap.size, 1, none⟩ = some (.int .i64 r1) ∧ W'.cell? ⟨W.heap.size, 2, none⟩ = some (.string su1) ∧ W'.cell? ⟨W.heap.size, 3, none⟩ = some (.string sa1) ∧ W'.cell? ⟨W.heap.size, 4, none⟩ = some (.string sd1) ∧ W'.cell? ⟨W.heap.size, 5, none⟩ = some (.string sb1) ∧ W'.cell? ⟨W.heap.size + 1, 0, none⟩ = some (.int .i64 s2) ∧ W'.cell? ⟨W.heap.size + 1, 1, none⟩ = some (.int .i64 r2) ∧ W'.cell? ⟨W.heap.size + 1, 2, none⟩ = some (.string su2) ∧ W'.cell? ⟨W.heap.size + 1, 3, none⟩ = some (.string sa2) ∧ W'.cell? ⟨W.heap.size + 1, 4, none⟩ = some (.string sd2) ∧ W'.cell? ⟨W.heap.size + 1, 5, none⟩ = some (.string sb2))
          (first | (with_reducible exact HS.out _ hcur) | (with_reducible exact HS.out _ hcur.drew) | go_keep)
          (first
            | (go_at_call_of 20 (Value.string su1); refine (key_stepsG s1 r1 su1 sa1 sd1 sb1 _).mono ?_; rintro e w10 ⟨rfl, hx⟩; have hcur := Grw.trans hcur (by first | exact hx | exact Grw.trans ((Grw.rfl' _).drew) hx))
            | (go_at_call_of 20 (Value.string su2); refine (key_stepsG s2 r2 su2 sa2 sd2 sb2 _).mono ?_; rintro e w20 ⟨rfl, hx⟩; have hcur := Grw.trans hcur (by first | exact hx | exact Grw.trans ((Grw.rfl' _).drew) hx))
            | (go_at_call 32; refine (cmp_g s1 s2 _ HC).mono ?_; rintro e w30 ⟨rfl, hx⟩; have hcur := Grw.trans hcur (by first | exact hx | exact Grw.trans ((Grw.rfl' _).drew) hx)))
        all_goals
          go_wp2_with fail
          go_meet
          exact ⟨rfl, hcur⟩
      case rest =>
        obtain ⟨rfl, hx⟩ := hcut
        clear hcur
        have EX2 := hid (EX.out.trans hx)
        by_cases he : s1 = s2
        · obtain rfl : c = 0 := by rw [← HC.out, he]; exact cmp_same _
          go_wp2_with fail
          go_roundw
          case rel => exact ⟨1, by omega, rfl, hid ⟨fun _ => he, fun h => absurd h (by omega)⟩, EX2.out⟩
          case measure => first | (simp [intOf]; done) | (simp [intOf]; omega)
        · have q0 : ¬ c = 0 := by rw [← HC.out]; exact cmp_ne he
          have q1 : (c == 0) = false := beq_eq_false_iff_ne.2 q0
          have q2 : (c != 0) = true := by rw [bne, q1]; rfl
          have HF : Hid (.returned (.int .i64 c) = Ending.returned (.int .i64 (cmpSR s1 r1 s2 r2)) ∧ Grw W wc) := hid ⟨by rw [← HC.out]; rw [cmpSR, if_neg he], (W0.out.trans EX2.out)⟩
          go_wp2_with fail
          go_ret
          exact HF.out
    | 1, hj, HJ =>
      -- key 1
      obtain ⟨c, hc⟩ : ∃ c, Lib.compareInt r1 r2 = c := ⟨_, rfl⟩
      have HC := hid hc
      have hcur : Grw wr wr := Grw.rfl' _
      clear hc
      go_upto_region 4 with fail
      go_cut [8] (fun sx wx => sx = .int .i64 c ∧ Grw wr wx)
      case first =>
        go_region_held3 (fun W' => W'.cell? ⟨W.heap.size, 0, none⟩ = some (.int .i64 s1) ∧ W'.cell? ⟨W.heap.size, 1, none⟩ = some (.int .i64 r1) ∧ W'.cell? ⟨W.heap.size, 2, none⟩ = some (.string su1) ∧ W'.cell? ⟨W.heap.size, 3, none⟩ = some (.string sa1) ∧ W'.cell? ⟨W.heap.size, 4, none⟩ = some (.string sd1) ∧ W'.cell? ⟨W.heap.size, 5, none⟩ = some (.string sb1) ∧ W'.cell? ⟨W.heap.size + 1, 0, none⟩ = some (.int .i64 s2) ∧ W'.cell? ⟨W.heap.size + 1, 1, none⟩ = some (.int .i64 r2) ∧ W'.cell? ⟨W.heap.size + 1, 2, none⟩ = some (.string su2) ∧ W'.cell? ⟨W.heap.size + 1, 3, none⟩ = some (.string sa2) ∧ W'.cell? ⟨W.heap.size + 1, 4, none⟩ = some (.string sd2) ∧ W'.cell? ⟨W.heap.size + 1, 5, none⟩ = some (.string sb2))
          (first | (with_reducible exact HS.out _ hcur) | (with_reducible exact HS.out _ hcur.drew) | go_keep)
          (first
            | (go_at_call_of 21 (Value.string su1); refine (key_restG s1 r1 su1 sa1 sd1 sb1 _).mono ?_; rintro e w10 ⟨rfl, hx⟩; have hcur := Grw.trans hcur (by first | exact hx | exact Grw.trans ((Grw.rfl' _).drew) hx))
            | (go_at_call_of 21 (Value.string su2); refine (key_restG s2 r2 su2 sa2 sd2 sb2 _).mono ?_; rintro e w20 ⟨rfl, hx⟩; have hcur := Grw.trans hcur (by first | exact hx | exact Grw.trans ((Grw.rfl' _).drew) hx))
            | (go_at_call 32; refine (cmp_g r1 r2 _ HC).mono ?_; rintro e w30 ⟨rfl, hx⟩; have hcur := Grw.trans hcur (by first | exact hx | exact Grw.trans ((Grw.rfl' _).drew) hx)))
        all_goals
          go_wp2_with fail
          go_meet
          exact ⟨rfl, hcur⟩
      case rest =>
        obtain ⟨rfl, hx⟩ := hcut
        clear hcur
        have EX2 := hid (EX.out.trans hx)
        by_cases he : r1 = r2
        · obtain rfl : c = 0 := by rw [← HC.out, he]; exact cmp_same _
          go_wp2_with fail
          go_roundw
          case rel => exact ⟨2, by omega, rfl, hid ⟨fun _ => HJ.out.1 (by omega), fun _ => he⟩, EX2.out⟩
          case measure => first | (simp [intOf]; done) | (simp [intOf]; omega)
        · have q0 : ¬ c = 0 := by rw [← HC.out]; exact cmp_ne he
          have q1 : (c == 0) = false := beq_eq_false_iff_ne.2 q0
          have q2 : (c != 0) = true := by rw [bne, q1]; rfl
          have HF : Hid (.returned (.int .i64 c) = Ending.returned (.int .i64 (cmpSR s1 r1 s2 r2)) ∧ Grw W wc) := hid ⟨by rw [← HC.out]; rw [cmpSR, if_pos (HJ.out.1 (by omega))], (W0.out.trans EX2.out)⟩
          go_wp2_with fail
          go_ret
          exact HF.out
    | 2, hj, HJ =>
      have HF : Hid (.returned (.int .i64 0) = Ending.returned (.int .i64 (cmpSR s1 r1 s2 r2)) ∧ Grw W wr) := hid ⟨by rw [cmpSR, if_pos (HJ.out.1 (by omega)), HJ.out.2 (by omega), cmp_same], W0.out.trans EX.out⟩
      go_wp2_with fail
      go_ret
      exact HF.out
    | j + 3, hj, HJ => exact absurd hj (by omega)
set_option maxRecDepth 100000 in
set_option maxHeartbeats 3200000 in
theorem cmpInt_any (x y : Int) (HB HK : Nat) (W : World) (hb : W.cell? ⟨HB, 0, none⟩ = some (.slice (some ⟨HK, 0, none⟩) 1 1)) (h0 : W.cell? ⟨HK, 0, none⟩ = some (.func (.func 23) #[] #[])) :
    Calls Tryd.prog 34 #[.int .i64 x, .int .i64 y, .pointer (some ⟨HB, 0, none⟩)] W (fun e w' => e = .returned (.int .i64 (Lib.compareInt x y)) ∧ w' = W) := by
  obtain ⟨c, hc⟩ : ∃ c, Lib.compareInt x y = c := ⟨_, rfl⟩
  rw [hc]
  have HC := hid hc
  clear hc
  go_enter Tryd.func34, Tryd.ntmps34
  go_wp2_with fail
  go_loopw [11] (fun iz wr => ∃ j : Nat, j ≤ 1 ∧ iz = .int .i64 (j : Int) ∧ Hid (1 ≤ j → c = 0) ∧ wr = W) (fun iz _ => 1 - (intOf iz).toNat)
  case atStart => exact ⟨0, by omega, rfl, hid (fun h => absurd h (by omega)), rfl⟩
  case round =>
    obtain ⟨j, hj, rfl, HJ, rfl⟩ := hrel
    match j, hj, HJ with
    | 0, hj, HJ =>
      go_wp2_with fail
      refine (key_int x _).mono ?_
      rintro e w1 ⟨rfl, rfl⟩
      go_wp2_with fail
      refine (key_int y _).mono ?_
      rintro e w1 ⟨rfl, rfl⟩
      by_cases he : c = 0
      · subst he
        go_wp2_with fail
        refine (cmp_c x y _ HC).mono ?_
        rintro e w1 ⟨rfl, rfl⟩
        go_wp2
        go_roundw
        case rel => exact ⟨1, by omega, rfl, hid (fun _ => by trivial), by trivial⟩
        case measure => first | (simp [intOf]; done) | (simp [intOf]; omega)
      · have q1 : (c == 0) = false := beq_eq_false_iff_ne.2 he
        have q2 : (c != 0) = true := by rw [bne, q1]; rfl
        go_wp2_with fail
        refine (cmp_c x y _ HC).mono ?_
        rintro e w1 ⟨rfl, rfl⟩
        go_wp2
        go_ret
        exact ⟨rfl, rfl⟩
    | 1, hj, HJ =>
      have HF : Hid (c = 0) := hid (HJ.out (by omega))
      go_wp2_with fail
      go_ret
      exact ⟨by rw [HF.out]; rfl, rfl⟩
    | j + 2, hj, HJ => exact absurd hj (by omega)
end Go.Proofs.YtbmmilhinbfahaaDoor
/- package sieve: sortBy at ints -/
namespace Go.Proofs.YtbmmilhinbfahaaDoor
open Go.RowKit Go.Sort
theorem putCells_take {α : Type} [Inhabited α] (enc : α → Value) (d : Array α) (c : Array Value) (h : d.size ≤ c.size) : (putCells enc 0 d c).toList.take d.size = d.toList.map enc := by
  apply List.ext_getElem?
  intro i
  rw [List.getElem?_take]
  split
  · rename_i hi
    have h2 : i < c.size := by omega
    rw [Array.getElem?_toList, putCells, Array.getElem?_mapIdx, Array.getElem?_eq_getElem h2]
    simp only [Option.map_some]
    rw [if_pos ⟨by omega, by omega⟩, Nat.sub_zero, getElem!_pos _ i hi]
    simp [hi]
  · rename_i hi
    rw [List.getElem?_eq_none (by simp; omega)]
theorem putCells_size {α : Type} [Inhabited α] (enc : α → Value) (off : Nat) (d : Array α) (c : Array Value) : (putCells enc off d c).size = c.size := by simp [putCells]
/-- the block of the row after the sort -/
theorem sortWorld_row {α : Type} [Inhabited α] (enc : α → Value) (w : World) (g q : Nat) (d : Array α) (os : Array Obj) {cur : Array Value} {e : TypeId} {fr : Nat × Nat} (h : w.heap[g]? = some (.cells cur e fr)) : (sortWorld enc w g 0 q d os).heap[g]? = some (.cells (putCells enc 0 d cur) e fr) := by
  have hg : g < w.heap.size := by
    rcases Nat.lt_or_ge g w.heap.size with h1 | h1
    · exact h1
    · rw [Array.getElem?_eq_none h1] at h; cases h
  unfold sortWorld
  rw [heap_grow_old _ _ (by simp [putRow, mapBlock, ahead]; exact hg)]
  simp only [putRow, mapBlock, Array.getElem?_modify, if_pos]
  rw [show (Go.Sort.ahead w q).heap[g]? = some (.cells cur e fr) from h]
  rfl
theorem sortWorld_grown {α : Type} [Inhabited α] (enc : α → Value) (w : World) (g q : Nat) (d : Array α) (os : Array Obj) : w.grownBy (sortWorld enc w g 0 q d os) (some g) where
  os := rfl
  tape := rfl
  output := rfl
  size := by simp [sortWorld, putRow, mapBlock, ahead]
  block := fun k hk hne => by
    unfold sortWorld
    rw [heap_grow_old _ _ (by simp [putRow, mapBlock, ahead]; exact hk)]
    simp only [putRow, mapBlock, Array.getElem?_modify]
    rw [if_neg (fun e => hne (by rw [e]))]
    rfl
theorem own_holds {α : Type} [Inhabited α] (enc : α → Value) {w : World} {g n : Nat} {cur : Array Value} {e : TypeId} (d : Array α) (hg : w.heap[g]? = some (.cells cur e (0, 0))) (hd : d.size = n) (hc : n ≤ cur.size) (ht : cur.toList.take n = d.toList.map enc) : Holds enc w g 0 d := by
  intro j hj
  have h1 : (cur.toList.take n)[j]? = some (enc d[j]!) := by
    rw [ht, getElem!_pos _ j hj]
    simp [hj]
  rw [List.getElem?_take, if_pos (by omega), Array.getElem?_toList] at h1
  refine ⟨?_, ?_⟩
  · simp only [World.cell?, Nat.zero_add, hg]
    exact h1
  · simp [World.frozen?, hg]
/-- the order of Go's cmp.Compare -/
theorem lt_int (x y : Int) : ltOf Lib.compareInt x y = decide (x < y) := by
  unfold ltOf Lib.compareInt
  by_cases h : x < y
  · rw [if_pos h, decide_eq_true h]; rfl
  · rw [if_neg h, decide_eq_false h]
    by_cases h2 : x > y
    · rw [if_pos h2]; rfl
    · rw [if_neg h2]; rfl
theorem swo_int : SWO (ltOf Lib.compareInt) where
  irrefl := fun x => by rw [lt_int]; simp
  trans := fun x y z h1 h2 => by
    rw [lt_int] at *
    simp only [decide_eq_true_eq] at *
    omega
  ntrans := fun x y z h1 h2 => by
    rw [lt_int] at *
    simp only [decide_eq_false_iff_not] at *
    omega
theorem tot_int : ∀ x y : Int, ltOf Lib.compareInt x y = false → ltOf Lib.compareInt y x = false → x = y := by
  intro x y h1 h2
  rw [lt_int] at *
  simp only [decide_eq_false_iff_not] at *
  omega
def encInt (x : Int) : Value := .int .i64 x
/-- the ints in order -/
def srtI (xs : List Int) : List Int := xs.mergeSort fun x y => !(ltOf Lib.compareInt) y x
set_option maxRecDepth 100000 in
set_option maxHeartbeats 3200000 in
theorem sortInts_any (v : Value) (n : Nat) (xs : List Int) (base HK : Nat) (w : World) (hown : w.ownsRow base 3 1 v n (Is xs)) (hk : w.cell? ⟨HK, 0, none⟩ = some (.func (.func 23) #[] #[])) (lk : HK < w.heap.size) (hne : ∀ g, v.ownBlock = some g → HK ≠ g) (hn : n < 4611686018427387904) :
    Calls Tryd.prog 22 #[v, .slice (some ⟨HK, 0, none⟩) 1 1] w (fun e w' => e = .returned (.tuple #[]) ∧ w'.ownsRow base 3 1 v n (Is (srtI xs)) ∧ w.grownBy w' v.ownBlock) := by
  obtain ⟨w1, hw1⟩ : ∃ w1, w.alloc (.cells #[.slice (some ⟨HK, 0, none⟩) 1 1] 66) = w1 := ⟨_, rfl⟩
  have hx : Ext w w1 := by rw [← hw1]; exact (Ext.rfl' w).alloc' _
  have hr : Row w1 w.heap.size 66 [.slice (some ⟨HK, 0, none⟩) 1 1] := by rw [← hw1]; exact Row.new w _ _
  have hk1 : w1.cell? ⟨HK, 0, none⟩ = some (.func (.func 23) #[] #[]) := by rw [hx.cell lk, hk]
  have hsz : w1.heap.size = w.heap.size + 1 := by rw [← hw1]; simp
  have hbx : w1.cell? ⟨w.heap.size, 0, none⟩ = some (.slice (some ⟨HK, 0, none⟩) 1 1) := hr.cell 0
  have HW := hid hw1
  obtain ⟨hl, h⟩ := hown
  have hlx : xs.length = n := by simpa using hl
  rcases h with ⟨rfl, rfl⟩ | ⟨g, cap, cur, rfl, hb, hg, hnc, hcm, hcs, hct⟩
  · have hxs : xs = [] := List.eq_nil_of_length_eq_zero hlx
    have HF : Hid (w1.ownsRow base 3 1 (.slice none 0 0) 0 (Is (srtI xs)) ∧ w.grownBy w1 (Value.ownBlock (.slice none 0 0))) := hid ⟨by rw [hxs, show Is (srtI []) = [] by simp [srtI]]; exact World.ownsRow_nil _ _ _ _, ⟨hx.os, hx.tape, hx.output, hx.size, fun k hk _ => hx.block k hk⟩⟩
    clear hl hx hr hk1 hk hbx hlx hxs hne hw1
    go_enter Tryd.func22, Tryd.ntmps22
    go_upto_region 1 with fail
    rw [HW.out]
    go_wp2_with fail
    refine (ShelfC.l_slices_SortFunc_none (α := Int) none 0 _ w1).mono ?_
    rintro e w' ⟨rfl, rfl⟩
    go_wp2
    go_end0
    exact ⟨rfl, HF.out⟩
  · have hgw : g < w.heap.size := by
      rcases Nat.lt_or_ge g w.heap.size with h1 | h1
      · exact h1
      · rw [Array.getElem?_eq_none h1] at hg; cases hg
    have hg1 : w1.heap[g]? = some (.cells cur 3 (0, 0)) := by rw [hx.block g hgw, hg]
    have hH : Holds encInt w1 g 0 xs.toArray := own_holds encInt xs.toArray hg1 (by simpa using hlx) (by omega) (show cur.toList.take n = Is xs by simpa using hct)
    have hcmp : CmpLays1 Tryd.prog 34 #[.pointer (some ⟨w.heap.size, 0, none⟩)] encInt Lib.compareInt g 0 xs.toArray.size w1 := by
      intro m os dk hs x y
      have hother : ∀ b, b < w1.heap.size → b ≠ g → (sortWorld encInt w1 g 0 m dk os).heap[b]? = w1.heap[b]? := fun b h1 h2 => (sortWorld_grown encInt w1 g m dk os).block b h1 (fun e => h2 (by cases e; rfl))
      refine (cmpInt_any x y w.heap.size HK _ ?_ ?_).mono ?_
      · rw [World.cell?_of_block (hother _ (by show w.heap.size < _; omega) (by show w.heap.size ≠ g; omega)), hbx]
      · rw [World.cell?_of_block (hother _ (by show HK < _; omega) (by show HK ≠ g; exact hne g rfl)), hk1]
      · rintro e w' ⟨rfl, rfl⟩
        exact ⟨rfl, 0, #[], by rw [grow_empty]; rfl⟩
    have hcon := ShelfC.l_slices_SortFunc_total encInt (fun x => rfl) Lib.compareInt swo_int 34 #[.pointer (some ⟨w.heap.size, 0, none⟩)] g 0 cap xs.toArray w1 (enters_of Tryd.func34 (by kernel_rfl) rfl) hcmp hH (by omega) (by simpa using (by omega : xs.length < 4611686018427387904)) tot_int
    have hsn : xs.toArray.size = n := by simpa using hlx
    rw [hsn] at hcon
    have HF : Hid (∀ (q : Nat) (os : Array Obj), (sortWorld encInt w1 g 0 q (srtI xs).toArray os).ownsRow base 3 1 (.slice (some ⟨g, 0, none⟩) n cap) n (Is (srtI xs)) ∧ w.grownBy (sortWorld encInt w1 g 0 q (srtI xs).toArray os) (some g)) := hid (by
      intro q os
      have hln : (srtI xs).toArray.size = n := by simp [srtI, hlx]
      refine ⟨⟨by simp [srtI, hlx], .inr ⟨g, cap, _, rfl, hb, sortWorld_row encInt w1 g q _ os hg1, hnc, hcm, by rw [putCells_size, hcs], ?_⟩⟩, ?_⟩
      · have := putCells_take encInt (srtI xs).toArray cur (by rw [hln]; omega)
        rw [hln] at this
        rw [Nat.mul_one, this]
        exact rfl
      · have h1 := sortWorld_grown encInt w1 g q (srtI xs).toArray os
        exact ⟨h1.os.trans hx.os, h1.tape.trans hx.tape, h1.output.trans hx.output, Nat.le_trans hx.size h1.size, fun k hk hne => (h1.block k (by omega) hne).trans (hx.block k hk)⟩)
    have HC := hid hcon
    clear hl hx hr hk1 hk hbx hlx hne hw1 hH hcmp hcon hg1 hg hct hcs hcm
    go_enter Tryd.func22, Tryd.ntmps22
    go_upto_region 1 with fail
    rw [HW.out]
    go_wp2_with fail
    refine HC.out.mono ?_
    rintro e w' ⟨rfl, q, os, rfl⟩
    go_wp2
    go_end0
    exact ⟨rfl, HF.out q os⟩
end Go.Proofs.YtbmmilhinbfahaaDoor
