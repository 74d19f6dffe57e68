/- Joined texts: package sieve: child; package sieve: fall; package sieve: the keys of the sorts; Contracts of the library, laid over this dump's numbers.; package sieve: the comparers of the sorts; package sieve: sortBy at ints. -/
import Derived.Test.YtimokpcopeldfaaGreatDoorJG19
import Derived.Shelf.SlSortCmp.WholeK
import Derived.Shelf.Small.Bits
import Derived.Shelf.Small.Wraps
import Derived.Shelf.LaysM
import Derived.Shelf.LaysC
import Derived.Shelf.SlSortCmp.Insertion
import Derived.Shelf.SlSortCmp.SiftDown1
import Derived.Shelf.SlSortCmp.HeapSort1
import Derived.Shelf.SlSortCmp.Insertion1
import Derived.Shelf.SlSortCmp.Median1
import Derived.Shelf.SlSortCmp.Pivot1
import Derived.Shelf.SlSortCmp.ReverseRange1
import Derived.Shelf.SlSortCmp.PartialInsertion1
import Derived.Shelf.SlSortCmp.PartitionEqual1
import Derived.Shelf.SlSortCmp.Partition1
import Derived.Shelf.SlSortCmp.Pdq1
import Derived.Shelf.SlSortCmp.Whole1
import Derived.Shelf.SlSortCmp.NoneTotal
import Derived.Test.YtimokpcopeldfaaGreatDoorProg
set_option linter.unusedSimpArgs false
set_option linter.unusedVariables false
/- package sieve: child -/
namespace Go.Proofs.YtimokpcopeldfaaGreatDoor
open Go.RowKit
theorem mulB {a b : Int} {A B : Nat} (ha : a.natAbs ≤ A) (hb : b.natAbs ≤ B) : (a * b).natAbs ≤ A * B := by
  rw [Int.natAbs_mul]; exact Nat.mul_le_mul ha hb
theorem tmod_bd {q m : Int} (hm : 0 < m) : (Int.tmod q m).natAbs < m.natAbs := by
  rw [Int.natAbs_tmod]; exact Nat.mod_lt _ (by omega)
theorem tmod_up {q m : Int} (hm : 0 < m) : (Int.tmod q m + m).tmod m = q % m := by
  have h1 := tmod_bd (q := q) hm
  rw [Int.tmod_eq_emod_of_nonneg (by omega), Int.add_emod_right]
  have e : q = m * (Int.tdiv q m) + Int.tmod q m := (Int.mul_tdiv_add_tmod q m).symm
  conv => rhs; rw [e]
  rw [Int.add_comm, Int.add_mul_emod_self_left]
set_option maxRecDepth 100000 in
set_option maxHeartbeats 6400000 in
theorem child_l (ba oa bb ob n cc n2 d2 rr : Nat) (s r mu ad di m t q u a : Int) (us ads : List Int) (w : World) (hra : Rd w (some ⟨ba, oa, none⟩) (Is us)) (hrb : Rd w (some ⟨bb, ob, none⟩) (Is ads)) (hn1 : us.length = n) (hn2 : ads.length = n2)
    (hm : 2 ≤ m) (hm2 : m ≤ 12) (hs : 0 ≤ s) (hs2 : s ≤ 1000) (hr : 0 ≤ r) (hr2 : r < di) (hd : 1 ≤ di) (hd2 : di ≤ 65536) (ht : 0 ≤ t) (ht2 : t < m) (hu1 : 1 ≤ mu) (hu2 : mu ≤ 65536) (hA : ad.natAbs ≤ 4294967296000000)
    (hq : Hid (mu * (r + t * di) + ad = di * q)) (hrr : Hid ((rr : Int) = q % m)) (hrn : rr < n) (hrn2 : rr < n2) (hu : Hid (us.getD rr 0 = u)) (ha : Hid (ads.getD rr 0 = a)) (hw1 : 1 ≤ u) (hw2 : u ≤ 999) (ha1 : -999999 ≤ a) (ha2 : a ≤ 999999) :
    Calls Tryz.prog 60 #[PlV s r mu ad di, .agg #[.int .i64 m, .slice (some ⟨ba, oa, none⟩) n cc, .slice (some ⟨bb, ob, none⟩) n2 d2], .int .i64 t] w (fun e w' => e = .returned (PlV (s + 1) (r + t * di) (u * mu) (u * ad + a * di) (m * di)) ∧ Ext w w') := by
  have c1 := mulB (a := t) (b := di) (A := 11) (B := 65536) (by omega) (by omega)
  have c1p : 0 ≤ t * di := Int.mul_nonneg ht (by omega)
  have c2 := mulB (a := mu) (b := (r + t * di)) (A := 65536) (B := 786432) (by omega) (by omega)
  have c3 : q.natAbs ≤ 4294967296000000 + 65536 * 786432 := by
    have h1 : (di * q).natAbs ≤ 4294967296000000 + 65536 * 786432 := by rw [← hq.out]; omega
    rw [Int.natAbs_mul] at h1
    exact Nat.le_trans (Nat.le_mul_of_pos_left _ (by omega)) h1
  have c4 := mulB (a := u) (b := mu) (A := 999) (B := 65536) (by omega) (by omega)
  have c5 := mulB (a := u) (b := ad) (A := 999) (B := 4294967296000000) (by omega) (by omega)
  have c6 := mulB (a := a) (b := di) (A := 999999) (B := 65536) (by omega) (by omega)
  have c7 := mulB (a := m) (b := di) (A := 12) (B := 65536) (by omega) (by omega)
  have c8 : (Int.tmod q m).natAbs ≤ 12 := by
    have h1 := tmod_bd (q := q) (show 0 < m by omega)
    omega
  have W1 : IntKind.i64.wrap (t * di) = t * di := IntWalk.i64_in _ (by omega)
  have W2 : IntKind.i64.wrap (r + t * di) = (r + t * di) := IntWalk.i64_in _ (by omega)
  have W3 : IntKind.i64.wrap (mu * (r + t * di)) = mu * (r + t * di) := IntWalk.i64_in _ (by omega)
  have W4 : IntKind.i64.wrap (mu * (r + t * di) + ad) = mu * (r + t * di) + ad := IntWalk.i64_in _ (by omega)
  have W5 : (mu * (r + t * di) + ad).tdiv di = q := by rw [hq.out, Int.mul_tdiv_cancel_left _ (by omega)]
  have W5w : IntKind.i64.wrap q = q := IntWalk.i64_in _ (by omega)
  have W6 : IntKind.i64.wrap (Int.tmod q m + m) = Int.tmod q m + m := IntWalk.i64_in _ (by omega)
  have W7 : (Int.tmod q m + m).tmod m = (rr : Int) := by rw [tmod_up (by omega), hrr.out]
  have W8 : IntKind.i64.wrap (s + 1) = s + 1 := IntWalk.i64_in _ (by omega)
  have W9 : IntKind.i64.wrap (u * mu) = u * mu := IntWalk.i64_in _ (by omega)
  have W10 : IntKind.i64.wrap (u * ad) = u * ad := IntWalk.i64_in _ (by omega)
  have W11 : IntKind.i64.wrap (a * di) = a * di := IntWalk.i64_in _ (by omega)
  have W12 : IntKind.i64.wrap (u * ad + a * di) = u * ad + a * di := IntWalk.i64_in _ (by omega)
  have W13 : IntKind.i64.wrap (m * di) = m * di := IntWalk.i64_in _ (by omega)
  have D0 : ¬ di = 0 := by omega
  have M0 : ¬ m = 0 := by omega
  have i0 : (0 : Int) ≤ (rr : Int) := by omega
  have i1 : (rr : Int) < (n : Int) := by omega
  have i2 : (rr : Int) < (n2 : Int) := by omega
  unfold PlV
  have hx : Ext w (((w.alloc (.cells #[.int .i64 s, .int .i64 r, .int .i64 mu, .int .i64 ad, .int .i64 di] 91)).alloc (.cells #[.int .i64 m, .slice (some ⟨ba, oa, none⟩) n cc, .slice (some ⟨bb, ob, none⟩) n2 d2] 24)).alloc (.cells #[.int .i64 0, .int .i64 0, .int .i64 0, .int .i64 0, .int .i64 0] 91)) := (((Ext.rfl' w).alloc' _).alloc' _).alloc' _
  have h1 : Row (((w.alloc (.cells #[.int .i64 s, .int .i64 r, .int .i64 mu, .int .i64 ad, .int .i64 di] 91)).alloc (.cells #[.int .i64 m, .slice (some ⟨ba, oa, none⟩) n cc, .slice (some ⟨bb, ob, none⟩) n2 d2] 24)).alloc (.cells #[.int .i64 0, .int .i64 0, .int .i64 0, .int .i64 0, .int .i64 0] 91)) w.heap.size 91 [.int .i64 s, .int .i64 r, .int .i64 mu, .int .i64 ad, .int .i64 di] := ((Row.new w _ _).alloc _).alloc _
  have h2 : Row (((w.alloc (.cells #[.int .i64 s, .int .i64 r, .int .i64 mu, .int .i64 ad, .int .i64 di] 91)).alloc (.cells #[.int .i64 m, .slice (some ⟨ba, oa, none⟩) n cc, .slice (some ⟨bb, ob, none⟩) n2 d2] 24)).alloc (.cells #[.int .i64 0, .int .i64 0, .int .i64 0, .int .i64 0, .int .i64 0] 91)) (w.heap.size + 1) 24 [.int .i64 m, .slice (some ⟨ba, oa, none⟩) n cc, .slice (some ⟨bb, ob, none⟩) n2 d2] := by
    have := (Row.new (w.alloc (.cells #[.int .i64 s, .int .i64 r, .int .i64 mu, .int .i64 ad, .int .i64 di] 91)) 24 [.int .i64 m, .slice (some ⟨ba, oa, none⟩) n cc, .slice (some ⟨bb, ob, none⟩) n2 d2]).alloc (.cells #[.int .i64 0, .int .i64 0, .int .i64 0, .int .i64 0, .int .i64 0] 91)
    rwa [World.size_alloc] at this
  have h3 : Row (((w.alloc (.cells #[.int .i64 s, .int .i64 r, .int .i64 mu, .int .i64 ad, .int .i64 di] 91)).alloc (.cells #[.int .i64 m, .slice (some ⟨ba, oa, none⟩) n cc, .slice (some ⟨bb, ob, none⟩) n2 d2] 24)).alloc (.cells #[.int .i64 0, .int .i64 0, .int .i64 0, .int .i64 0, .int .i64 0] 91)) (w.heap.size + 1 + 1) 91 [.int .i64 0, .int .i64 0, .int .i64 0, .int .i64 0, .int .i64 0] := by
    have := Row.new ((w.alloc (.cells #[.int .i64 s, .int .i64 r, .int .i64 mu, .int .i64 ad, .int .i64 di] 91)).alloc (.cells #[.int .i64 m, .slice (some ⟨ba, oa, none⟩) n cc, .slice (some ⟨bb, ob, none⟩) n2 d2] 24)) 91 [.int .i64 0, .int .i64 0, .int .i64 0, .int .i64 0, .int .i64 0]
    rwa [World.size_alloc, World.size_alloc] at this
  obtain ⟨b1, o1, e1, -, hc1⟩ := (hra.ext hx).atI (k := rr) (by omega)
  obtain ⟨b2, o2, e2, -, hc2⟩ := (hrb.ext hx).atI (k := rr) (by omega)
  cases e1
  cases e2
  rw [hu.out] at hc1
  rw [ha.out] at hc2
  obtain ⟨W, hW⟩ : ∃ W, (((w.alloc (.cells #[.int .i64 s, .int .i64 r, .int .i64 mu, .int .i64 ad, .int .i64 di] 91)).alloc (.cells #[.int .i64 m, .slice (some ⟨ba, oa, none⟩) n cc, .slice (some ⟨bb, ob, none⟩) n2 d2] 24)).alloc (.cells #[.int .i64 0, .int .i64 0, .int .i64 0, .int .i64 0, .int .i64 0] 91)) = W := ⟨_, rfl⟩
  rw [hW] at hx h1 h2 h3 hc1 hc2
  have HX := hid hx
  have HW := hid hW
  have H3 := hid h3
  obtain ⟨p0, p1, p2, p3, p4⟩ := row_facts5 h1
  obtain ⟨f0, f1, f2, -, -, -⟩ := row_facts3 h2
  obtain ⟨z0, z1, z2, z3, z4⟩ := row_facts5 h3
  have y0 := h3.free 0
  have y1 := h3.free 1
  have y2 := h3.free 2
  have y3 := h3.free 3
  have y4 := h3.free 4
  clear hW hx h1 h2 h3 c1 c1p c2 c3 c4 c5 c6 c7 c8 hra hrb hn1 hn2 hr hr2 hs hs2 hd hd2 ht ht2 hu1 hu2 hA hw1 hw2 ha1 ha2 hm hm2 hrn hrn2
  go_enter Tryz.func60, Tryz.ntmps60
  go_upto_region 1 with fail
  rw [HW.out]
  go_upto_region 5 with fail
  go_quiet (fail)
  go_wp2
  refine bodyPost_ret (v := .agg #[.int .i64 (s + 1), .int .i64 (r + t * di), .int .i64 (u * mu), .int .i64 (u * ad + a * di), .int .i64 (m * di)]) (by simp [results, Tryz.results60, go_sem, z0, z1, z2, z3, z4]) rfl ⟨rfl, ?_⟩
  exact (((((HX.out.drewN _).set' (by show _ ≤ w.heap.size + 1 + 1; omega) _).set' (by show _ ≤ w.heap.size + 1 + 1; omega) _).set' (by show _ ≤ w.heap.size + 1 + 1; omega) _).set' (by show _ ≤ w.heap.size + 1 + 1; omega) _).set' (by show _ ≤ w.heap.size + 1 + 1; omega) _
end Go.Proofs.YtimokpcopeldfaaGreatDoor
/- package sieve: fall -/
namespace Go.Proofs.YtimokpcopeldfaaGreatDoor
open Go.RowKit
/-- a fall -/
def FaV (s r : Int) (su sa sd sb : ByteArray) : Value := .agg #[.int .i64 s, .int .i64 r, .string su, .string sa, .string sd, .string sb]
theorem floor_s (a b q : Int) (w : World) (hq : Hid (a / b = q)) (hb : 0 < b) (h0 : -9223372036854775808 < a) (h1 : a ≤ 9223372036854775807) (h2 : b ≤ 9223372036854775807) :
    Calls Tryz.prog 99 #[.int .i64 a, .int .i64 b] w (fun e w' => e = .returned (.int .i64 q) ∧ Ext w w') := by
  rw [← hq.out]; exact floor_any a b w hb h0 h1 h2
set_option maxRecDepth 100000 in
set_option maxHeartbeats 6400000 in
theorem fall_l (s r mu ad di q : Int) (su sa sd sb : ByteArray) (w : World) (ht : Tab w) (h0 : mu < di) (hu : Hid (0 ≤ mu ∧ di ≤ 786432)) (hA : Hid (ad.natAbs ≤ 9000000000000000000)) (hq : Hid (ad / (di - mu) = q))
    (Hsu : Hid (Str (K.txt mu) = su)) (Hsa : Hid (Str (K.txt ad) = sa)) (Hsd : Hid (Str (K.txt di) = sd)) (Hsb : Hid (Str (K.txt q) = sb)) :
    Calls Tryz.prog 57 #[PlV s r mu ad di] w (fun e w' => e = .returned (FaV s r su sa sd sb) ∧ Ext w w') := by
  have hqB : q.natAbs ≤ 9000000000000000000 := by
    rw [← hq.out]; exact Nat.le_trans (Int.natAbs_ediv_le_natAbs _ _) hA.out
  have HQB := hid hqB
  have W1 : IntKind.i64.wrap (di - mu) = di - mu := IntWalk.i64_in _ (by have := hu.out; omega)
  have B1 := hid (show -9223372036854775808 ≤ mu ∧ mu ≤ 9223372036854775807 by have := hu.out; omega)
  have B2 := hid (show -9223372036854775808 ≤ ad ∧ ad ≤ 9223372036854775807 by have := hA.out; omega)
  have B3 := hid (show -9223372036854775808 ≤ di ∧ di ≤ 9223372036854775807 by have := hu.out; omega)
  have B4 := hid (show -9223372036854775808 ≤ q ∧ q ≤ 9223372036854775807 by omega)
  have B5 := hid (show 0 < di - mu ∧ -9223372036854775808 < ad ∧ di - mu ≤ 9223372036854775807 by have := hu.out; have := hA.out; omega)
  unfold PlV
  have HT0 := hid ht
  have hx : Ext w ((w.alloc (.cells #[.int .i64 s, .int .i64 r, .int .i64 mu, .int .i64 ad, .int .i64 di] 91)).alloc (.cells #[.int .i64 0, .int .i64 0, .string ⟨#[]⟩, .string ⟨#[]⟩, .string ⟨#[]⟩, .string ⟨#[]⟩] 40)) := ((Ext.rfl' w).alloc' _).alloc' _
  have h1 : Row ((w.alloc (.cells #[.int .i64 s, .int .i64 r, .int .i64 mu, .int .i64 ad, .int .i64 di] 91)).alloc (.cells #[.int .i64 0, .int .i64 0, .string ⟨#[]⟩, .string ⟨#[]⟩, .string ⟨#[]⟩, .string ⟨#[]⟩] 40)) w.heap.size 91 [.int .i64 s, .int .i64 r, .int .i64 mu, .int .i64 ad, .int .i64 di] := (Row.new w _ _).alloc _
  have h2 : Row ((w.alloc (.cells #[.int .i64 s, .int .i64 r, .int .i64 mu, .int .i64 ad, .int .i64 di] 91)).alloc (.cells #[.int .i64 0, .int .i64 0, .string ⟨#[]⟩, .string ⟨#[]⟩, .string ⟨#[]⟩, .string ⟨#[]⟩] 40)) (w.heap.size + 1) 40 [.int .i64 0, .int .i64 0, .string ⟨#[]⟩, .string ⟨#[]⟩, .string ⟨#[]⟩, .string ⟨#[]⟩] := by
    have := Row.new (w.alloc (.cells #[.int .i64 s, .int .i64 r, .int .i64 mu, .int .i64 ad, .int .i64 di] 91)) 40 [.int .i64 0, .int .i64 0, .string ⟨#[]⟩, .string ⟨#[]⟩, .string ⟨#[]⟩, .string ⟨#[]⟩]
    rwa [World.size_alloc] at this
  obtain ⟨W, hW⟩ : ∃ W, ((w.alloc (.cells #[.int .i64 s, .int .i64 r, .int .i64 mu, .int .i64 ad, .int .i64 di] 91)).alloc (.cells #[.int .i64 0, .int .i64 0, .string ⟨#[]⟩, .string ⟨#[]⟩, .string ⟨#[]⟩, .string ⟨#[]⟩] 40)) = W := ⟨_, rfl⟩
  rw [hW] at hx h1 h2
  have HX := hid hx
  have HW := hid hW
  have R1 := hid h1
  have R2 := hid h2
  have HT := hid (ht.ext hx)
  have HSO : Hid (∀ W' W'', Ext W W' → Off W' W'' (w.heap.size + 1) → W''.cell? ⟨w.heap.size, 0, none⟩ = some (.int .i64 s) ∧ W''.cell? ⟨w.heap.size, 1, none⟩ = some (.int .i64 r) ∧ W''.cell? ⟨w.heap.size, 2, none⟩ = some (.int .i64 mu) ∧ W''.cell? ⟨w.heap.size, 3, none⟩ = some (.int .i64 ad) ∧ W''.cell? ⟨w.heap.size, 4, none⟩ = some (.int .i64 di)) := hid (by
    intro W' W'' e ho
    obtain ⟨p0, p1, p2, p3, p4⟩ := row_facts5 (ho.row (R1.out.ext e) (by omega))
    exact ⟨p0, p1, p2, p3, p4⟩)
  have HS : Hid (∀ W', Ext W W' → W'.cell? ⟨w.heap.size, 0, none⟩ = some (.int .i64 s) ∧ W'.cell? ⟨w.heap.size, 1, none⟩ = some (.int .i64 r) ∧ W'.cell? ⟨w.heap.size, 2, none⟩ = some (.int .i64 mu) ∧ W'.cell? ⟨w.heap.size, 3, none⟩ = some (.int .i64 ad) ∧ W'.cell? ⟨w.heap.size, 4, none⟩ = some (.int .i64 di)) := hid fun W' e => HSO.out W' W' e (Off.rfl' _ _)
  clear hW hx h1 h2 hqB ht h0
  go_enter Tryz.func57, Tryz.ntmps57
  have hcur : Ext W W := Ext.rfl' _
  go_upto_region 1 with fail
  rw [HW.out]
  go_region_held3 (fun W' => W'.cell? ⟨w.heap.size, 0, none⟩ = some (.int .i64 s) ∧ W'.cell? ⟨w.heap.size, 1, none⟩ = some (.int .i64 r) ∧ W'.cell? ⟨w.heap.size, 2, none⟩ = some (.int .i64 mu) ∧ W'.cell? ⟨w.heap.size, 3, none⟩ = some (.int .i64 ad) ∧ W'.cell? ⟨w.heap.size, 4, none⟩ = some (.int .i64 di))
    (first | (with_reducible exact HS.out _ hcur) | (with_reducible exact HS.out _ hcur.drew') | (with_reducible exact HSO.out _ _ hcur (((((((Off.rfl' _ _).set _ _).set _ _).set _ _).set _ _).set _ _).set _ _)) | go_keep)
    (first
      | (go_at_call_of 98 (Value.int IntKind.i64 (mu)); refine (decimal_s (mu) _ _ Hsu B1.out.1 B1.out.2 (HT.out.ext ?_)).mono ?_; (first | exact hcur | exact hcur.drew' | exact hcur.alloc' _ | exact hcur.drew'.alloc' _ | exact (hcur.alloc' _).drew'); rintro e w20 ⟨rfl, hx⟩; have hcur := Ext.step hcur (by first | exact hx | exact Ext.undrew hx | exact Ext.step ((Ext.rfl' _).alloc' _) hx | exact Ext.step ((Ext.rfl' _).drew'.alloc' _) hx))
      | (go_at_call_of 98 (Value.int IntKind.i64 (ad)); refine (decimal_s (ad) _ _ Hsa B2.out.1 B2.out.2 (HT.out.ext ?_)).mono ?_; (first | exact hcur | exact hcur.drew' | exact hcur.alloc' _ | exact hcur.drew'.alloc' _ | exact (hcur.alloc' _).drew'); rintro e w21 ⟨rfl, hx⟩; have hcur := Ext.step hcur (by first | exact hx | exact Ext.undrew hx | exact Ext.step ((Ext.rfl' _).alloc' _) hx | exact Ext.step ((Ext.rfl' _).drew'.alloc' _) hx))
      | (go_at_call_of 98 (Value.int IntKind.i64 (di)); refine (decimal_s (di) _ _ Hsd B3.out.1 B3.out.2 (HT.out.ext ?_)).mono ?_; (first | exact hcur | exact hcur.drew' | exact hcur.alloc' _ | exact hcur.drew'.alloc' _ | exact (hcur.alloc' _).drew'); rintro e w22 ⟨rfl, hx⟩; have hcur := Ext.step hcur (by first | exact hx | exact Ext.undrew hx | exact Ext.step ((Ext.rfl' _).alloc' _) hx | exact Ext.step ((Ext.rfl' _).drew'.alloc' _) hx))
      | (go_at_call 99; refine (floor_s ad (di - mu) q _ hq B5.out.1 B5.out.2.1 B2.out.2 B5.out.2.2).mono ?_; rintro e w23 ⟨rfl, hx⟩; have hcur := Ext.step hcur (by first | exact hx | exact Ext.undrew hx | exact Ext.step ((Ext.rfl' _).alloc' _) hx | exact Ext.step ((Ext.rfl' _).drew'.alloc' _) hx))
      | (go_at_call_of 98 (Value.int IntKind.i64 (q)); refine (decimal_s (q) _ _ Hsb B4.out.1 B4.out.2 (HT.out.ext ?_)).mono ?_; (first | exact hcur | exact hcur.drew' | exact hcur.alloc' _ | exact hcur.drew'.alloc' _ | exact (hcur.alloc' _).drew'); rintro e w24 ⟨rfl, hx⟩; have hcur := Ext.step hcur (by first | exact hx | exact Ext.undrew hx | exact Ext.step ((Ext.rfl' _).alloc' _) hx | exact Ext.step ((Ext.rfl' _).drew'.alloc' _) hx); (have hyy := row_facts6 (R2.out.ext hcur); obtain ⟨⟨y0, y1, y2, y3, y4, y5⟩, z0, z1, z2, z3, z4, z5⟩ := hyy)))
  all_goals
    have HF := hid ((HX.out.step hcur).set6 (H := w.heap.size + 1) (a := .int .i64 s) (b := .int .i64 r) (c := .string su) (d := .string sa) (e := .string sd) (f := .string sb) (by omega))
    go_wp2
    refine bodyPost_ret (v := .agg #[.int .i64 s, .int .i64 r, .string su, .string sa, .string sd, .string sb]) (by simp [results, Tryz.results57, go_sem, y0, y1, y2, y3, y4, y5]) rfl ⟨rfl, HF.out⟩
end Go.Proofs.YtimokpcopeldfaaGreatDoor
/- package sieve: the keys of the sorts -/
namespace Go.Proofs.YtimokpcopeldfaaGreatDoor
open Go.RowKit
set_option maxRecDepth 100000 in
set_option maxHeartbeats 800000 in
theorem key_steps (s r : Int) (su sa sd sb : ByteArray) (w : World) : Calls Tryz.prog 63 #[FaV s r su sa sd sb] w (fun e w' => e = .returned (.int .i64 s) ∧ w' = w.alloc (.cells #[.int .i64 s, .int .i64 r, .string su, .string sa, .string sd, .string sb] 40)) := by
  have hr : Row (w.alloc (.cells #[.int .i64 s, .int .i64 r, .string su, .string sa, .string sd, .string sb] 40)) w.heap.size 40 [.int .i64 s, .int .i64 r, .string su, .string sa, .string sd, .string sb] := Row.new w _ _
  obtain ⟨⟨y0, y1, y2, y3, y4, y5⟩, -⟩ := row_facts6 hr
  unfold FaV
  clear hr
  go_enter Tryz.func63, Tryz.ntmps63
  go_wp2
  go_ret
  exact ⟨rfl, rfl⟩
set_option maxRecDepth 100000 in
set_option maxHeartbeats 800000 in
theorem key_rest (s r : Int) (su sa sd sb : ByteArray) (w : World) : Calls Tryz.prog 64 #[FaV s r su sa sd sb] w (fun e w' => e = .returned (.int .i64 r) ∧ w' = w.alloc (.cells #[.int .i64 s, .int .i64 r, .string su, .string sa, .string sd, .string sb] 40)) := by
  have hr : Row (w.alloc (.cells #[.int .i64 s, .int .i64 r, .string su, .string sa, .string sd, .string sb] 40)) w.heap.size 40 [.int .i64 s, .int .i64 r, .string su, .string sa, .string sd, .string sb] := Row.new w _ _
  obtain ⟨⟨y0, y1, y2, y3, y4, y5⟩, -⟩ := row_facts6 hr
  unfold FaV
  clear hr
  go_enter Tryz.func64, Tryz.ntmps64
  go_wp2
  go_ret
  exact ⟨rfl, rfl⟩
set_option maxRecDepth 100000 in
set_option maxHeartbeats 800000 in
theorem key_int (x : Int) (w : World) : Calls Tryz.prog 66 #[.int .i64 x] w (fun e w' => e = .returned (.int .i64 x) ∧ w' = w) := by
  go_enter Tryz.func66, Tryz.ntmps66
  go_wp2
  go_ret
  exact ⟨rfl, rfl⟩
end Go.Proofs.YtimokpcopeldfaaGreatDoor
/- Contracts of the library, laid over this dump's numbers. -/
namespace Go.Proofs.YtimokpcopeldfaaGreatDoor.ShelfC
open Go.Shelf Go.Proofs
def l_lays122_ren : Go.Shelf.Ren := ⟨fun | 122 => 102 | 215 => 128 | n => n, fun | 3 => 3 | 4 => 4 | n => n, fun | n => n⟩
theorem l_lays122 : Go.Proofs.Lays.n122 Tryz.prog l_lays122_ren := {
  mixed := by kernel_rfl
  f122 := Tryz.func102.trans (congrArg some (by kernel_rfl))
  f215 := Tryz.func128.trans (congrArg some (by kernel_rfl))
  t3 := Tryz.underlying3
  a3 := Tryz.isAgg3
  z3 := Tryz.sizeOf3
  v3 := Tryz.zeroValue3
  t4 := Tryz.underlying4
  a4 := Tryz.isAgg4
  z4 := Tryz.sizeOf4
  v4 := Tryz.zeroValue4 }
open Go.RowKit in
theorem l_cmp_Compare_int (x y : Int) (w : World) :
    Calls Tryz.prog 102 #[.int .i64 x, .int .i64 y] w fun e w' => e = .returned (.int .i64 (Lib.compareInt x y)) ∧ w' = w := Any.cmp_Compare_int l_lays122 x y w
def l_laysSlF06_f103_ren : Go.Shelf.Ren := ⟨fun | 6 => 103 | 15 => 127 | 14 => 129 | 28 => 156 | 29 => 157 | 20 => 158 | 21 => 159 | 22 => 160 | 23 => 161 | 24 => 162 | 25 => 163 | 26 => 164 | 27 => 165 | 46 => 187 | 47 => 183 | 48 => 184 | 49 => 188 | 50 => 189 | 57 => 205 | n => n, fun | 22 => 22 | 24 => 3 | 25 => 80 | 3 => 3 | 39 => 172 | 0 => 0 | 53 => 195 | 55 => 151 | 4 => 4 | 46 => 188 | 45 => 187 | 50 => 192 | 5 => 5 | 9 => 9 | 66 => 218 | 70 => 222 | 76 => 236 | 77 => 237 | n => n, fun | n => n⟩
theorem l_laysSlF06_f103 : Go.Proofs.SlLaysF0.n6 Tryz.prog l_laysSlF06_f103_ren := {
  mixed := by kernel_rfl
  f6 := ⟨Tryz.f103.name, by decide, Tryz.func103.trans (congrArg some (by kernel_rfl))⟩
  f14 := ⟨Tryz.f129.name, by decide, Tryz.func129.trans (congrArg some (by kernel_rfl))⟩
  f15 := Tryz.func127.trans (congrArg some (by kernel_rfl))
  f20 := ⟨Tryz.f158.name, by decide, Tryz.func158.trans (congrArg some (by kernel_rfl))⟩
  f21 := ⟨Tryz.f159.name, by decide, Tryz.func159.trans (congrArg some (by kernel_rfl))⟩
  f22 := ⟨Tryz.f160.name, by decide, Tryz.func160.trans (congrArg some (by kernel_rfl))⟩
  f23 := ⟨Tryz.f161.name, by decide, Tryz.func161.trans (congrArg some (by kernel_rfl))⟩
  f24 := ⟨Tryz.f162.name, by decide, Tryz.func162.trans (congrArg some (by kernel_rfl))⟩
  f25 := ⟨Tryz.f163.name, by decide, Tryz.func163.trans (congrArg some (by kernel_rfl))⟩
  f26 := ⟨Tryz.f164.name, by decide, Tryz.func164.trans (congrArg some (by kernel_rfl))⟩
  f27 := ⟨Tryz.f165.name, by decide, Tryz.func165.trans (congrArg some (by kernel_rfl))⟩
  f28 := Tryz.func156.trans (congrArg some (by kernel_rfl))
  f29 := Tryz.func157.trans (congrArg some (by kernel_rfl))
  f46 := ⟨Tryz.f187.name, by decide, Tryz.func187.trans (congrArg some (by kernel_rfl))⟩
  f47 := Tryz.func183.trans (congrArg some (by kernel_rfl))
  f48 := Tryz.func184.trans (congrArg some (by kernel_rfl))
  f49 := ⟨Tryz.f188.name, by decide, Tryz.func188.trans (congrArg some (by kernel_rfl))⟩
  f50 := ⟨Tryz.f189.name, by decide, Tryz.func189.trans (congrArg some (by kernel_rfl))⟩
  f57 := ⟨Tryz.f205.name, by decide, Tryz.func205.trans (congrArg some (by kernel_rfl))⟩
  t0 := Tryz.underlying0
  a0 := Tryz.isAgg0
  z0 := Tryz.sizeOf0
  v0 := Tryz.zeroValue0
  t3 := Tryz.underlying3
  a3 := Tryz.isAgg3
  z3 := Tryz.sizeOf3
  v3 := Tryz.zeroValue3
  t4 := Tryz.underlying4
  a4 := Tryz.isAgg4
  z4 := Tryz.sizeOf4
  v4 := Tryz.zeroValue4
  t5 := Tryz.underlying5
  a5 := Tryz.isAgg5
  z5 := Tryz.sizeOf5
  v5 := Tryz.zeroValue5
  t9 := Tryz.underlying9
  a9 := Tryz.isAgg9
  z9 := Tryz.sizeOf9
  v9 := Tryz.zeroValue9
  t22 := Tryz.underlying22
  a22 := Tryz.isAgg22
  z22 := Tryz.sizeOf22
  v22 := Tryz.zeroValue22
  t25 := Tryz.underlying80
  a25 := Tryz.isAgg80
  z25 := Tryz.sizeOf80
  v25 := Tryz.zeroValue80
  t39 := Tryz.underlying172
  a39 := Tryz.isAgg172
  z39 := Tryz.sizeOf172
  v39 := Tryz.zeroValue172
  t45 := Tryz.underlying187
  a45 := Tryz.isAgg187
  z45 := Tryz.sizeOf187
  v45 := Tryz.zeroValue187
  t46 := Tryz.underlying188
  a46 := Tryz.isAgg188
  z46 := Tryz.sizeOf188
  v46 := Tryz.zeroValue188
  t50 := Tryz.underlying192
  a50 := Tryz.isAgg192
  z50 := Tryz.sizeOf192
  v50 := Tryz.zeroValue192
  t53 := Tryz.underlying195
  a53 := Tryz.isAgg195
  z53 := Tryz.sizeOf195
  v53 := Tryz.zeroValue195
  t55 := Tryz.underlying151
  a55 := Tryz.isAgg151
  z55 := Tryz.sizeOf151
  v55 := Tryz.zeroValue151
  t66 := Tryz.underlying218
  a66 := Tryz.isAgg218
  z66 := Tryz.sizeOf218
  v66 := Tryz.zeroValue218
  t70 := Tryz.underlying222
  a70 := Tryz.isAgg222
  z70 := Tryz.sizeOf222
  v70 := Tryz.zeroValue222
  t76 := Tryz.underlying236
  a76 := Tryz.isAgg236
  z76 := Tryz.sizeOf236
  v76 := Tryz.zeroValue236
  t77 := Tryz.underlying237
  a77 := Tryz.isAgg237
  z77 := Tryz.sizeOf237
  v77 := Tryz.zeroValue237 }
open Go.RowKit Go.Lib Go.Sort in
theorem l_slices_SortFunc_none {α : Type} [Inhabited α] (p : Option Addr) (cap : Nat) (fv : Value) (w : World) :
    Calls Tryz.prog 103 #[.slice p 0 cap, fv] w fun e w' => e = .returned (.tuple #[]) ∧ w' = w := AnyF.slices_SortFunc_none l_laysSlF06_f103 p cap fv w
def l_laysSlF6_f103_ren : Go.Shelf.Ren := ⟨fun | 6 => 103 | 15 => 127 | 14 => 129 | 28 => 156 | 29 => 157 | 20 => 158 | 21 => 159 | 22 => 160 | 23 => 161 | 24 => 162 | 25 => 163 | 26 => 164 | 27 => 165 | 46 => 187 | 47 => 183 | 48 => 184 | 49 => 188 | 50 => 189 | 57 => 205 | n => n, fun | 22 => 22 | 24 => 3 | 25 => 80 | 3 => 3 | 39 => 172 | 0 => 0 | 53 => 195 | 55 => 151 | 4 => 4 | 46 => 188 | 45 => 187 | 50 => 192 | 5 => 5 | 9 => 9 | 66 => 218 | 70 => 222 | 76 => 236 | 77 => 237 | n => n, fun | n => n⟩
theorem l_laysSlF6_f103 : Go.Proofs.SlLaysF.n6 Tryz.prog l_laysSlF6_f103_ren := {
  mixed := by kernel_rfl
  f6 := ⟨Tryz.f103.name, by decide, Tryz.func103.trans (congrArg some (by kernel_rfl))⟩
  f14 := ⟨Tryz.f129.name, by decide, Tryz.func129.trans (congrArg some (by kernel_rfl))⟩
  f15 := Tryz.func127.trans (congrArg some (by kernel_rfl))
  f20 := ⟨Tryz.f158.name, by decide, Tryz.func158.trans (congrArg some (by kernel_rfl))⟩
  f21 := ⟨Tryz.f159.name, by decide, Tryz.func159.trans (congrArg some (by kernel_rfl))⟩
  f22 := ⟨Tryz.f160.name, by decide, Tryz.func160.trans (congrArg some (by kernel_rfl))⟩
  f23 := ⟨Tryz.f161.name, by decide, Tryz.func161.trans (congrArg some (by kernel_rfl))⟩
  f24 := ⟨Tryz.f162.name, by decide, Tryz.func162.trans (congrArg some (by kernel_rfl))⟩
  f25 := ⟨Tryz.f163.name, by decide, Tryz.func163.trans (congrArg some (by kernel_rfl))⟩
  f26 := ⟨Tryz.f164.name, by decide, Tryz.func164.trans (congrArg some (by kernel_rfl))⟩
  f27 := ⟨Tryz.f165.name, by decide, Tryz.func165.trans (congrArg some (by kernel_rfl))⟩
  f28 := Tryz.func156.trans (congrArg some (by kernel_rfl))
  f29 := Tryz.func157.trans (congrArg some (by kernel_rfl))
  f46 := ⟨Tryz.f187.name, by decide, Tryz.func187.trans (congrArg some (by kernel_rfl))⟩
  f47 := Tryz.func183.trans (congrArg some (by kernel_rfl))
  f48 := Tryz.func184.trans (congrArg some (by kernel_rfl))
  f49 := ⟨Tryz.f188.name, by decide, Tryz.func188.trans (congrArg some (by kernel_rfl))⟩
  f50 := ⟨Tryz.f189.name, by decide, Tryz.func189.trans (congrArg some (by kernel_rfl))⟩
  f57 := ⟨Tryz.f205.name, by decide, Tryz.func205.trans (congrArg some (by kernel_rfl))⟩
  t0 := Tryz.underlying0
  a0 := Tryz.isAgg0
  z0 := Tryz.sizeOf0
  v0 := Tryz.zeroValue0
  t3 := Tryz.underlying3
  a3 := Tryz.isAgg3
  z3 := Tryz.sizeOf3
  v3 := Tryz.zeroValue3
  t4 := Tryz.underlying4
  a4 := Tryz.isAgg4
  z4 := Tryz.sizeOf4
  v4 := Tryz.zeroValue4
  t5 := Tryz.underlying5
  a5 := Tryz.isAgg5
  z5 := Tryz.sizeOf5
  v5 := Tryz.zeroValue5
  t9 := Tryz.underlying9
  a9 := Tryz.isAgg9
  z9 := Tryz.sizeOf9
  v9 := Tryz.zeroValue9
  t22 := Tryz.underlying22
  a22 := Tryz.isAgg22
  z22 := Tryz.sizeOf22
  v22 := Tryz.zeroValue22
  a24 := Tryz.isAgg3
  z24 := Tryz.sizeOf3
  t25 := Tryz.underlying80
  a25 := Tryz.isAgg80
  z25 := Tryz.sizeOf80
  v25 := Tryz.zeroValue80
  t39 := Tryz.underlying172
  a39 := Tryz.isAgg172
  z39 := Tryz.sizeOf172
  v39 := Tryz.zeroValue172
  t45 := Tryz.underlying187
  a45 := Tryz.isAgg187
  z45 := Tryz.sizeOf187
  v45 := Tryz.zeroValue187
  t46 := Tryz.underlying188
  a46 := Tryz.isAgg188
  z46 := Tryz.sizeOf188
  v46 := Tryz.zeroValue188
  t50 := Tryz.underlying192
  a50 := Tryz.isAgg192
  z50 := Tryz.sizeOf192
  v50 := Tryz.zeroValue192
  t53 := Tryz.underlying195
  a53 := Tryz.isAgg195
  z53 := Tryz.sizeOf195
  v53 := Tryz.zeroValue195
  t55 := Tryz.underlying151
  a55 := Tryz.isAgg151
  z55 := Tryz.sizeOf151
  v55 := Tryz.zeroValue151
  t66 := Tryz.underlying218
  a66 := Tryz.isAgg218
  z66 := Tryz.sizeOf218
  v66 := Tryz.zeroValue218
  t70 := Tryz.underlying222
  a70 := Tryz.isAgg222
  z70 := Tryz.sizeOf222
  v70 := Tryz.zeroValue222
  t76 := Tryz.underlying236
  a76 := Tryz.isAgg236
  z76 := Tryz.sizeOf236
  v76 := Tryz.zeroValue236
  t77 := Tryz.underlying237
  a77 := Tryz.isAgg237
  z77 := Tryz.sizeOf237
  v77 := Tryz.zeroValue237 }
open Go.RowKit Go.Lib Go.Sort in
theorem l_slices_SortFunc_total {α : Type} [Inhabited α] (enc : α → Value) (h1 : OneCell enc) (cf : α → α → Int) (hO : SWO (ltOf cf)) (g : Nat) (cb : Array Value) (blk off cap : Nat) (d : Array α) (w : World) (eg : ∀ args w, (callFunc g args).run Tryz.prog w = .ok (.enter g args) w) (hcmp : CmpLays1 Tryz.prog g cb enc cf blk off d.size w) (hH : Holds enc w blk off d) (hblk : blk < w.heap.size) (hsz : d.size < 4611686018427387904) (hT : ∀ x y, (ltOf cf) x y = false → (ltOf cf) y x = false → x = y) :
    Calls Tryz.prog 103 #[.slice (some ⟨blk, off, none⟩) d.size cap, .func (.func g) #[] cb] w fun e w' =>
      e = .returned (.tuple #[]) ∧ ∃ n os, w' = sortWorld enc w blk off n (d.toList.mergeSort fun x y => !(ltOf cf) y x).toArray os := Any.slices_SortFunc_total l_laysSlF6_f103 enc h1 cf hO g cb blk off cap d w eg hcmp hH hblk hsz hT
def l_laysFall_ren : Go.Shelf.Ren := ⟨fun | 6 => 100 | 15 => 127 | 14 => 126 | 28 => 156 | 29 => 157 | 20 => 148 | 21 => 149 | 22 => 150 | 23 => 151 | 24 => 152 | 25 => 153 | 26 => 154 | 27 => 155 | 46 => 182 | 47 => 183 | 48 => 184 | 49 => 185 | 50 => 186 | 57 => 204 | n => n, fun | 22 => 26 | 24 => 40 | 25 => 142 | 3 => 3 | 39 => 172 | 0 => 0 | 53 => 195 | 55 => 151 | 4 => 4 | 46 => 188 | 45 => 187 | 50 => 192 | 5 => 5 | 9 => 9 | 66 => 218 | 70 => 222 | 76 => 236 | 77 => 237 | n => n, fun | n => n⟩
theorem l_laysFall : Go.Proofs.SlLaysF0.n6 Tryz.prog l_laysFall_ren := {
  mixed := by kernel_rfl
  f6 := ⟨Tryz.f100.name, by decide, Tryz.func100.trans (congrArg some (by kernel_rfl))⟩
  f14 := ⟨Tryz.f126.name, by decide, Tryz.func126.trans (congrArg some (by kernel_rfl))⟩
  f15 := Tryz.func127.trans (congrArg some (by kernel_rfl))
  f20 := ⟨Tryz.f148.name, by decide, Tryz.func148.trans (congrArg some (by kernel_rfl))⟩
  f21 := ⟨Tryz.f149.name, by decide, Tryz.func149.trans (congrArg some (by kernel_rfl))⟩
  f22 := ⟨Tryz.f150.name, by decide, Tryz.func150.trans (congrArg some (by kernel_rfl))⟩
  f23 := ⟨Tryz.f151.name, by decide, Tryz.func151.trans (congrArg some (by kernel_rfl))⟩
  f24 := ⟨Tryz.f152.name, by decide, Tryz.func152.trans (congrArg some (by kernel_rfl))⟩
  f25 := ⟨Tryz.f153.name, by decide, Tryz.func153.trans (congrArg some (by kernel_rfl))⟩
  f26 := ⟨Tryz.f154.name, by decide, Tryz.func154.trans (congrArg some (by kernel_rfl))⟩
  f27 := ⟨Tryz.f155.name, by decide, Tryz.func155.trans (congrArg some (by kernel_rfl))⟩
  f28 := Tryz.func156.trans (congrArg some (by kernel_rfl))
  f29 := Tryz.func157.trans (congrArg some (by kernel_rfl))
  f46 := ⟨Tryz.f182.name, by decide, Tryz.func182.trans (congrArg some (by kernel_rfl))⟩
  f47 := Tryz.func183.trans (congrArg some (by kernel_rfl))
  f48 := Tryz.func184.trans (congrArg some (by kernel_rfl))
  f49 := ⟨Tryz.f185.name, by decide, Tryz.func185.trans (congrArg some (by kernel_rfl))⟩
  f50 := ⟨Tryz.f186.name, by decide, Tryz.func186.trans (congrArg some (by kernel_rfl))⟩
  f57 := ⟨Tryz.f204.name, by decide, Tryz.func204.trans (congrArg some (by kernel_rfl))⟩
  t0 := Tryz.underlying0
  a0 := Tryz.isAgg0
  z0 := Tryz.sizeOf0
  v0 := Tryz.zeroValue0
  t3 := Tryz.underlying3
  a3 := Tryz.isAgg3
  z3 := Tryz.sizeOf3
  v3 := Tryz.zeroValue3
  t4 := Tryz.underlying4
  a4 := Tryz.isAgg4
  z4 := Tryz.sizeOf4
  v4 := Tryz.zeroValue4
  t5 := Tryz.underlying5
  a5 := Tryz.isAgg5
  z5 := Tryz.sizeOf5
  v5 := Tryz.zeroValue5
  t9 := Tryz.underlying9
  a9 := Tryz.isAgg9
  z9 := Tryz.sizeOf9
  v9 := Tryz.zeroValue9
  t22 := Tryz.underlying26
  a22 := Tryz.isAgg26
  z22 := Tryz.sizeOf26
  v22 := Tryz.zeroValue26
  t25 := Tryz.underlying142
  a25 := Tryz.isAgg142
  z25 := Tryz.sizeOf142
  v25 := Tryz.zeroValue142
  t39 := Tryz.underlying172
  a39 := Tryz.isAgg172
  z39 := Tryz.sizeOf172
  v39 := Tryz.zeroValue172
  t45 := Tryz.underlying187
  a45 := Tryz.isAgg187
  z45 := Tryz.sizeOf187
  v45 := Tryz.zeroValue187
  t46 := Tryz.underlying188
  a46 := Tryz.isAgg188
  z46 := Tryz.sizeOf188
  v46 := Tryz.zeroValue188
  t50 := Tryz.underlying192
  a50 := Tryz.isAgg192
  z50 := Tryz.sizeOf192
  v50 := Tryz.zeroValue192
  t53 := Tryz.underlying195
  a53 := Tryz.isAgg195
  z53 := Tryz.sizeOf195
  v53 := Tryz.zeroValue195
  t55 := Tryz.underlying151
  a55 := Tryz.isAgg151
  z55 := Tryz.sizeOf151
  v55 := Tryz.zeroValue151
  t66 := Tryz.underlying218
  a66 := Tryz.isAgg218
  z66 := Tryz.sizeOf218
  v66 := Tryz.zeroValue218
  t70 := Tryz.underlying222
  a70 := Tryz.isAgg222
  z70 := Tryz.sizeOf222
  v70 := Tryz.zeroValue222
  t76 := Tryz.underlying236
  a76 := Tryz.isAgg236
  z76 := Tryz.sizeOf236
  v76 := Tryz.zeroValue236
  t77 := Tryz.underlying237
  a77 := Tryz.isAgg237
  z77 := Tryz.sizeOf237
  v77 := Tryz.zeroValue237 }
open Go.RowKit Go.Lib Go.Sort in
theorem l_sortFall_none {α : Type} [Inhabited α] (p : Option Addr) (cap : Nat) (fv : Value) (w : World) :
    Calls Tryz.prog 100 #[.slice p 0 cap, fv] w fun e w' => e = .returned (.tuple #[]) ∧ w' = w := AnyF.slices_SortFunc_none l_laysFall p cap fv w
open Go.RowKit Go.Lib Go.Sort in
theorem l_sortFall_total {α : Type} [Inhabited α] (k : Nat) (aE : ∀ w, (isAgg 40).run Tryz.prog w = .ok true w) (zE : ∀ w, (Go.sizeOf 40).run Tryz.prog w = .ok k w) (enc : α → List Value) (hk : ∀ x, (enc x).length = k) (h1 : ∀ x, ∀ v ∈ enc x, v.oneCell' = true) (cf : α → α → Int) (hO : SWO (ltOf cf)) (g : Nat) (cb : Array Value) (blk off cap : Nat) (d : Array α) (w : World)
    (eg : ∀ args w, (callFunc g args).run Tryz.prog w = .ok (.enter g args) w) (hcmp : CmpLays Tryz.prog g cb enc k cf blk off d.size w) (hH : HoldsK enc k w blk off d) (hblk : blk < w.heap.size) (hsz : d.size < 4611686018427387904) (hT : ∀ x y, (ltOf cf) x y = false → (ltOf cf) y x = false → x = y) :
    Calls Tryz.prog 100 #[.slice (some ⟨blk, off, none⟩) d.size cap, .func (.func g) #[] cb] w fun e w' =>
      e = .returned (.tuple #[]) ∧ ∃ n os, w' = sortWorldK enc k w blk off n (d.toList.mergeSort fun x y => !(ltOf cf) y x).toArray os := AnyQ.slices_SortFunc_total l_laysFall k aE zE enc hk h1 cf hO g cb blk off cap d w eg hcmp hH hblk hsz hT
end Go.Proofs.YtimokpcopeldfaaGreatDoor.ShelfC
/- package sieve: the comparers of the sorts -/
namespace Go.Proofs.YtimokpcopeldfaaGreatDoor
open Go.RowKit Go.Sort
/-- a world with draws and new blocks behind it: nothing else -/
def Grw (w w' : World) : Prop := ∃ (q : Nat) (os : Array Obj), w' = grow (w.drewN q) os
theorem Grw.rfl' (w : World) : Grw w w := ⟨0, #[], by rw [grow_empty]; rfl⟩
theorem Grw.drewN {w w1 : World} (h : Grw w w1) (n : Nat) : Grw w (w1.drewN n) := by
  obtain ⟨q, os, rfl⟩ := h
  exact ⟨q + n, os, by rw [← World.drewN_drewN]; rfl⟩
theorem Grw.drew {w w1 : World} (h : Grw w w1) : Grw w w1.drew := h.drewN 1
theorem Grw.alloc {w w1 : World} (h : Grw w w1) (o : Obj) : Grw w (w1.alloc o) := by
  obtain ⟨q, os, rfl⟩ := h
  exact ⟨q, os ++ #[o], by rw [alloc_eq_grow, grow_grow]⟩
theorem Grw.trans {a b c : World} (h : Grw a b) (k : Grw b c) : Grw a c := by
  obtain ⟨q, os, rfl⟩ := h
  obtain ⟨q2, os2, rfl⟩ := k
  refine ⟨q + q2, os ++ os2, ?_⟩
  rw [← grow_grow, ← World.drewN_drewN]
  rfl
theorem Grw.ext {w w' : World} (h : Grw w w') : Ext w w' := by
  obtain ⟨q, os, rfl⟩ := h
  exact ⟨rfl, rfl, rfl, by rw [size_grow]; exact Nat.le_add_right _ _, fun k hk => heap_grow_old (w.drewN q) os hk⟩
theorem cmp_same (x : Int) : Lib.compareInt x x = 0 := by unfold Lib.compareInt; rw [if_neg (by omega), if_neg (by omega)]
theorem cmp_ne {x y : Int} (h : ¬ x = y) : ¬ Lib.compareInt x y = 0 := by
  unfold Lib.compareInt
  split
  · omega
  · split <;> omega
theorem cmp_c (x y : Int) (w : World) {c : Int} (hc : Hid (Lib.compareInt x y = c)) : Calls Tryz.prog 102 #[.int .i64 x, .int .i64 y] w (fun e w' => e = .returned (.int .i64 c) ∧ w' = w) := by
  rw [← hc.out]; exact ShelfC.l_cmp_Compare_int x y w
theorem cmp_g (x y : Int) (w : World) {c : Int} (hc : Hid (Lib.compareInt x y = c)) : Calls Tryz.prog 102 #[.int .i64 x, .int .i64 y] w (fun e w' => e = .returned (.int .i64 c) ∧ Grw w w') :=
  (cmp_c x y w hc).mono fun e w' h => ⟨h.1, by rw [h.2]; exact Grw.rfl' _⟩
theorem key_stepsG (s r : Int) (su sa sd sb : ByteArray) (w : World) : Calls Tryz.prog 63 #[.agg #[.int .i64 s, .int .i64 r, .string su, .string sa, .string sd, .string sb]] w (fun e w' => e = .returned (.int .i64 s) ∧ Grw w w') :=
  (key_steps s r su sa sd sb w).mono fun e w' h => ⟨h.1, by rw [h.2]; exact (Grw.rfl' _).alloc _⟩
theorem key_restG (s r : Int) (su sa sd sb : ByteArray) (w : World) : Calls Tryz.prog 64 #[.agg #[.int .i64 s, .int .i64 r, .string su, .string sa, .string sd, .string sb]] w (fun e w' => e = .returned (.int .i64 r) ∧ Grw w w') :=
  (key_rest s r su sa sd sb w).mono fun e w' h => ⟨h.1, by rw [h.2]; exact (Grw.rfl' _).alloc _⟩
/-- by steps, then by rest -/
def cmpSR (s1 r1 s2 r2 : Int) : Int := if s1 = s2 then Lib.compareInt r1 r2 else Lib.compareInt s1 s2
set_option maxRecDepth 100000 in
set_option maxHeartbeats 6400000 in
theorem cmpFall_any (s1 r1 s2 r2 : Int) (su1 sa1 sd1 sb1 su2 sa2 sd2 sb2 : ByteArray) (HB HK : Nat) (W : World) (hb : W.cell? ⟨HB, 0, none⟩ = some (.slice (some ⟨HK, 0, none⟩) 2 2)) (h0 : W.cell? ⟨HK, 0, none⟩ = some (.func (.func 63) #[] #[])) (h1 : W.cell? ⟨HK, 1, none⟩ = some (.func (.func 64) #[] #[])) (lb : HB < W.heap.size) (lk : HK < W.heap.size) :
    Calls Tryz.prog 101 #[FaV s1 r1 su1 sa1 sd1 sb1, FaV s2 r2 su2 sa2 sd2 sb2, .pointer (some ⟨HB, 0, none⟩)] W (fun e w' => e = .returned (.int .i64 (cmpSR s1 r1 s2 r2)) ∧ Grw W w') := by
  have hg : Grw W ((W.alloc (.cells #[.int .i64 s1, .int .i64 r1, .string su1, .string sa1, .string sd1, .string sb1] 40)).alloc (.cells #[.int .i64 s2, .int .i64 r2, .string su2, .string sa2, .string sd2, .string sb2] 40)) := ((Grw.rfl' W).alloc _).alloc _
  have q1 : Row ((W.alloc (.cells #[.int .i64 s1, .int .i64 r1, .string su1, .string sa1, .string sd1, .string sb1] 40)).alloc (.cells #[.int .i64 s2, .int .i64 r2, .string su2, .string sa2, .string sd2, .string sb2] 40)) W.heap.size 40 [.int .i64 s1, .int .i64 r1, .string su1, .string sa1, .string sd1, .string sb1] := (Row.new W _ _).alloc _
  have q2 : Row ((W.alloc (.cells #[.int .i64 s1, .int .i64 r1, .string su1, .string sa1, .string sd1, .string sb1] 40)).alloc (.cells #[.int .i64 s2, .int .i64 r2, .string su2, .string sa2, .string sd2, .string sb2] 40)) (W.heap.size + 1) 40 [.int .i64 s2, .int .i64 r2, .string su2, .string sa2, .string sd2, .string sb2] := by
    have := Row.new (W.alloc (.cells #[.int .i64 s1, .int .i64 r1, .string su1, .string sa1, .string sd1, .string sb1] 40)) 40 [.int .i64 s2, .int .i64 r2, .string su2, .string sa2, .string sd2, .string sb2]
    rwa [World.size_alloc] at this
  have hcb : ((W.alloc (.cells #[.int .i64 s1, .int .i64 r1, .string su1, .string sa1, .string sd1, .string sb1] 40)).alloc (.cells #[.int .i64 s2, .int .i64 r2, .string su2, .string sa2, .string sd2, .string sb2] 40)).cell? ⟨HB, 0, none⟩ = some (.slice (some ⟨HK, 0, none⟩) 2 2) := by rw [hg.ext.cell lb, hb]
  have hc0 : ((W.alloc (.cells #[.int .i64 s1, .int .i64 r1, .string su1, .string sa1, .string sd1, .string sb1] 40)).alloc (.cells #[.int .i64 s2, .int .i64 r2, .string su2, .string sa2, .string sd2, .string sb2] 40)).cell? ⟨HK, 0, none⟩ = some (.func (.func 63) #[] #[]) := by rw [hg.ext.cell lk, h0]
  have hc1 : ((W.alloc (.cells #[.int .i64 s1, .int .i64 r1, .string su1, .string sa1, .string sd1, .string sb1] 40)).alloc (.cells #[.int .i64 s2, .int .i64 r2, .string su2, .string sa2, .string sd2, .string sb2] 40)).cell? ⟨HK, 1, none⟩ = some (.func (.func 64) #[] #[]) := by rw [hg.ext.cell lk, h1]
  have hlb : HB < ((W.alloc (.cells #[.int .i64 s1, .int .i64 r1, .string su1, .string sa1, .string sd1, .string sb1] 40)).alloc (.cells #[.int .i64 s2, .int .i64 r2, .string su2, .string sa2, .string sd2, .string sb2] 40)).heap.size := Nat.lt_of_lt_of_le lb hg.ext.size
  have hlk : HK < ((W.alloc (.cells #[.int .i64 s1, .int .i64 r1, .string su1, .string sa1, .string sd1, .string sb1] 40)).alloc (.cells #[.int .i64 s2, .int .i64 r2, .string su2, .string sa2, .string sd2, .string sb2] 40)).heap.size := Nat.lt_of_lt_of_le lk hg.ext.size
  unfold FaV
  obtain ⟨w2, hw2⟩ : ∃ w2, ((W.alloc (.cells #[.int .i64 s1, .int .i64 r1, .string su1, .string sa1, .string sd1, .string sb1] 40)).alloc (.cells #[.int .i64 s2, .int .i64 r2, .string su2, .string sa2, .string sd2, .string sb2] 40)) = w2 := ⟨_, rfl⟩
  rw [hw2] at hg q1 q2 hcb hc0 hc1 hlb hlk
  have HW2 := hid hw2
  have W0 := hid hg
  have RA := hid q1
  have RB := hid q2
  have HSC : Hid (∀ W', Grw w2 W' → W'.cell? ⟨HB, 0, none⟩ = some (.slice (some ⟨HK, 0, none⟩) 2 2) ∧ W'.cell? ⟨HK, 0, none⟩ = some (.func (.func 63) #[] #[]) ∧ W'.cell? ⟨HK, 1, none⟩ = some (.func (.func 64) #[] #[])) := hid (fun W' e => ⟨by rw [e.ext.cell hlb, hcb], by rw [e.ext.cell hlk, hc0], by rw [e.ext.cell hlk, hc1]⟩)
  clear hw2 hg q1 q2 hb h0 h1 lb lk hc0 hc1 hlb hlk
  go_enter Tryz.func101, Tryz.ntmps101
  go_upto_region 1 with fail
  rw [HW2.out]
  go_wp2_with fail
  go_loopw [11] (fun iz wr => ∃ j : Nat, j ≤ 2 ∧ iz = .int .i64 (j : Int) ∧ Hid ((1 ≤ j → s1 = s2) ∧ (2 ≤ j → r1 = r2)) ∧ Grw w2 wr) (fun iz _ => 2 - (intOf iz).toNat)
  case atStart => exact ⟨0, by omega, rfl, hid ⟨fun h => absurd h (by omega), fun h => absurd h (by omega)⟩, Grw.rfl' _⟩
  case round =>
    clear hcb
    obtain ⟨j, hj, rfl, HJ, hx⟩ := hrel
    have EX := hid hx
    obtain ⟨k0, k1, k2⟩ := HSC.out _ hx
    have HS : Hid (∀ W', Grw wr W' → W'.cell? ⟨W.heap.size, 0, none⟩ = some (.int .i64 s1) ∧ W'.cell? ⟨W.heap.size, 1, none⟩ = some (.int .i64 r1) ∧ W'.cell? ⟨W.heap.size, 2, none⟩ = some (.string su1) ∧ W'.cell? ⟨W.heap.size, 3, none⟩ = some (.string sa1) ∧ W'.cell? ⟨W.heap.size, 4, none⟩ = some (.string sd1) ∧ W'.cell? ⟨W.heap.size, 5, none⟩ = some (.string sb1) ∧ W'.cell? ⟨W.heap.size + 1, 0, none⟩ = some (.int .i64 s2) ∧ W'.cell? ⟨W.heap.size + 1, 1, none⟩ = some (.int .i64 r2) ∧ W'.cell? ⟨W.heap.size + 1, 2, none⟩ = some (.string su2) ∧ W'.cell? ⟨W.heap.size + 1, 3, none⟩ = some (.string sa2) ∧ W'.cell? ⟨W.heap.size + 1, 4, none⟩ = some (.string sd2) ∧ W'.cell? ⟨W.heap.size + 1, 5, none⟩ = some (.string sb2)) := hid (by
      intro W' e
      obtain ⟨⟨a0, a1, a2, a3, a4, a5⟩, -⟩ := row_facts6 (RA.out.ext (EX.out.trans e).ext)
      obtain ⟨⟨b0, b1, b2, b3, b4, b5⟩, -⟩ := row_facts6 (RB.out.ext (EX.out.trans e).ext)
      exact ⟨a0, a1, a2, a3, a4, a5, b0, b1, b2, b3, b4, b5⟩)
    clear hx
    match j, hj, HJ with
    | 0, hj, HJ =>
      -- key 0
      obtain ⟨c, hc⟩ : ∃ c, Lib.compareInt s1 s2 = c := ⟨_, rfl⟩
      have HC := hid hc
      have hcur : Grw wr wr := Grw.rfl' _
      clear hc
      go_upto_region 4 with fail
      go_cut [8] (fun sx wx => sx = .int .i64 c ∧ Grw wr wx)
      case first =>
        go_region_held3 (fun W' => W'.cell? ⟨W.heap.size, 0, none⟩ = some (.int .i64 s1) ∧ W'.cell? ⟨W.heap.size, 1, none⟩ = some (.int .i64 r1) ∧ W'.cell? ⟨W.heap.size, 2, none⟩ = some (.string su1) ∧ W'.cell? ⟨W.heap.size, 3, none⟩ = some (.string sa1) ∧ W'.cell? ⟨W.heap.size, 4, none⟩ = some (.string sd1) ∧ W'.cell? ⟨W.heap.size, 5, none⟩ = some (.string sb1) ∧ W'.cell? ⟨W.heap.size + 1, 0, none⟩ = some (.int .i64 s2) ∧ W'.cell? ⟨W.heap.size + 1, 1, none⟩ = some (.int .i64 r2) ∧ W'.cell? ⟨W.heap.size + 1, 2, none⟩ = some (.string su2) ∧ W'.cell? ⟨W.heap.size + 1, 3, none⟩ = some (.string sa2) ∧ W'.cell? ⟨W.heap.size + 1, 4, none⟩ = some (.string sd2) ∧ W'.cell? ⟨W.heap.size + 1, 5, none⟩ = some (.string sb2))
          (first | (with_reducible exact HS.out _ hcur) | (with_reducible exact HS.out _ hcur.drew) | go_keep)
          (first
            | (go_at_call_of 63 (Value.string su1); refine (key_stepsG s1 r1 su1 sa1 sd1 sb1 _).mono ?_; rintro e w10 ⟨rfl, hx⟩; have hcur := Grw.trans hcur (by first | exact hx | exact Grw.trans ((Grw.rfl' _).drew) hx))
            | (go_at_call_of 63 (Value.string su2); refine (key_stepsG s2 r2 su2 sa2 sd2 sb2 _).mono ?_; rintro e w20 ⟨rfl, hx⟩; have hcur := Grw.trans hcur (by first | exact hx | exact Grw.trans ((Grw.rfl' _).drew) hx))
            | (go_at_call 102; refine (cmp_g s1 s2 _ HC).mono ?_; rintro e w30 ⟨rfl, hx⟩; have hcur := Grw.trans hcur (by first | exact hx | exact Grw.trans ((Grw.rfl' _).drew) hx)))
        all_goals
          go_wp2_with fail
          go_meet
          exact ⟨rfl, hcur⟩
      case rest =>
        obtain ⟨rfl, hx⟩ := hcut
        clear hcur
        have EX2 := hid (EX.out.trans hx)
        by_cases he : s1 = s2
        · obtain rfl : c = 0 := by rw [← HC.out, he]; exact cmp_same _
          go_wp2_with fail
          go_roundw
          case rel => exact ⟨1, by omega, rfl, hid ⟨fun _ => he, fun h => absurd h (by omega)⟩, EX2.out⟩
          case measure => first | (simp [intOf]; done) | (simp [intOf]; omega)
        · have q0 : ¬ c = 0 := by rw [← HC.out]; exact cmp_ne he
          have q1 : (c == 0) = false := beq_eq_false_iff_ne.2 q0
          have q2 : (c != 0) = true := by rw [bne, q1]; rfl
          have HF : Hid (.returned (.int .i64 c) = Ending.returned (.int .i64 (cmpSR s1 r1 s2 r2)) ∧ Grw W wc) := hid ⟨by rw [← HC.out]; rw [cmpSR, if_neg he], (W0.out.trans EX2.out)⟩
          go_wp2_with fail
          go_ret
          exact HF.out
    | 1, hj, HJ =>
      -- key 1
      obtain ⟨c, hc⟩ : ∃ c, Lib.compareInt r1 r2 = c := ⟨_, rfl⟩
      have HC := hid hc
      have hcur : Grw wr wr := Grw.rfl' _
      clear hc
      go_upto_region 4 with fail
      go_cut [8] (fun sx wx => sx = .int .i64 c ∧ Grw wr wx)
      case first =>
        go_region_held3 (fun W' => W'.cell? ⟨W.heap.size, 0, none⟩ = some (.int .i64 s1) ∧ W'.cell? ⟨W.heap.size, 1, none⟩ = some (.int .i64 r1) ∧ W'.cell? ⟨W.heap.size, 2, none⟩ = some (.string su1) ∧ W'.cell? ⟨W.heap.size, 3, none⟩ = some (.string sa1) ∧ W'.cell? ⟨W.heap.size, 4, none⟩ = some (.string sd1) ∧ W'.cell? ⟨W.heap.size, 5, none⟩ = some (.string sb1) ∧ W'.cell? ⟨W.heap.size + 1, 0, none⟩ = some (.int .i64 s2) ∧ W'.cell? ⟨W.heap.size + 1, 1, none⟩ = some (.int .i64 r2) ∧ W'.cell? ⟨W.heap.size + 1, 2, none⟩ = some (.string su2) ∧ W'.cell? ⟨W.heap.size + 1, 3, none⟩ = some (.string sa2) ∧ W'.cell? ⟨W.heap.size + 1, 4, none⟩ = some (.string sd2) ∧ W'.cell? ⟨W.heap.size + 1, 5, none⟩ = some (.string sb2))
          (first | (with_reducible exact HS.out _ hcur) | (with_reducible exact HS.out _ hcur.drew) | go_keep)
          (first
            | (go_at_call_of 64 (Value.string su1); refine (key_restG s1 r1 su1 sa1 sd1 sb1 _).mono ?_; rintro e w10 ⟨rfl, hx⟩; have hcur := Grw.trans hcur (by first | exact hx | exact Grw.trans ((Grw.rfl' _).drew) hx))
            | (go_at_call_of 64 (Value.string su2); refine (key_restG s2 r2 su2 sa2 sd2 sb2 _).mono ?_; rintro e w20 ⟨rfl, hx⟩; have hcur := Grw.trans hcur (by first | exact hx | exact Grw.trans ((Grw.rfl' _).drew) hx))
            | (go_at_call 102; refine (cmp_g r1 r2 _ HC).mono ?_; rintro e w30 ⟨rfl, hx⟩; have hcur := Grw.trans hcur (by first | exact hx | exact Grw.trans ((Grw.rfl' _).drew) hx)))
        all_goals
          go_wp2_with fail
          go_meet
          exact ⟨rfl, hcur⟩
      case rest =>
        obtain ⟨rfl, hx⟩ := hcut
        clear hcur
        have EX2 := hid (EX.out.trans hx)
        by_cases he : r1 = r2
        · obtain rfl : c = 0 := by rw [← HC.out, he]; exact cmp_same _
          go_wp2_with fail
          go_roundw
          case rel => exact ⟨2, by omega, rfl, hid ⟨fun _ => HJ.out.1 (by omega), fun _ => he⟩, EX2.out⟩
          case measure => first | (simp [intOf]; done) | (simp [intOf]; omega)
        · have q0 : ¬ c = 0 := by rw [← HC.out]; exact cmp_ne he
          have q1 : (c == 0) = false := beq_eq_false_iff_ne.2 q0
          have q2 : (c != 0) = true := by rw [bne, q1]; rfl
          have HF : Hid (.returned (.int .i64 c) = Ending.returned (.int .i64 (cmpSR s1 r1 s2 r2)) ∧ Grw W wc) := hid ⟨by rw [← HC.out]; rw [cmpSR, if_pos (HJ.out.1 (by omega))], (W0.out.trans EX2.out)⟩
          go_wp2_with fail
          go_ret
          exact HF.out
    | 2, hj, HJ =>
      have HF : Hid (.returned (.int .i64 0) = Ending.returned (.int .i64 (cmpSR s1 r1 s2 r2)) ∧ Grw W wr) := hid ⟨by rw [cmpSR, if_pos (HJ.out.1 (by omega)), HJ.out.2 (by omega), cmp_same], W0.out.trans EX.out⟩
      go_wp2_with fail
      go_ret
      exact HF.out
    | j + 3, hj, HJ => exact absurd hj (by omega)
set_option maxRecDepth 100000 in
set_option maxHeartbeats 3200000 in
theorem cmpInt_any (x y : Int) (HB HK : Nat) (W : World) (hb : W.cell? ⟨HB, 0, none⟩ = some (.slice (some ⟨HK, 0, none⟩) 1 1)) (h0 : W.cell? ⟨HK, 0, none⟩ = some (.func (.func 66) #[] #[])) :
    Calls Tryz.prog 104 #[.int .i64 x, .int .i64 y, .pointer (some ⟨HB, 0, none⟩)] W (fun e w' => e = .returned (.int .i64 (Lib.compareInt x y)) ∧ w' = W) := by
  obtain ⟨c, hc⟩ : ∃ c, Lib.compareInt x y = c := ⟨_, rfl⟩
  rw [hc]
  have HC := hid hc
  clear hc
  go_enter Tryz.func104, Tryz.ntmps104
  go_wp2_with fail
  go_loopw [11] (fun iz wr => ∃ j : Nat, j ≤ 1 ∧ iz = .int .i64 (j : Int) ∧ Hid (1 ≤ j → c = 0) ∧ wr = W) (fun iz _ => 1 - (intOf iz).toNat)
  case atStart => exact ⟨0, by omega, rfl, hid (fun h => absurd h (by omega)), rfl⟩
  case round =>
    obtain ⟨j, hj, rfl, HJ, rfl⟩ := hrel
    match j, hj, HJ with
    | 0, hj, HJ =>
      go_wp2_with fail
      refine (key_int x _).mono ?_
      rintro e w1 ⟨rfl, rfl⟩
      go_wp2_with fail
      refine (key_int y _).mono ?_
      rintro e w1 ⟨rfl, rfl⟩
      by_cases he : c = 0
      · subst he
        go_wp2_with fail
        refine (cmp_c x y _ HC).mono ?_
        rintro e w1 ⟨rfl, rfl⟩
        go_wp2
        go_roundw
        case rel => exact ⟨1, by omega, rfl, hid (fun _ => by trivial), by trivial⟩
        case measure => first | (simp [intOf]; done) | (simp [intOf]; omega)
      · have q1 : (c == 0) = false := beq_eq_false_iff_ne.2 he
        have q2 : (c != 0) = true := by rw [bne, q1]; rfl
        go_wp2_with fail
        refine (cmp_c x y _ HC).mono ?_
        rintro e w1 ⟨rfl, rfl⟩
        go_wp2
        go_ret
        exact ⟨rfl, rfl⟩
    | 1, hj, HJ =>
      have HF : Hid (c = 0) := hid (HJ.out (by omega))
      go_wp2_with fail
      go_ret
      exact ⟨by rw [HF.out]; rfl, rfl⟩
    | j + 2, hj, HJ => exact absurd hj (by omega)
end Go.Proofs.YtimokpcopeldfaaGreatDoor
/- package sieve: sortBy at ints -/
namespace Go.Proofs.YtimokpcopeldfaaGreatDoor
open Go.RowKit Go.Sort
theorem putCells_take {α : Type} [Inhabited α] (enc : α → Value) (d : Array α) (c : Array Value) (h : d.size ≤ c.size) : (putCells enc 0 d c).toList.take d.size = d.toList.map enc := by
  apply List.ext_getElem?
  intro i
  rw [List.getElem?_take]
  split
  · rename_i hi
    have h2 : i < c.size := by omega
    rw [Array.getElem?_toList, putCells, Array.getElem?_mapIdx, Array.getElem?_eq_getElem h2]
    simp only [Option.map_some]
    rw [if_pos ⟨by omega, by omega⟩, Nat.sub_zero, getElem!_pos _ i hi]
    simp [hi]
  · rename_i hi
    rw [List.getElem?_eq_none (by simp; omega)]
theorem putCells_size {α : Type} [Inhabited α] (enc : α → Value) (off : Nat) (d : Array α) (c : Array Value) : (putCells enc off d c).size = c.size := by simp [putCells]
/-- the block of the row after the sort -/
theorem sortWorld_row {α : Type} [Inhabited α] (enc : α → Value) (w : World) (g q : Nat) (d : Array α) (os : Array Obj) {cur : Array Value} {e : TypeId} {fr : Nat × Nat} (h : w.heap[g]? = some (.cells cur e fr)) : (sortWorld enc w g 0 q d os).heap[g]? = some (.cells (putCells enc 0 d cur) e fr) := by
  have hg : g < w.heap.size := by
    rcases Nat.lt_or_ge g w.heap.size with h1 | h1
    · exact h1
    · rw [Array.getElem?_eq_none h1] at h; cases h
  unfold sortWorld
  rw [heap_grow_old _ _ (by simp [putRow, mapBlock, ahead]; exact hg)]
  simp only [putRow, mapBlock, Array.getElem?_modify, if_pos]
  rw [show (Go.Sort.ahead w q).heap[g]? = some (.cells cur e fr) from h]
  rfl
theorem sortWorld_grown {α : Type} [Inhabited α] (enc : α → Value) (w : World) (g q : Nat) (d : Array α) (os : Array Obj) : w.grownBy (sortWorld enc w g 0 q d os) (some g) where
  os := rfl
  tape := rfl
  output := rfl
  size := by simp [sortWorld, putRow, mapBlock, ahead]
  block := fun k hk hne => by
    unfold sortWorld
    rw [heap_grow_old _ _ (by simp [putRow, mapBlock, ahead]; exact hk)]
    simp only [putRow, mapBlock, Array.getElem?_modify]
    rw [if_neg (fun e => hne (by rw [e]))]
    rfl
theorem own_holds {α : Type} [Inhabited α] (enc : α → Value) {w : World} {g n : Nat} {cur : Array Value} {e : TypeId} (d : Array α) (hg : w.heap[g]? = some (.cells cur e (0, 0))) (hd : d.size = n) (hc : n ≤ cur.size) (ht : cur.toList.take n = d.toList.map enc) : Holds enc w g 0 d := by
  intro j hj
  have h1 : (cur.toList.take n)[j]? = some (enc d[j]!) := by
    rw [ht, getElem!_pos _ j hj]
    simp [hj]
  rw [List.getElem?_take, if_pos (by omega), Array.getElem?_toList] at h1
  refine ⟨?_, ?_⟩
  · simp only [World.cell?, Nat.zero_add, hg]
    exact h1
  · simp [World.frozen?, hg]
/-- the order of Go's cmp.Compare -/
theorem lt_int (x y : Int) : ltOf Lib.compareInt x y = decide (x < y) := by
  unfold ltOf Lib.compareInt
  by_cases h : x < y
  · rw [if_pos h, decide_eq_true h]; rfl
  · rw [if_neg h, decide_eq_false h]
    by_cases h2 : x > y
    · rw [if_pos h2]; rfl
    · rw [if_neg h2]; rfl
theorem swo_int : SWO (ltOf Lib.compareInt) where
  irrefl := fun x => by rw [lt_int]; simp
  trans := fun x y z h1 h2 => by
    rw [lt_int] at *
    simp only [decide_eq_true_eq] at *
    omega
  ntrans := fun x y z h1 h2 => by
    rw [lt_int] at *
    simp only [decide_eq_false_iff_not] at *
    omega
theorem tot_int : ∀ x y : Int, ltOf Lib.compareInt x y = false → ltOf Lib.compareInt y x = false → x = y := by
  intro x y h1 h2
  rw [lt_int] at *
  simp only [decide_eq_false_iff_not] at *
  omega
def encInt (x : Int) : Value := .int .i64 x
/-- the ints in order -/
def srtI (xs : List Int) : List Int := xs.mergeSort fun x y => !(ltOf Lib.compareInt) y x
set_option maxRecDepth 100000 in
set_option maxHeartbeats 3200000 in
theorem sortInts_any (v : Value) (n : Nat) (xs : List Int) (base HK : Nat) (w : World) (hown : w.ownsRow base 3 1 v n (Is xs)) (hk : w.cell? ⟨HK, 0, none⟩ = some (.func (.func 66) #[] #[])) (lk : HK < w.heap.size) (hne : ∀ g, v.ownBlock = some g → HK ≠ g) (hn : n < 4611686018427387904) :
    Calls Tryz.prog 65 #[v, .slice (some ⟨HK, 0, none⟩) 1 1] w (fun e w' => e = .returned (.tuple #[]) ∧ w'.ownsRow base 3 1 v n (Is (srtI xs)) ∧ w.grownBy w' v.ownBlock) := by
  obtain ⟨w1, hw1⟩ : ∃ w1, w.alloc (.cells #[.slice (some ⟨HK, 0, none⟩) 1 1] 143) = w1 := ⟨_, rfl⟩
  have hx : Ext w w1 := by rw [← hw1]; exact (Ext.rfl' w).alloc' _
  have hr : Row w1 w.heap.size 143 [.slice (some ⟨HK, 0, none⟩) 1 1] := by rw [← hw1]; exact Row.new w _ _
  have hk1 : w1.cell? ⟨HK, 0, none⟩ = some (.func (.func 66) #[] #[]) := by rw [hx.cell lk, hk]
  have hsz : w1.heap.size = w.heap.size + 1 := by rw [← hw1]; simp
  have hbx : w1.cell? ⟨w.heap.size, 0, none⟩ = some (.slice (some ⟨HK, 0, none⟩) 1 1) := hr.cell 0
  have HW := hid hw1
  obtain ⟨hl, h⟩ := hown
  have hlx : xs.length = n := by simpa using hl
  rcases h with ⟨rfl, rfl⟩ | ⟨g, cap, cur, rfl, hb, hg, hnc, hcm, hcs, hct⟩
  · have hxs : xs = [] := List.eq_nil_of_length_eq_zero hlx
    have HF : Hid (w1.ownsRow base 3 1 (.slice none 0 0) 0 (Is (srtI xs)) ∧ w.grownBy w1 (Value.ownBlock (.slice none 0 0))) := hid ⟨by rw [hxs, show Is (srtI []) = [] by simp [srtI]]; exact World.ownsRow_nil _ _ _ _, ⟨hx.os, hx.tape, hx.output, hx.size, fun k hk _ => hx.block k hk⟩⟩
    clear hl hx hr hk1 hk hbx hlx hxs hne hw1
    go_enter Tryz.func65, Tryz.ntmps65
    go_upto_region 1 with fail
    rw [HW.out]
    go_wp2_with fail
    refine (ShelfC.l_slices_SortFunc_none (α := Int) none 0 _ w1).mono ?_
    rintro e w' ⟨rfl, rfl⟩
    go_wp2
    go_end0
    exact ⟨rfl, HF.out⟩
  · have hgw : g < w.heap.size := by
      rcases Nat.lt_or_ge g w.heap.size with h1 | h1
      · exact h1
      · rw [Array.getElem?_eq_none h1] at hg; cases hg
    have hg1 : w1.heap[g]? = some (.cells cur 3 (0, 0)) := by rw [hx.block g hgw, hg]
    have hH : Holds encInt w1 g 0 xs.toArray := own_holds encInt xs.toArray hg1 (by simpa using hlx) (by omega) (show cur.toList.take n = Is xs by simpa using hct)
    have hcmp : CmpLays1 Tryz.prog 104 #[.pointer (some ⟨w.heap.size, 0, none⟩)] encInt Lib.compareInt g 0 xs.toArray.size w1 := by
      intro m os dk hs x y
      have hother : ∀ b, b < w1.heap.size → b ≠ g → (sortWorld encInt w1 g 0 m dk os).heap[b]? = w1.heap[b]? := fun b h1 h2 => (sortWorld_grown encInt w1 g m dk os).block b h1 (fun e => h2 (by cases e; rfl))
      refine (cmpInt_any x y w.heap.size HK _ ?_ ?_).mono ?_
      · rw [World.cell?_of_block (hother _ (by show w.heap.size < _; omega) (by show w.heap.size ≠ g; omega)), hbx]
      · rw [World.cell?_of_block (hother _ (by show HK < _; omega) (by show HK ≠ g; exact hne g rfl)), hk1]
      · rintro e w' ⟨rfl, rfl⟩
        exact ⟨rfl, 0, #[], by rw [grow_empty]; rfl⟩
    have hcon := ShelfC.l_slices_SortFunc_total encInt (fun x => rfl) Lib.compareInt swo_int 104 #[.pointer (some ⟨w.heap.size, 0, none⟩)] g 0 cap xs.toArray w1 (enters_of Tryz.func104 (by kernel_rfl) rfl) hcmp hH (by omega) (by simpa using (by omega : xs.length < 4611686018427387904)) tot_int
    have hsn : xs.toArray.size = n := by simpa using hlx
    rw [hsn] at hcon
    have HF : Hid (∀ (q : Nat) (os : Array Obj), (sortWorld encInt w1 g 0 q (srtI xs).toArray os).ownsRow base 3 1 (.slice (some ⟨g, 0, none⟩) n cap) n (Is (srtI xs)) ∧ w.grownBy (sortWorld encInt w1 g 0 q (srtI xs).toArray os) (some g)) := hid (by
      intro q os
      have hln : (srtI xs).toArray.size = n := by simp [srtI, hlx]
      refine ⟨⟨by simp [srtI, hlx], .inr ⟨g, cap, _, rfl, hb, sortWorld_row encInt w1 g q _ os hg1, hnc, hcm, by rw [putCells_size, hcs], ?_⟩⟩, ?_⟩
      · have := putCells_take encInt (srtI xs).toArray cur (by rw [hln]; omega)
        rw [hln] at this
        rw [Nat.mul_one, this]
        exact rfl
      · have h1 := sortWorld_grown encInt w1 g q (srtI xs).toArray os
        exact ⟨h1.os.trans hx.os, h1.tape.trans hx.tape, h1.output.trans hx.output, Nat.le_trans hx.size h1.size, fun k hk hne => (h1.block k (by omega) hne).trans (hx.block k hk)⟩)
    have HC := hid hcon
    clear hl hx hr hk1 hk hbx hlx hne hw1 hH hcmp hcon hg1 hg hct hcs hcm
    go_enter Tryz.func65, Tryz.ntmps65
    go_upto_region 1 with fail
    rw [HW.out]
    go_wp2_with fail
    refine HC.out.mono ?_
    rintro e w' ⟨rfl, q, os, rfl⟩
    go_wp2
    go_end0
    exact ⟨rfl, HF.out q os⟩
end Go.Proofs.YtimokpcopeldfaaGreatDoor
