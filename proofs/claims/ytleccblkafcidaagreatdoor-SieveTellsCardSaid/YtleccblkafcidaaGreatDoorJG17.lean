/- Joined texts: the reference's linear maps: One, Then, Text; a number is mapped by the linear map of its word as by Run; the law WordLinear; the reference's Then at a map, Of, Text; package sieve: fall; package sieve: the keys of the sorts. -/
import Derived.Test.YtleccblkafcidaaGreatDoorJG15
import Derived.Test.YtleccblkafcidaaGreatDoorJG13
import Derived.Test.YtleccblkafcidaaGreatDoorJG16
set_option linter.unusedSimpArgs false
set_option linter.unusedVariables false
/- the reference's linear maps: One, Then, Text -/
namespace Go.Proofs.YtleccblkafcidaaGreatDoor
open Go.RowKit
/-- a linear map of the reference's -/
def LineR (w : World) (v : Value) (l : Int × Int × Int) : Prop :=
  ∃ (b1 : Bool) (A1 : Option Addr) (k1 c1 : Nat) (b2 : Bool) (A2 : Option Addr) (k2 c2 : Nat) (b3 : Bool) (A3 : Option Addr) (k3 c3 : Nat), v = .agg #[.bool b1, .slice A1 k1 c1, .bool b2, .slice A2 k2 c2, .bool b3, .slice A3 k3 c3] ∧ RefV w (.agg #[.bool b1, .slice A1 k1 c1]) l.1 ∧ RefV w (.agg #[.bool b2, .slice A2 k2 c2]) l.2.1 ∧ RefV w (.agg #[.bool b3, .slice A3 k3 c3]) l.2.2
theorem LineR.ext {w w' : World} {v : Value} {l : Int × Int × Int} (h : LineR w v l) (e : Ext w w') : LineR w' v l := by
  obtain ⟨b1, A1, k1, c1, b2, A2, k2, c2, b3, A3, k3, c3, h0, h1, h2, h3⟩ := h
  exact ⟨b1, A1, k1, c1, b2, A2, k2, c2, b3, A3, k3, c3, h0, h1.ext e, h2.ext e, h3.ext e⟩
theorem LineR.kept {w w' : World} {v : Value} {l : Int × Int × Int} (h : LineR w v l) (e : KeepRd w w') : LineR w' v l := by
  obtain ⟨b1, A1, k1, c1, b2, A2, k2, c2, b3, A3, k3, c3, h0, h1, h2, h3⟩ := h
  exact ⟨b1, A1, k1, c1, b2, A2, k2, c2, b3, A3, k3, c3, h0, h1.kept e, h2.kept e, h3.kept e⟩
def LinePost (l : Int × Int × Int) (w : World) (e : Ending) (w' : World) : Prop := ∃ v, e = .returned v ∧ LineR w' v l ∧ Ext w w'
theorem ref_nil (w : World) : RefV w (.agg #[.bool false, .slice none 0 0]) 0 := ⟨none, 0, 0, [], false, rfl, hid (by simp), rfl, Nat.le_refl _, Rd.nil _ _, ⟨by simp, by simp⟩, rfl⟩
/-- all blocks but H are as they were -/
def Off (w w' : World) (H : Nat) : Prop := w'.heap.size = w.heap.size ∧ ∀ g, g ≠ H → w'.heap[g]? = w.heap[g]?
theorem Off.rfl' (w : World) (H : Nat) : Off w w H := ⟨rfl, fun _ _ => rfl⟩
theorem Off.set {w w' : World} {H : Nat} (h : Off w w' H) (i : Nat) (u : Value) : Off w (w'.setCell ⟨H, i, none⟩ u) H :=
  ⟨by rw [World.size_setCell]; exact h.1, fun g hg => (Below.heap_setCell w' ⟨H, i, none⟩ u g (by exact hg)).trans (h.2 g hg)⟩
theorem Off.cell {w w' : World} {H : Nat} (h : Off w w' H) {g i : Nat} (hg : g ≠ H) : w'.cell? ⟨g, i, none⟩ = w.cell? ⟨g, i, none⟩ := World.cell?_of_block (h.2 g hg)
theorem Off.row {w w' : World} {H g : Nat} {t : TypeId} {vs : List Value} (h : Off w w' H) (r : Row w g t vs) (hg : g ≠ H) : Row w' g t vs := (h.2 g hg).trans r
theorem Off.keep {w w' : World} {H : Nat} {t : TypeId} {vs : List Value} (h : Off w w' H) (r : Row w H t vs) (hv : NoInt vs) : KeepRd w w' :=
  KeepRd.but ⟨vs.toArray, t, (0, 0), r, by simpa using hv⟩ (by rw [h.1]; exact Nat.le_refl _) (fun j _ hj => h.2 j hj)
theorem Off.ext {w w1 w' : World} {H : Nat} (h : Off w1 w' H) (e : Ext w w1) (hH : w.heap.size ≤ H) (ho : w'.os = w1.os) (ht : w'.tape = w1.tape) (hp : w'.output = w1.output) : Ext w w' :=
  ⟨ho.trans e.os, ht.trans e.tape, hp.trans e.output, by rw [h.1]; exact e.size, fun g hg => (h.2 g (by omega)).trans (e.block g hg)⟩
theorem no_int6 (b1 b2 b3 : Bool) (A1 A2 A3 : Option Addr) (k1 k2 k3 c1 c2 c3 : Nat) : NoInt [.bool b1, .slice A1 k1 c1, .bool b2, .slice A2 k2 c2, .bool b3, .slice A3 k3 c3] := by
  intro v hv k x e
  subst e
  simp at hv
theorem row_facts6 {w : World} {g : Nat} {t : TypeId} {a b c d e f : Value} (h : Row w g t [a, b, c, d, e, f]) :
    (w.cell? ⟨g, 0, none⟩ = some a ∧ w.cell? ⟨g, 1, none⟩ = some b ∧ w.cell? ⟨g, 2, none⟩ = some c ∧ w.cell? ⟨g, 3, none⟩ = some d ∧ w.cell? ⟨g, 4, none⟩ = some e ∧ w.cell? ⟨g, 5, none⟩ = some f) ∧
    (w.frozen? ⟨g, 0, none⟩ = false ∧ w.frozen? ⟨g, 1, none⟩ = false ∧ w.frozen? ⟨g, 2, none⟩ = false ∧ w.frozen? ⟨g, 3, none⟩ = false ∧ w.frozen? ⟨g, 4, none⟩ = false ∧ w.frozen? ⟨g, 5, none⟩ = false) :=
  ⟨⟨by rw [h.cell]; rfl, by rw [h.cell]; rfl, by rw [h.cell]; rfl, by rw [h.cell]; rfl, by rw [h.cell]; rfl, by rw [h.cell]; rfl⟩, h.free 0, h.free 1, h.free 2, h.free 3, h.free 4, h.free 5⟩
theorem Row.put6 {w : World} {H : Nat} {t : TypeId} {a b c d e f a' b' c' d' e' f' : Value} (h : Row w H t [a, b, c, d, e, f]) : Row (((((((w.setCell ⟨H, 0, none⟩ (a')).setCell ⟨H, 1, none⟩ (b')).setCell ⟨H, 2, none⟩ (c')).setCell ⟨H, 3, none⟩ (d')).setCell ⟨H, 4, none⟩ (e')).setCell ⟨H, 5, none⟩ (f'))) H t [a', b', c', d', e', f'] :=
  (((((h.set 0 a').set 1 b').set 2 c').set 3 d').set 4 e').set 5 f'
/-- a linear map put into a box of its own -/
theorem LineR.put {w w3 : World} {l : Int × Int × Int} {H : Nat} {b1 b2 b3 p1 p2 p3 : Bool} {A1 A2 A3 P1 P2 P3 : Option Addr} {k1 c1 k2 c2 k3 c3 q1 d1 q2 d2 q3 d3 : Nat} (r : Row w3 H 92 [.bool b1, .slice A1 k1 c1, .bool b2, .slice A2 k2 c2, .bool b3, .slice A3 k3 c3]) (hw : Ext w w3) (hH : w.heap.size ≤ H)
    (h1 : RefV w3 (.agg #[.bool p1, .slice P1 q1 d1]) l.1) (h2 : RefV w3 (.agg #[.bool p2, .slice P2 q2 d2]) l.2.1) (h3 : RefV w3 (.agg #[.bool p3, .slice P3 q3 d3]) l.2.2) :
    LinePost l w (.returned (.agg #[.bool p1, .slice P1 q1 d1, .bool p2, .slice P2 q2 d2, .bool p3, .slice P3 q3 d3])) (((((((w3.setCell ⟨H, 0, none⟩ (.bool p1)).setCell ⟨H, 1, none⟩ (.slice P1 q1 d1)).setCell ⟨H, 2, none⟩ (.bool p2)).setCell ⟨H, 3, none⟩ (.slice P2 q2 d2)).setCell ⟨H, 4, none⟩ (.bool p3)).setCell ⟨H, 5, none⟩ (.slice P3 q3 d3))) := by
  have ho : Off w3 (((((((w3.setCell ⟨H, 0, none⟩ (.bool p1)).setCell ⟨H, 1, none⟩ (.slice P1 q1 d1)).setCell ⟨H, 2, none⟩ (.bool p2)).setCell ⟨H, 3, none⟩ (.slice P2 q2 d2)).setCell ⟨H, 4, none⟩ (.bool p3)).setCell ⟨H, 5, none⟩ (.slice P3 q3 d3))) H := (((((((Off.rfl' _ _).set _ _).set _ _).set _ _).set _ _).set _ _).set _ _)
  have hk := ho.keep r (no_int6 _ _ _ _ _ _ _ _ _ _ _ _)
  exact ⟨_, rfl, ⟨_, _, _, _, _, _, _, _, _, _, _, _, rfl, h1.kept hk, h2.kept hk, h3.kept hk⟩, ((((((hw.set' (by show _ ≤ H; omega) _).set' (by show _ ≤ H; omega) _).set' (by show _ ≤ H; omega) _).set' (by show _ ≤ H; omega) _).set' (by show _ ≤ H; omega) _).set' (by show _ ≤ H; omega) _)⟩
set_option maxRecDepth 100000 in
set_option maxHeartbeats 3200000 in
theorem one_any (w : World) : Calls Tryz.prog 55 #[] w (LinePost (1, 0, 1) w) := by
  have hx : Ext w (w.alloc (.cells #[.bool false, .slice none 0 0, .bool false, .slice none 0 0, .bool false, .slice none 0 0] 92)) := (Ext.rfl' w).alloc' _
  have hr : Row (w.alloc (.cells #[.bool false, .slice none 0 0, .bool false, .slice none 0 0, .bool false, .slice none 0 0] 92)) w.heap.size 92 [.bool false, .slice none 0 0, .bool false, .slice none 0 0, .bool false, .slice none 0 0] := Row.new w _ _
  obtain ⟨W1, hW1⟩ : ∃ W1, (w.alloc (.cells #[.bool false, .slice none 0 0, .bool false, .slice none 0 0, .bool false, .slice none 0 0] 92)) = W1 := ⟨_, rfl⟩
  rw [hW1] at hx hr
  have HX := hid hx
  have HR := hid hr
  have HW1 := hid hW1
  clear hW1 hx hr
  go_enter Tryz.func55, Tryz.ntmps55
  go_upto_region 1 with fail
  rw [HW1.out]
  go_wp2_with fail
  refine (of_any 1 W1 (by omega)).mono ?_
  rintro e w2 ⟨v2, rfl, hv2, hx2⟩
  have HV2 := hid hv2
  have HE2 := hid hx2
  obtain ⟨A2, k2, c2, xs2, b2, rfl, -⟩ := hv2
  clear hx2
  go_wp2_with fail
  refine (of_any 1 w2 (by omega)).mono ?_
  rintro e w3 ⟨v3, rfl, hv3, hx3⟩
  have HV3 := hid hv3
  have HE3 := hid (HE2.out.step hx3)
  have HV2B := hid (HV2.out.ext hx3)
  obtain ⟨A3, k3, c3, xs3, b3, rfl, -⟩ := hv3
  have hr3 := HR.out.ext HE3.out
  have hfin := LineR.put (l := (1, 0, 1)) hr3 (HX.out.step HE3.out) (Nat.le_refl _) HV2B.out (ref_nil w3) HV3.out
  have HF := hid hfin
  obtain ⟨⟨y0, y1, y2, y3, y4, y5⟩, z0, z1, z2, z3, z4, z5⟩ := row_facts6 hr3
  clear hx3 hfin hr3
  go_wp2
  refine bodyPost_ret (v := .agg #[.bool b2, .slice A2 k2 c2, .bool false, .slice none 0 0, .bool b3, .slice A3 k3 c3]) (by simp [results, Tryz.results55, go_sem, y0, y1, y2, y3, y4, y5]) rfl HF.out
set_option maxRecDepth 100000 in
set_option maxHeartbeats 12800000 in
theorem then_l (ba oa bb ob n cc n2 d2 r : Nat) (u a m M A D : Int) (b1 b2 b3 : Bool) (A1 A2 A3 : Option Addr) (k1 c1 k2 c2 k3 c3 : Nat) (us ad : List Int) (w : World) (hra : Rd w (some ⟨ba, oa, none⟩) (Is us)) (hrb : Rd w (some ⟨bb, ob, none⟩) (Is ad)) (hn1 : us.length = n) (hn2 : ad.length = n2)
    (h1 : RefV w (.agg #[.bool b1, .slice A1 k1 c1]) M) (h2 : RefV w (.agg #[.bool b2, .slice A2 k2 c2]) A) (h3 : RefV w (.agg #[.bool b3, .slice A3 k3 c3]) D) (hrn : r < n) (hrn2 : r < n2) (hu : Hid (us.getD r 0 = u)) (ha : Hid (ad.getD r 0 = a))
    (B : Hid (M.natAbs ≤ BIG ∧ A.natAbs ≤ BIG ∧ D.natAbs ≤ BIG ∧ (u * A).natAbs ≤ BIG ∧ (a * D).natAbs ≤ BIG)) (BU : Hid (u.natAbs < 1000000000)) (BA : Hid (a.natAbs < 1000000000)) (BM : Hid (m.natAbs < 1000000000)) :
    Calls Tryz.prog 56 #[.agg #[.int .i64 m, .slice (some ⟨ba, oa, none⟩) n cc, .slice (some ⟨bb, ob, none⟩) n2 d2], .agg #[.bool b1, .slice A1 k1 c1, .bool b2, .slice A2 k2 c2, .bool b3, .slice A3 k3 c3], .int .i64 (r : Int)] w (LinePost (u * M, u * A + a * D, D * m) w) := by
  have hx : Ext w (((w.alloc (.cells #[.int .i64 m, .slice (some ⟨ba, oa, none⟩) n cc, .slice (some ⟨bb, ob, none⟩) n2 d2] 24)).alloc (.cells #[.bool b1, .slice A1 k1 c1, .bool b2, .slice A2 k2 c2, .bool b3, .slice A3 k3 c3] 92)).alloc (.cells #[.bool false, .slice none 0 0, .bool false, .slice none 0 0, .bool false, .slice none 0 0] 92)) := (((Ext.rfl' w).alloc' _).alloc' _).alloc' _
  have hr1 : Row (((w.alloc (.cells #[.int .i64 m, .slice (some ⟨ba, oa, none⟩) n cc, .slice (some ⟨bb, ob, none⟩) n2 d2] 24)).alloc (.cells #[.bool b1, .slice A1 k1 c1, .bool b2, .slice A2 k2 c2, .bool b3, .slice A3 k3 c3] 92)).alloc (.cells #[.bool false, .slice none 0 0, .bool false, .slice none 0 0, .bool false, .slice none 0 0] 92)) w.heap.size 24 [.int .i64 m, .slice (some ⟨ba, oa, none⟩) n cc, .slice (some ⟨bb, ob, none⟩) n2 d2] := ((Row.new w _ _).alloc _).alloc _
  have hr2 : Row (((w.alloc (.cells #[.int .i64 m, .slice (some ⟨ba, oa, none⟩) n cc, .slice (some ⟨bb, ob, none⟩) n2 d2] 24)).alloc (.cells #[.bool b1, .slice A1 k1 c1, .bool b2, .slice A2 k2 c2, .bool b3, .slice A3 k3 c3] 92)).alloc (.cells #[.bool false, .slice none 0 0, .bool false, .slice none 0 0, .bool false, .slice none 0 0] 92)) (w.heap.size + 1) 92 [.bool b1, .slice A1 k1 c1, .bool b2, .slice A2 k2 c2, .bool b3, .slice A3 k3 c3] := by
    have := (Row.new (w.alloc (.cells #[.int .i64 m, .slice (some ⟨ba, oa, none⟩) n cc, .slice (some ⟨bb, ob, none⟩) n2 d2] 24)) 92 [.bool b1, .slice A1 k1 c1, .bool b2, .slice A2 k2 c2, .bool b3, .slice A3 k3 c3]).alloc (.cells #[.bool false, .slice none 0 0, .bool false, .slice none 0 0, .bool false, .slice none 0 0] 92)
    rwa [World.size_alloc] at this
  have hr3 : Row (((w.alloc (.cells #[.int .i64 m, .slice (some ⟨ba, oa, none⟩) n cc, .slice (some ⟨bb, ob, none⟩) n2 d2] 24)).alloc (.cells #[.bool b1, .slice A1 k1 c1, .bool b2, .slice A2 k2 c2, .bool b3, .slice A3 k3 c3] 92)).alloc (.cells #[.bool false, .slice none 0 0, .bool false, .slice none 0 0, .bool false, .slice none 0 0] 92)) (w.heap.size + 1 + 1) 92 [.bool false, .slice none 0 0, .bool false, .slice none 0 0, .bool false, .slice none 0 0] := by
    have := Row.new ((w.alloc (.cells #[.int .i64 m, .slice (some ⟨ba, oa, none⟩) n cc, .slice (some ⟨bb, ob, none⟩) n2 d2] 24)).alloc (.cells #[.bool b1, .slice A1 k1 c1, .bool b2, .slice A2 k2 c2, .bool b3, .slice A3 k3 c3] 92)) 92 [.bool false, .slice none 0 0, .bool false, .slice none 0 0, .bool false, .slice none 0 0]
    rwa [World.size_alloc, World.size_alloc] at this
  obtain ⟨W3, hW3⟩ : ∃ W3, (((w.alloc (.cells #[.int .i64 m, .slice (some ⟨ba, oa, none⟩) n cc, .slice (some ⟨bb, ob, none⟩) n2 d2] 24)).alloc (.cells #[.bool b1, .slice A1 k1 c1, .bool b2, .slice A2 k2 c2, .bool b3, .slice A3 k3 c3] 92)).alloc (.cells #[.bool false, .slice none 0 0, .bool false, .slice none 0 0, .bool false, .slice none 0 0] 92)) = W3 := ⟨_, rfl⟩
  rw [hW3] at hx hr1 hr2 hr3
  have HW3 := hid hW3
  have HX := hid hx
  have R1 := hid hr1
  have R2 := hid hr2
  have R3 := hid hr3
  have HL1 := hid (h1.ext hx)
  have HL2 := hid (h2.ext hx)
  have HL3 := hid (h3.ext hx)
  have HRA := hid (hra.ext hx)
  have HRB := hid (hrb.ext hx)
  have HN1 := hid hn1
  have HN2 := hid hn2
  have hbb : bb < w.heap.size := by
    obtain ⟨b3, o3, e3, hlt, -⟩ := hrb.atI (k := r) (by omega)
    cases e3
    exact hlt
  have HBB := hid hbb
  have i0 : (0 : Int) ≤ (r : Int) := by omega
  have i1 : (r : Int) < (n : Int) := by omega
  have i2 : (r : Int) < (n2 : Int) := by omega
  obtain ⟨f0, f1, f2, -, -, -⟩ := row_facts3 hr1
  obtain ⟨ba', oa', ea, -, hca⟩ := (hra.ext hx).atI (k := r) (by omega)
  cases ea
  rw [hu.out] at hca
  clear hW3 hx hr1 hr2 hr3 h1 h2 h3 hra hrb hn1 hn2 hbb
  have BUB : Hid (u.natAbs ≤ BIG ∧ a.natAbs ≤ BIG ∧ m.natAbs ≤ BIG) := hid ⟨small_big BU.out, small_big BA.out, small_big BM.out⟩
  go_enter Tryz.func56, Tryz.ntmps56
  go_upto_region 1 with fail
  rw [HW3.out]
  go_wp2_with fail
  refine (of_any u W3 (by have := BU.out; omega)).mono ?_
  rintro e w4 ⟨vu, rfl, hvu, hx4⟩
  have hvu2 := hvu
  obtain ⟨Au, ku, cu, xsu, bu, rfl, -⟩ := hvu
  have hy := hx4.alloc' (.cells #[.bool bu, .slice Au ku cu] 47)
  have hr := Row.new w4 47 [.bool bu, .slice Au ku cu]
  have hv := hvu2.ext ((Ext.rfl' w4).alloc' (.cells #[.bool bu, .slice Au ku cu] 47))
  obtain ⟨H3, hH3⟩ : ∃ H3, w4.heap.size = H3 := ⟨_, rfl⟩
  have hgt : w.heap.size + 1 + 1 < H3 := by
    have e1 := R3.out.lt
    have e2 := hx4.size
    omega
  rw [hH3] at hr
  obtain ⟨W4, hW4⟩ : ∃ W4, w4.alloc (.cells #[.bool bu, .slice Au ku cu] 47) = W4 := ⟨_, rfl⟩
  rw [hW4] at hy hr hv
  have HW4 := hid hW4
  have HE4 := hid hy
  have R4 := hid hr
  have HVU := hid hv
  have HGT := hid hgt
  have HL1 := hid (HL1.out.ext HE4.out)
  have HL2 := hid (HL2.out.ext HE4.out)
  have HL3 := hid (HL3.out.ext HE4.out)
  have HSG : Hid (∀ W' W'', Ext W4 W' → Off W' W'' (w.heap.size + 1 + 1) → W''.cell? ⟨w.heap.size, 0, none⟩ = some (.int .i64 m) ∧ W''.cell? ⟨w.heap.size, 1, none⟩ = some (.slice (some ⟨ba, oa, none⟩) n cc) ∧ W''.cell? ⟨w.heap.size, 2, none⟩ = some (.slice (some ⟨bb, ob, none⟩) n2 d2) ∧ W''.cell? ⟨w.heap.size + 1, 0, none⟩ = some (.bool b1) ∧ W''.cell? ⟨w.heap.size + 1, 1, none⟩ = some (.slice A1 k1 c1) ∧ W''.cell? ⟨w.heap.size + 1, 2, none⟩ = some (.bool b2) ∧ W''.cell? ⟨w.heap.size + 1, 3, none⟩ = some (.slice A2 k2 c2) ∧ W''.cell? ⟨w.heap.size + 1, 4, none⟩ = some (.bool b3) ∧ W''.cell? ⟨w.heap.size + 1, 5, none⟩ = some (.slice A3 k3 c3) ∧ W''.cell? ⟨bb, ob + r, none⟩ = some (.int .i64 a) ∧ W''.cell? ⟨H3, 0, none⟩ = some (.bool bu) ∧ W''.cell? ⟨H3, 1, none⟩ = some (.slice Au ku cu)) := hid (by
    intro W' W'' e ho
    obtain ⟨p0, p1, p2, -, -, -⟩ := row_facts3 (R1.out.ext (HE4.out.step e))
    obtain ⟨⟨q0, q1, q2, q3, q4, q5⟩, -⟩ := row_facts6 (R2.out.ext (HE4.out.step e))
    obtain ⟨s0, s1, -, -⟩ := row_facts (R4.out.ext e)
    obtain ⟨b3, o3, e3, -, hc2⟩ := ((HRB.out.ext HE4.out).ext e).atI (k := r) (by rw [HN2.out]; exact hrn2)
    cases e3
    rw [ha.out] at hc2
    have n0 : w.heap.size ≠ w.heap.size + 1 + 1 := by omega
    have n1 : w.heap.size + 1 ≠ w.heap.size + 1 + 1 := by omega
    have n2 : bb ≠ w.heap.size + 1 + 1 := by have := HBB.out; omega
    have n3 : H3 ≠ w.heap.size + 1 + 1 := by have := HGT.out; omega
    refine ⟨?_, ?_, ?_, ?_, ?_, ?_, ?_, ?_, ?_, ?_, ?_, ?_⟩
    · rw [ho.cell n0]; exact p0
    · rw [ho.cell n0]; exact p1
    · rw [ho.cell n0]; exact p2
    · rw [ho.cell n1]; exact q0
    · rw [ho.cell n1]; exact q1
    · rw [ho.cell n1]; exact q2
    · rw [ho.cell n1]; exact q3
    · rw [ho.cell n1]; exact q4
    · rw [ho.cell n1]; exact q5
    · rw [ho.cell n2]; exact hc2
    · rw [ho.cell n3]; exact s0
    · rw [ho.cell n3]; exact s1)
  have HSO : Hid (∀ W' W'', Ext W4 W' → Off W' W'' (w.heap.size + 1 + 1) → W''.cell? ⟨w.heap.size, 0, none⟩ = some (.int .i64 m) ∧ W''.cell? ⟨w.heap.size, 1, none⟩ = some (.slice (some ⟨ba, oa, none⟩) n cc) ∧ W''.cell? ⟨w.heap.size, 2, none⟩ = some (.slice (some ⟨bb, ob, none⟩) n2 d2) ∧ W''.cell? ⟨w.heap.size + 1, 0, none⟩ = some (.bool b1) ∧ W''.cell? ⟨w.heap.size + 1, 1, none⟩ = some (.slice A1 k1 c1) ∧ W''.cell? ⟨w.heap.size + 1, 2, none⟩ = some (.bool b2) ∧ W''.cell? ⟨w.heap.size + 1, 3, none⟩ = some (.slice A2 k2 c2) ∧ W''.cell? ⟨w.heap.size + 1, 4, none⟩ = some (.bool b3) ∧ W''.cell? ⟨w.heap.size + 1, 5, none⟩ = some (.slice A3 k3 c3) ∧ W''.cell? ⟨bb, ob + r, none⟩ = some (.int .i64 a) ∧ W''.cell? ⟨H3, 0, none⟩ = some (.bool bu) ∧ W''.cell? ⟨H3, 1, none⟩ = some (.slice Au ku cu)) := HSG
  have HS : Hid (∀ W', Ext W4 W' → W'.cell? ⟨w.heap.size, 0, none⟩ = some (.int .i64 m) ∧ W'.cell? ⟨w.heap.size, 1, none⟩ = some (.slice (some ⟨ba, oa, none⟩) n cc) ∧ W'.cell? ⟨w.heap.size, 2, none⟩ = some (.slice (some ⟨bb, ob, none⟩) n2 d2) ∧ W'.cell? ⟨w.heap.size + 1, 0, none⟩ = some (.bool b1) ∧ W'.cell? ⟨w.heap.size + 1, 1, none⟩ = some (.slice A1 k1 c1) ∧ W'.cell? ⟨w.heap.size + 1, 2, none⟩ = some (.bool b2) ∧ W'.cell? ⟨w.heap.size + 1, 3, none⟩ = some (.slice A2 k2 c2) ∧ W'.cell? ⟨w.heap.size + 1, 4, none⟩ = some (.bool b3) ∧ W'.cell? ⟨w.heap.size + 1, 5, none⟩ = some (.slice A3 k3 c3) ∧ W'.cell? ⟨bb, ob + r, none⟩ = some (.int .i64 a) ∧ W'.cell? ⟨H3, 0, none⟩ = some (.bool bu) ∧ W'.cell? ⟨H3, 1, none⟩ = some (.slice Au ku cu)) := hid fun W' e => HSG.out W' W' e (Off.rfl' _ _)
  clear HSG f0 f1 f2 hca hx4 hvu2 hy hr hv hW4 hgt
  have hcur : Ext W4 W4 := Ext.rfl' _
  go_upto_region 2 with fail
  rw [HW4.out]
  clear hH3
  go_region_held3 (fun W' => W'.cell? ⟨w.heap.size, 0, none⟩ = some (.int .i64 m) ∧ W'.cell? ⟨w.heap.size, 1, none⟩ = some (.slice (some ⟨ba, oa, none⟩) n cc) ∧ W'.cell? ⟨w.heap.size, 2, none⟩ = some (.slice (some ⟨bb, ob, none⟩) n2 d2) ∧ W'.cell? ⟨w.heap.size + 1, 0, none⟩ = some (.bool b1) ∧ W'.cell? ⟨w.heap.size + 1, 1, none⟩ = some (.slice A1 k1 c1) ∧ W'.cell? ⟨w.heap.size + 1, 2, none⟩ = some (.bool b2) ∧ W'.cell? ⟨w.heap.size + 1, 3, none⟩ = some (.slice A2 k2 c2) ∧ W'.cell? ⟨w.heap.size + 1, 4, none⟩ = some (.bool b3) ∧ W'.cell? ⟨w.heap.size + 1, 5, none⟩ = some (.slice A3 k3 c3) ∧ W'.cell? ⟨bb, ob + r, none⟩ = some (.int .i64 a) ∧ W'.cell? ⟨H3, 0, none⟩ = some (.bool bu) ∧ W'.cell? ⟨H3, 1, none⟩ = some (.slice Au ku cu))
    (first | (with_reducible exact HS.out _ hcur) | (with_reducible exact HS.out _ hcur.drew') | (with_reducible exact HSO.out _ _ hcur (((((((Off.rfl' _ _).set _ _).set _ _).set _ _).set _ _).set _ _).set _ _)) | go_keep)
    (first
      | (go_at_call 30; refine (Calls.at_args ?_ (rmul_any (.agg #[.bool bu, .slice Au ku cu]) (.agg #[.bool b1, .slice A1 k1 c1]) (u) (M) _ (HVU.out.ext ?_) (HL1.out.ext ?_) BUB.out.1 B.out.1)).mono ?_; (with_reducible rfl); (first | exact hcur | exact hcur.drew' | exact hcur.alloc' _ | exact hcur.drew'.alloc' _ | exact (hcur.alloc' _).drew'); (first | exact hcur | exact hcur.drew' | exact hcur.alloc' _ | exact hcur.drew'.alloc' _ | exact (hcur.alloc' _).drew'); rintro e w20 ⟨v20, rfl, hv20, hx⟩; have hcur := Ext.step hcur (by first | exact hx | exact Ext.undrew hx | exact Ext.step ((Ext.rfl' _).alloc' _) hx | exact Ext.step ((Ext.rfl' _).drew'.alloc' _) hx); have HV20 := hid hv20; obtain ⟨A20, k20, c20, xs20, b20, rfl, -⟩ := hv20)
      | (go_at_call 30; refine (Calls.at_args ?_ (rmul_any (.agg #[.bool bu, .slice Au ku cu]) (.agg #[.bool b2, .slice A2 k2 c2]) (u) (A) _ (HVU.out.ext ?_) (HL2.out.ext ?_) BUB.out.1 B.out.2.1)).mono ?_; (with_reducible rfl); (first | exact hcur | exact hcur.drew' | exact hcur.alloc' _ | exact hcur.drew'.alloc' _ | exact (hcur.alloc' _).drew'); (first | exact hcur | exact hcur.drew' | exact hcur.alloc' _ | exact hcur.drew'.alloc' _ | exact (hcur.alloc' _).drew'); rintro e w21 ⟨v21, rfl, hv21, hx⟩; have HV20 := hid (by first | exact HV20.out.ext hx | exact HV20.out.ext (Ext.undrew hx) | exact HV20.out.ext (Ext.step ((Ext.rfl' _).alloc' _) hx)); have hcur := Ext.step hcur (by first | exact hx | exact Ext.undrew hx | exact Ext.step ((Ext.rfl' _).alloc' _) hx | exact Ext.step ((Ext.rfl' _).drew'.alloc' _) hx); have HV21 := hid hv21; obtain ⟨A21, k21, c21, xs21, b21, rfl, -⟩ := hv21)
      | (go_at_call_of 28 (Value.int IntKind.i64 a); refine (of_any a _ (by have := BA.out; omega)).mono ?_; rintro e w22 ⟨v22, rfl, hv22, hx⟩; have HV20 := hid (by first | exact HV20.out.ext hx | exact HV20.out.ext (Ext.undrew hx) | exact HV20.out.ext (Ext.step ((Ext.rfl' _).alloc' _) hx)); have HV21 := hid (by first | exact HV21.out.ext hx | exact HV21.out.ext (Ext.undrew hx) | exact HV21.out.ext (Ext.step ((Ext.rfl' _).alloc' _) hx)); have hcur := Ext.step hcur (by first | exact hx | exact Ext.undrew hx | exact Ext.step ((Ext.rfl' _).alloc' _) hx | exact Ext.step ((Ext.rfl' _).drew'.alloc' _) hx); have HV22 := hid hv22; obtain ⟨A22, k22, c22, xs22, b22, rfl, -⟩ := hv22)
      | (go_at_call 30; refine (Calls.at_args ?_ (rmul_any (.agg #[.bool b22, .slice A22 k22 c22]) (.agg #[.bool b3, .slice A3 k3 c3]) (a) (D) _ (HV22.out.ext ?_) (HL3.out.ext ?_) BUB.out.2.1 B.out.2.2.1)).mono ?_; (with_reducible rfl); (first | exact Ext.rfl' _ | exact (Ext.rfl' _).drew' | exact (Ext.rfl' _).alloc' _ | exact (Ext.rfl' _).drew'.alloc' _); (first | exact hcur | exact hcur.drew' | exact hcur.alloc' _ | exact hcur.drew'.alloc' _ | exact (hcur.alloc' _).drew'); rintro e w23 ⟨v23, rfl, hv23, hx⟩; have HV20 := hid (by first | exact HV20.out.ext hx | exact HV20.out.ext (Ext.undrew hx) | exact HV20.out.ext (Ext.step ((Ext.rfl' _).alloc' _) hx)); have HV21 := hid (by first | exact HV21.out.ext hx | exact HV21.out.ext (Ext.undrew hx) | exact HV21.out.ext (Ext.step ((Ext.rfl' _).alloc' _) hx)); have hcur := Ext.step hcur (by first | exact hx | exact Ext.undrew hx | exact Ext.step ((Ext.rfl' _).alloc' _) hx | exact Ext.step ((Ext.rfl' _).drew'.alloc' _) hx); have HV23 := hid hv23; obtain ⟨A23, k23, c23, xs23, b23, rfl, -⟩ := hv23)
      | (go_at_call 31; refine (radd_any _ _ (u * A) (a * D) _ (HV21.out.ext ?_) (HV23.out.ext ?_) B.out.2.2.2.1 B.out.2.2.2.2).mono ?_; (first | exact Ext.rfl' _ | exact (Ext.rfl' _).drew' | exact (Ext.rfl' _).alloc' _ | exact (Ext.rfl' _).drew'.alloc' _); (first | exact Ext.rfl' _ | exact (Ext.rfl' _).drew' | exact (Ext.rfl' _).alloc' _ | exact (Ext.rfl' _).drew'.alloc' _); rintro e w24 ⟨v24, rfl, hv24, hx⟩; have HV20 := hid (by first | exact HV20.out.ext hx | exact HV20.out.ext (Ext.undrew hx) | exact HV20.out.ext (Ext.step ((Ext.rfl' _).alloc' _) hx)); have hcur := Ext.step hcur (by first | exact hx | exact Ext.undrew hx | exact Ext.step ((Ext.rfl' _).alloc' _) hx | exact Ext.step ((Ext.rfl' _).drew'.alloc' _) hx); have HV24 := hid hv24; obtain ⟨A24, k24, c24, xs24, b24, rfl, -⟩ := hv24)
      | (go_at_call_of 28 (Value.int IntKind.i64 m); refine (of_any m _ (by have := BM.out; omega)).mono ?_; rintro e w25 ⟨v25, rfl, hv25, hx⟩; have HV20 := hid (by first | exact HV20.out.ext hx | exact HV20.out.ext (Ext.undrew hx) | exact HV20.out.ext (Ext.step ((Ext.rfl' _).alloc' _) hx)); have HV24 := hid (by first | exact HV24.out.ext hx | exact HV24.out.ext (Ext.undrew hx) | exact HV24.out.ext (Ext.step ((Ext.rfl' _).alloc' _) hx)); have hcur := Ext.step hcur (by first | exact hx | exact Ext.undrew hx | exact Ext.step ((Ext.rfl' _).alloc' _) hx | exact Ext.step ((Ext.rfl' _).drew'.alloc' _) hx); have HV25 := hid hv25; obtain ⟨A25, k25, c25, xs25, b25, rfl, -⟩ := hv25)
      | (go_at_call 30; refine (Calls.at_args ?_ (rmul_any (.agg #[.bool b3, .slice A3 k3 c3]) (.agg #[.bool b25, .slice A25 k25 c25]) (D) (m) _ (HL3.out.ext ?_) (HV25.out.ext ?_) B.out.2.2.1 BUB.out.2.2)).mono ?_; (with_reducible rfl); (first | exact hcur | exact hcur.drew' | exact hcur.alloc' _ | exact hcur.drew'.alloc' _ | exact (hcur.alloc' _).drew'); (first | exact Ext.rfl' _ | exact (Ext.rfl' _).drew' | exact (Ext.rfl' _).alloc' _ | exact (Ext.rfl' _).drew'.alloc' _); rintro e w26 ⟨v26, rfl, hv26, hx⟩; have HV20 := hid (by first | exact HV20.out.ext hx | exact HV20.out.ext (Ext.undrew hx) | exact HV20.out.ext (Ext.step ((Ext.rfl' _).alloc' _) hx)); have HV24 := hid (by first | exact HV24.out.ext hx | exact HV24.out.ext (Ext.undrew hx) | exact HV24.out.ext (Ext.step ((Ext.rfl' _).alloc' _) hx)); have hcur := Ext.step hcur (by first | exact hx | exact Ext.undrew hx | exact Ext.step ((Ext.rfl' _).alloc' _) hx | exact Ext.step ((Ext.rfl' _).drew'.alloc' _) hx); have HV26 := hid hv26; obtain ⟨A26, k26, c26, xs26, b26, rfl, -⟩ := hv26; (have hyy := row_facts6 (R3.out.ext (HE4.out.step hcur)); obtain ⟨⟨y0, y1, y2, y3, y4, y5⟩, z0, z1, z2, z3, z4, z5⟩ := hyy)))
  all_goals
    have HF := hid (LineR.put (l := (u * M, u * A + a * D, D * m)) (R3.out.ext (HE4.out.step hcur)) (HX.out.step (HE4.out.step hcur)) (by omega) HV20.out HV24.out HV26.out)
    go_wp2
    refine bodyPost_ret (v := .agg #[.bool b20, .slice A20 k20 c20, .bool b24, .slice A24 k24 c24, .bool b26, .slice A26 k26 c26]) (by simp [results, Tryz.results56, go_sem, y0, y1, y2, y3, y4, y5]) rfl HF.out
end Go.Proofs.YtleccblkafcidaaGreatDoor
/- a number is mapped by the linear map of its word as by Run -/
namespace Go.Proofs.YtleccblkafcidaaGreatDoor
open Go.RowKit
theorem word_snoc (m : Int) (us ad : List Int) (k : Nat) (x : Int) : wordI m us ad (k + 1) x = wordI m us ad k x ++ [orbN m us ad k x % m] := by
  unfold wordI; rw [List.range_succ, List.map_append]; rfl
theorem word_len (m : Int) (us ad : List Int) (k : Nat) (x : Int) : (wordI m us ad k x).length = k := by simp [wordI]
theorem word_B {m : Int} {us ad : List Int} {k : Nat} {x : Int} (hm : 0 < m) (hk : k ≤ 200) : wordB m (wordI m us ad k x) = true :=
  wordB_iff.2 ⟨by rw [word_len]; exact hk, fun r hr => by
    obtain ⟨i, -, rfl⟩ := List.mem_map.1 hr
    exact ⟨Int.emod_nonneg _ (by omega), Int.emod_lt_of_pos _ hm⟩⟩
theorem div_shift {m u a r q y : Int} (hy : y = m * q + r) (h : (u * r + a) % m = 0) : (u * y + a) % m = 0 := by
  subst hy
  rw [show u * (m * q + r) + a = (u * r + a) + m * (u * q) by rw [Int.mul_add, Int.mul_left_comm]; omega, Int.add_mul_emod_self_left]
  exact h
theorem step_mul {m : Int} {us ad : List Int} (hM : mapP m us ad) (y : Int) : stepI m us ad y * m = us.getD (y % m).toNat 0 * y + ad.getD (y % m).toNat 0 := by
  have hr := rOf_lt (m := m) (x := y) (by have := hM.1; omega)
  have hu := rule_at hM y
  have hd : (us.getD (rOf m y) 0 * y + ad.getD (rOf m y) 0) % m = 0 := div_shift (r := (rOf m y : Int)) (q := y / m) (by rw [hr.2]; exact (Int.mul_ediv_add_emod y m).symm) hu.2.2.2.2
  show (us.getD (rOf m y) 0 * y + ad.getD (rOf m y) 0) / m * m = _
  rw [Int.ediv_mul_cancel (Int.dvd_of_emod_eq_zero hd)]
  rfl
theorem lin_orb {m : Int} {us ad : List Int} (hM : mapP m us ad) (x : Int) : ∀ k : Nat, (lineI m us ad (wordI m us ad k x)).1 * x + (lineI m us ad (wordI m us ad k x)).2.1 = (lineI m us ad (wordI m us ad k x)).2.2 * orbN m us ad k x
  | 0 => by
    show (1 : Int) * x + 0 = 1 * x
    omega
  | k + 1 => by
    have ih := lin_orb hM x k
    have hs := step_mul hM (orbN m us ad k x)
    rw [word_snoc, lineI_snoc]
    show us.getD _ 0 * (lineI m us ad (wordI m us ad k x)).1 * x + (us.getD _ 0 * (lineI m us ad (wordI m us ad k x)).2.1 + ad.getD _ 0 * (lineI m us ad (wordI m us ad k x)).2.2) = (lineI m us ad (wordI m us ad k x)).2.2 * m * stepI m us ad (orbN m us ad k x)
    generalize lineI m us ad (wordI m us ad k x) = l at *
    generalize us.getD (orbN m us ad k x % m).toNat 0 = u at *
    generalize ad.getD (orbN m us ad k x % m).toNat 0 = a at *
    generalize stepI m us ad (orbN m us ad k x) = s at *
    generalize orbN m us ad k x = y at *
    obtain ⟨M, A, D⟩ := l
    simp only at ih ⊢
    have e1 : u * M * x + (u * A + a * D) = u * (M * x + A) + a * D := by rw [Int.mul_add, Int.mul_assoc, Int.add_assoc]
    rw [e1, ih, Int.mul_assoc, Int.mul_comm m s, hs, Int.mul_add, Int.mul_left_comm, Int.mul_comm a D]
theorem run_orb {m : Int} {us ad : List Int} (k : Nat) : ∀ (x : Int), none ∉ seqO m us ad k x → runO m us ad k x = some (orbN m us ad k x) := by
  induction k with
  | zero => intro x h; rfl
  | succ k ih =>
    intro x h
    rw [seqO] at h
    rw [runO_succ, orbN_cons]
    have ih2 := ih (stepI m us ad x)
    generalize fitsB (stepI m us ad x) = b at *
    cases b with
    | true =>
      rw [if_pos rfl] at h ⊢
      exact ih2 (fun h2 => h (List.mem_cons_of_mem _ h2))
    | false =>
      rw [if_neg (by simp)] at h
      exact absurd (List.mem_singleton.2 rfl) h
/-- what a run tells, where the word is told -/
def RunS (m : Int) (us ad : List Int) (k : Nat) (x : Int) : Prop := (K.fits (orbN m us ad k x) ∧ runO m us ad k x = some (orbN m us ad k x)) ∨ (¬ K.fits (orbN m us ad k x) ∧ runO m us ad k x = none)
theorem run_s {m : Int} {us ad : List Int} {k : Nat} {x : Int} (h : none ∉ seqO m us ad k x) : RunS m us ad (k + 1) x := by
  unfold RunS
  rw [runO_snoc, run_orb k x h, Option.bind_some]
  show (K.fits (stepI m us ad (orbN m us ad k x)) ∧ _) ∨ (¬ K.fits (stepI m us ad (orbN m us ad k x)) ∧ _)
  by_cases hf : K.fits (stepI m us ad (orbN m us ad k x))
  · exact .inl ⟨hf, by rw [if_pos (fitsB_yes hf)]; rfl⟩
  · exact .inr ⟨hf, by rw [if_neg (by rw [fitsB_no hf]; simp)]⟩
theorem run_n {m : Int} {us ad : List Int} {k : Nat} {x : Int} (h : none ∈ seqO m us ad k x) : runO m us ad (k + 1) x = none := by
  rw [runO_snoc, (seq_run m us ad k x).2 h]; rfl
/-- what Word tells -/
def WordS (m : Int) (us ad : List Int) (k : Nat) (x : Int) (ws : List Int) (f : Int) : Prop := (f = 0 ∧ ws = wordI m us ad k x ∧ RunS m us ad k x) ∨ (f = 3 ∧ runO m us ad k x = none)
theorem fits_mul {D y : Int} (hD : 0 < D) (h : K.fits (D * y)) : K.fits y := by
  unfold K.fits at *
  rw [Int.natAbs_mul] at h
  have h1 : 1 * y.natAbs ≤ D.natAbs * y.natAbs := Nat.mul_le_mul_right _ (by omega)
  omega
theorem applyl_yes (M A D N y : Int) (su sa sd : ByteArray) (ln : List UInt8) (sy : ByteArray) (w : World) (FM : K.fits M) (FA : K.fits A) (FD : K.fits D) (v3 : K.validL ln = true) (hN : K.numL ln = N) (ht : Tab w) (hd : 0 < D) (e : M * N + A = D * y) (hf : K.fits (D * y))
    (h1 : Hid (Str (K.txt M) = su)) (h2 : Hid (Str (K.txt A) = sa)) (h3 : Hid (Str (K.txt D) = sd)) (h4 : Hid (Str (K.txt y) = sy)) :
    Calls Tryz.prog 125 #[.agg #[.string su, .string sa, .string sd], .string (Str ln)] w (fun e w' => e = .returned (.tuple #[.string sy, .bool true, .int .i64 0]) ∧ Ext w w') := by
  obtain ⟨t3, f3⟩ := K.txt_numL ln v3
  have h := apply_yes M A D N w (hid FM) (hid FA) (hid FD) (hid (by rw [← hN]; exact f3)) ht hd (hid (by rw [e]; exact hf)) (by rw [e]; exact Int.mul_emod_right _ _)
  rw [e, Int.mul_ediv_cancel_left _ (by omega), h1.out, h2.out, h3.out, h4.out, ← hN, t3] at h
  exact h
theorem applyl_no (M A D N y : Int) (su sa sd : ByteArray) (ln : List UInt8) (w : World) (FM : K.fits M) (FA : K.fits A) (FD : K.fits D) (v3 : K.validL ln = true) (hN : K.numL ln = N) (ht : Tab w) (hd : 0 < D) (e : M * N + A = D * y) (hf : ¬ K.fits (D * y))
    (h1 : Hid (Str (K.txt M) = su)) (h2 : Hid (Str (K.txt A) = sa)) (h3 : Hid (Str (K.txt D) = sd)) :
    Calls Tryz.prog 125 #[.agg #[.string su, .string sa, .string sd], .string (Str ln)] w (fun e w' => e = .returned (.tuple #[.string ⟨#[]⟩, .bool false, .int .i64 3]) ∧ Ext w w') := by
  obtain ⟨t3, f3⟩ := K.txt_numL ln v3
  have h := apply_size M A D N w (hid FM) (hid FA) (hid FD) (hid (by rw [← hN]; exact f3)) ht hd (hid (by rw [e]; exact hf))
  rw [h1.out, h2.out, h3.out, ← hN, t3] at h
  exact h
end Go.Proofs.YtleccblkafcidaaGreatDoor
/- the law WordLinear -/
namespace Go.Proofs.YtleccblkafcidaaGreatDoor
open Go.RowKit
theorem powers_div {m : Int} {us ad ws : List Int} (hm : 0 < m) : 0 < (lineI m us ad ws).2.2 := by
  rw [lineI_div]; exact Int.pow_pos hm
theorem lin_fits {m : Int} {us ad ws : List Int} (hM : mapP m us ad) (hW : wordB m ws = true) : K.fits (lineI m us ad ws).1 ∧ K.fits (lineI m us ad ws).2.1 ∧ K.fits (lineI m us ad ws).2.2 := by
  have hw := wordB_iff.1 hW
  have hB := lineI_B hM ws hw.2
  have hm := hM.1
  have hf := hB.fits hM hw.1 (r := 0) (by omega) (by omega)
  exact ⟨hf.1, hf.2.1, hf.2.2.1⟩
end Go.Proofs.YtleccblkafcidaaGreatDoor
/- the reference's Then at a map, Of, Text -/
namespace Go.Proofs.YtleccblkafcidaaGreatDoor
open Go.RowKit
theorem lineB_big {m : Int} {us ad : List Int} (hM : mapP m us ad) {k : Nat} {l : Int × Int × Int} (h : LineB k l) (hk : k ≤ 200) {r : Int} (h0 : 0 ≤ r) (h1 : r < m) :
    l.1.natAbs ≤ BIG ∧ l.2.1.natAbs ≤ BIG ∧ l.2.2.natAbs ≤ BIG ∧ (us.getD r.toNat 0 * l.2.1).natAbs ≤ BIG ∧ (ad.getD r.toNat 0 * l.2.2).natAbs ≤ BIG := by
  obtain ⟨f1, f2, f3, -, f5, f6, -⟩ := LineB.fits hM h hk h0 h1
  exact ⟨fits_big f1, fits_big f2, fits_big f3, by rw [Int.mul_comm]; exact fits_big f5, fits_big f6⟩
/-- Then, at a map -/
theorem then_any (v lv : Value) (m r : Int) (us ad : List Int) (l : Int × Int × Int) (k : Nat) (w : World) (hv : MapV w v m us ad) (hM : Hid (mapP m us ad)) (hl : LineR w lv l) (hB : Hid (LineB k l)) (hk : k ≤ 200) (h0 : 0 ≤ r) (h1 : r < m) :
    Calls Tryz.prog 56 #[v, lv, .int .i64 r] w (LinePost (thenL m us ad l r) w) := by
  have hr := rule_of hM.out h0 h1
  have hb := lineB_big hM.out hB.out hk h0 h1
  have hm := hM.out.2.1
  have hm1 := hM.out.1
  obtain ⟨A, n, cc, B, n2, d, rfl, e1, e2, e3, e4, e5, e6, -, -⟩ := hv
  obtain ⟨b1, A1, k1, c1, b2, A2, k2, c2, b3, A3, k3, c3, rfl, g1, g2, g3⟩ := hl
  obtain ⟨q, rfl⟩ : ∃ q : Nat, r = (q : Int) := ⟨r.toNat, by omega⟩
  obtain ⟨ba, oa, eA, -, -⟩ := e5.atI (k := q) (by have := hr.2.2.2.2.1; omega)
  obtain ⟨bb, ob, eB, -, -⟩ := e6.atI (k := q) (by have := hr.2.2.2.2.2; omega)
  subst eA eB
  have h := then_l ba oa bb ob n cc n2 d q (us.getD q 0) (ad.getD q 0) m l.1 l.2.1 l.2.2 b1 b2 b3 A1 A2 A3 k1 c1 k2 c2 k3 c3 us ad w e5 e6 e1 e3 g1 g2 g3 (by have := hr.2.2.2.2.1; omega) (by have := hr.2.2.2.2.2; omega) (hid rfl) (hid rfl)
    (hid hb) (hid (by have h1 := hr.1; have h2 := hr.2.1; simp only [Int.toNat_natCast] at h1 h2; omega)) (hid (by have h1 := hr.2.2.1; have h2 := hr.2.2.2.1; simp only [Int.toNat_natCast] at h1 h2; omega)) (hid (by omega))
  exact h
theorem take_next {ws : List Int} {j : Nat} (h : j < ws.length) : ws.take (j + 1) = ws.take j ++ [ws.getD j 0] := by
  rw [List.take_add_one, List.getElem?_eq_getElem h, List.getD_eq_getElem?_getD, List.getElem?_eq_getElem h]; rfl
theorem line_next (m : Int) (us ad : List Int) {ws : List Int} {j : Nat} (h : j < ws.length) : lineI m us ad (ws.take (j + 1)) = thenL m us ad (lineI m us ad (ws.take j)) (ws.getD j 0) := by
  rw [take_next h, lineI_snoc]
theorem word_at {m : Int} {ws : List Int} (hW : wordB m ws = true) {j : Nat} (h : j < ws.length) : 0 ≤ ws.getD j 0 ∧ ws.getD j 0 < m := by
  refine (wordB_iff.1 hW).2 _ ?_
  rw [List.getD_eq_getElem?_getD, List.getElem?_eq_getElem h]
  exact List.getElem_mem h
theorem take_B {m : Int} {us ad ws : List Int} (hM : mapP m us ad) (hW : wordB m ws = true) {j : Nat} (h : j ≤ ws.length) : LineB j (lineI m us ad (ws.take j)) := by
  have := lineI_B hM (ws.take j) (fun r hr => (wordB_iff.1 hW).2 r (List.mem_of_mem_take hr))
  rwa [List.length_take, Nat.min_eq_left h] at this
/-- a linear map's box written over -/
theorem LineR.over {w3 : World} {l : Int × Int × Int} {H : Nat} {b1 b2 b3 p1 p2 p3 : Bool} {A1 A2 A3 P1 P2 P3 : Option Addr} {k1 c1 k2 c2 k3 c3 q1 d1 q2 d2 q3 d3 : Nat} (r : Row w3 H 92 [.bool b1, .slice A1 k1 c1, .bool b2, .slice A2 k2 c2, .bool b3, .slice A3 k3 c3]) (h : LineR w3 (.agg #[.bool p1, .slice P1 q1 d1, .bool p2, .slice P2 q2 d2, .bool p3, .slice P3 q3 d3]) l) :
    LineR (((((((w3.setCell ⟨H, 0, none⟩ (.bool p1)).setCell ⟨H, 1, none⟩ (.slice P1 q1 d1)).setCell ⟨H, 2, none⟩ (.bool p2)).setCell ⟨H, 3, none⟩ (.slice P2 q2 d2)).setCell ⟨H, 4, none⟩ (.bool p3)).setCell ⟨H, 5, none⟩ (.slice P3 q3 d3))) (.agg #[.bool p1, .slice P1 q1 d1, .bool p2, .slice P2 q2 d2, .bool p3, .slice P3 q3 d3]) l := by
  have ho : Off w3 (((((((w3.setCell ⟨H, 0, none⟩ (.bool p1)).setCell ⟨H, 1, none⟩ (.slice P1 q1 d1)).setCell ⟨H, 2, none⟩ (.bool p2)).setCell ⟨H, 3, none⟩ (.slice P2 q2 d2)).setCell ⟨H, 4, none⟩ (.bool p3)).setCell ⟨H, 5, none⟩ (.slice P3 q3 d3))) H := (((((((Off.rfl' _ _).set _ _).set _ _).set _ _).set _ _).set _ _).set _ _)
  exact h.kept (ho.keep r (no_int6 _ _ _ _ _ _ _ _ _ _ _ _))
theorem Ext.set6 {w w3 : World} {H : Nat} {a b c d e f : Value} (hw : Ext w w3) (hH : w.heap.size ≤ H) : Ext w (((((((w3.setCell ⟨H, 0, none⟩ (a)).setCell ⟨H, 1, none⟩ (b)).setCell ⟨H, 2, none⟩ (c)).setCell ⟨H, 3, none⟩ (d)).setCell ⟨H, 4, none⟩ (e)).setCell ⟨H, 5, none⟩ (f))) :=
  ((((((hw.set' (by show _ ≤ H; omega) _).set' (by show _ ≤ H; omega) _).set' (by show _ ≤ H; omega) _).set' (by show _ ≤ H; omega) _).set' (by show _ ≤ H; omega) _).set' (by show _ ≤ H; omega) _)
theorem Off.six {w3 : World} {H : Nat} {a b c d e f : Value} : Off w3 (((((((w3.setCell ⟨H, 0, none⟩ (a)).setCell ⟨H, 1, none⟩ (b)).setCell ⟨H, 2, none⟩ (c)).setCell ⟨H, 3, none⟩ (d)).setCell ⟨H, 4, none⟩ (e)).setCell ⟨H, 5, none⟩ (f))) H := (((((((Off.rfl' _ _).set _ _).set _ _).set _ _).set _ _).set _ _).set _ _)
set_option maxRecDepth 100000 in
set_option maxHeartbeats 12800000 in
theorem of_line (v : Value) (m : Int) (us ad : List Int) (Wd : Option Addr) (wn wc : Nat) (ws : List Int) (w : World) (hv : MapV w v m us ad) (hw : Rd w Wd (Is ws)) (hl : ws.length = wn) (hM : Hid (mapP m us ad)) (hW : Hid (wordB m ws = true)) :
    Calls Tryz.prog 93 #[v, .slice Wd wn wc] w (LinePost (lineI m us ad ws) w) := by
  have h200 : wn ≤ 200 := by rw [← hl]; exact (wordB_iff.1 hW.out).1
  have HV := hid hv
  have HWD := hid hw
  have HL := hid hl
  obtain ⟨A, n, cc, B, n2, d, rfl, -⟩ := hv
  have hx : Ext w ((w.alloc (.cells #[.int .i64 m, .slice A n cc, .slice B n2 d] 24)).alloc (.cells #[.bool false, .slice none 0 0, .bool false, .slice none 0 0, .bool false, .slice none 0 0] 92)) := ((Ext.rfl' w).alloc' _).alloc' _
  have hr1 : Row ((w.alloc (.cells #[.int .i64 m, .slice A n cc, .slice B n2 d] 24)).alloc (.cells #[.bool false, .slice none 0 0, .bool false, .slice none 0 0, .bool false, .slice none 0 0] 92)) w.heap.size 24 [.int .i64 m, .slice A n cc, .slice B n2 d] := (Row.new w _ _).alloc _
  have hr2 : Row ((w.alloc (.cells #[.int .i64 m, .slice A n cc, .slice B n2 d] 24)).alloc (.cells #[.bool false, .slice none 0 0, .bool false, .slice none 0 0, .bool false, .slice none 0 0] 92)) (w.heap.size + 1) 92 [.bool false, .slice none 0 0, .bool false, .slice none 0 0, .bool false, .slice none 0 0] := by
    have := Row.new (w.alloc (.cells #[.int .i64 m, .slice A n cc, .slice B n2 d] 24)) 92 [.bool false, .slice none 0 0, .bool false, .slice none 0 0, .bool false, .slice none 0 0]
    rwa [World.size_alloc] at this
  obtain ⟨W2, hW2⟩ : ∃ W2, ((w.alloc (.cells #[.int .i64 m, .slice A n cc, .slice B n2 d] 24)).alloc (.cells #[.bool false, .slice none 0 0, .bool false, .slice none 0 0, .bool false, .slice none 0 0] 92)) = W2 := ⟨_, rfl⟩
  rw [hW2] at hx hr1 hr2
  have HW2 := hid hW2
  have HX := hid hx
  have R1 := hid hr1
  have R2 := hid hr2
  clear hW2 hx hr1 hr2 hw hl
  go_enter Tryz.func93, Tryz.ntmps93
  go_upto_region 1 with fail
  rw [HW2.out]
  go_wp2_with fail
  refine (one_any W2).mono ?_
  rintro e w3 ⟨v3, rfl, hv3, hx3⟩
  have hv3' := hv3
  obtain ⟨b1, A1, k1, c1, b2, A2, k2, c2, b3, A3, k3, c3, rfl, -⟩ := hv3
  have hy := hx3.alloc' (.cells #[.bool b1, .slice A1 k1 c1, .bool b2, .slice A2 k2 c2, .bool b3, .slice A3 k3 c3] 92)
  have hr := Row.new w3 92 [.bool b1, .slice A1 k1 c1, .bool b2, .slice A2 k2 c2, .bool b3, .slice A3 k3 c3]
  have hvv := hv3'.ext ((Ext.rfl' w3).alloc' (.cells #[.bool b1, .slice A1 k1 c1, .bool b2, .slice A2 k2 c2, .bool b3, .slice A3 k3 c3] 92))
  obtain ⟨HB, hHB⟩ : ∃ HB, w3.heap.size = HB := ⟨_, rfl⟩
  have hgt : w.heap.size + 1 < HB := by
    have e1 := R2.out.lt
    have e2 := hx3.size
    omega
  obtain ⟨W4, hW4⟩ : ∃ W4, w3.alloc (.cells #[.bool b1, .slice A1 k1 c1, .bool b2, .slice A2 k2 c2, .bool b3, .slice A3 k3 c3] 92) = W4 := ⟨_, rfl⟩
  rw [hW4] at hy hr hvv
  rw [hHB] at hr
  have HW4 := hid hW4
  have HE4 := hid hy
  have R4 := hid hr
  have HL4 := hid hvv
  have HGT := hid hgt
  clear hx3 hv3' hy hr hvv hW4 hgt
  go_upto_region 2 with fail
  rw [HW4.out]
  clear hHB
  go_wp2_with fail
  go_loopw [6] (fun iz wr => ∃ (j : Nat) (b1 : Bool) (A1 : Option Addr) (k1 c1 : Nat) (b2 : Bool) (A2 : Option Addr) (k2 c2 : Nat) (b3 : Bool) (A3 : Option Addr) (k3 c3 : Nat), j ≤ wn ∧ iz = .int .i64 (j : Int) ∧ Row wr w.heap.size 24 [.int .i64 m, .slice A n cc, .slice B n2 d] ∧ Row wr (w.heap.size + 1) 92 [.bool false, .slice none 0 0, .bool false, .slice none 0 0, .bool false, .slice none 0 0] ∧ Row wr HB 92 [.bool b1, .slice A1 k1 c1, .bool b2, .slice A2 k2 c2, .bool b3, .slice A3 k3 c3] ∧ LineR wr (.agg #[.bool b1, .slice A1 k1 c1, .bool b2, .slice A2 k2 c2, .bool b3, .slice A3 k3 c3]) (lineI m us ad (ws.take j)) ∧ Ext w wr) (fun iz _ => wn - (intOf iz).toNat)
  case atStart => exact ⟨0, b1, A1, k1, c1, b2, A2, k2, c2, b3, A3, k3, c3, by omega, rfl, R1.out.ext HE4.out, R2.out.ext HE4.out, R4.out, HL4.out, HX.out.step HE4.out⟩
  case round =>
    clear R1 R2 R4 HL4
    obtain ⟨j, b1, A1, k1, c1, b2, A2, k2, c2, b3, A3, k3, c3, hj, rfl, hr1, hr2, hr3, hlr, hex⟩ := hrel
    have RM := hid hr1
    have RZ := hid hr2
    have RL := hid hr3
    have LR := hid hlr
    have EX := hid hex
    clear hr1 hr2 hr3 hlr hex
    obtain ⟨⟨y0, y1, y2, y3, y4, y5⟩, z0, z1, z2, z3, z4, z5⟩ := row_facts6 RL.out
    by_cases hlt : j < wn
    · have hjl : j < ws.length := by rw [HL.out]; exact hlt
      have HJ := hid (word_at hW.out hjl)
      obtain ⟨rr, hrr⟩ : ∃ rr, ws.getD j 0 = rr := ⟨_, rfl⟩
      have HRR := hid hrr
      obtain ⟨bw, ow, ew, -, hcw⟩ := (HWD.out.ext EX.out).atI (k := j) hjl
      subst ew
      rw [hrr] at hcw
      have HCW := hid hcw
      have HNX := hid (line_next m us ad hjl)
      have HTB := hid (take_B hM.out hW.out (Nat.le_of_lt hjl) (us := us) (ad := ad))
      have i0 : (0 : Int) ≤ (j : Int) := by omega
      have i1 : (j : Int) < (wn : Int) := by omega
      obtain ⟨f0, f1, f2, -, -, -⟩ := row_facts3 RM.out
      have hcur : Ext wr wr := Ext.rfl' _
      clear hrr hjl
      go_upto_region 5 with fail
      go_region_with (go_at_call 56; refine (then_any _ _ m rr us ad (lineI m us ad (ws.take j)) j _ (HV.out.ext (EX.out.step ?_)) hM (LR.out.ext ?_) HTB (by omega) (by rw [← HRR.out]; exact HJ.out.1) (by rw [← HRR.out]; exact HJ.out.2)).mono ?_; (first | exact hcur | exact hcur.drew' | exact hcur.alloc' _ | exact hcur.drew'.alloc' _ | exact (hcur.alloc' _).drew'); (first | exact hcur | exact hcur.drew' | exact hcur.alloc' _ | exact hcur.drew'.alloc' _ | exact (hcur.alloc' _).drew'); rintro e w6 ⟨v6, rfl, hv6, hx⟩; have hcur := Ext.step hcur (by first | exact hx | exact Ext.undrew hx | exact Ext.step ((Ext.rfl' _).alloc' _) hx | exact Ext.step ((Ext.rfl' _).drew'.alloc' _) hx); have HV6 := hid hv6; obtain ⟨p1, P1, q1, d1, p2, P2, q2, d2, p3, P3, q3, d3, rfl, -⟩ := hv6; obtain ⟨⟨y0, y1, y2, y3, y4, y5⟩, z0, z1, z2, z3, z4, z5⟩ := row_facts6 (RL.out.ext hcur))
      all_goals
        have rl := RL.out.ext hcur
        have HFIN : Hid (∀ WF, WF = (((((((w6.setCell ⟨HB, 0, none⟩ (.bool p1)).setCell ⟨HB, 1, none⟩ (.slice P1 q1 d1)).setCell ⟨HB, 2, none⟩ (.bool p2)).setCell ⟨HB, 3, none⟩ (.slice P2 q2 d2)).setCell ⟨HB, 4, none⟩ (.bool p3)).setCell ⟨HB, 5, none⟩ (.slice P3 q3 d3))) → ∃ (jn : Nat) (b1 : Bool) (A1 : Option Addr) (k1 c1 : Nat) (b2 : Bool) (A2 : Option Addr) (k2 c2 : Nat) (b3 : Bool) (A3 : Option Addr) (k3 c3 : Nat), jn ≤ wn ∧ Value.int .i64 ((j : Int) + 1) = .int .i64 (jn : Int) ∧ Row WF w.heap.size 24 [.int .i64 m, .slice A n cc, .slice B n2 d] ∧ Row WF (w.heap.size + 1) 92 [.bool false, .slice none 0 0, .bool false, .slice none 0 0, .bool false, .slice none 0 0] ∧ Row WF HB 92 [.bool b1, .slice A1 k1 c1, .bool b2, .slice A2 k2 c2, .bool b3, .slice A3 k3 c3] ∧ LineR WF (.agg #[.bool b1, .slice A1 k1 c1, .bool b2, .slice A2 k2 c2, .bool b3, .slice A3 k3 c3]) (lineI m us ad (ws.take jn)) ∧ Ext w WF) := hid (by
          rintro WF rfl
          have ho : Off w6 _ HB := Off.six (w3 := w6) (H := HB) (a := .bool p1) (b := .slice P1 q1 d1) (c := .bool p2) (d := .slice P2 q2 d2) (e := .bool p3) (f := .slice P3 q3 d3)
          refine ⟨j + 1, p1, P1, q1, d1, p2, P2, q2, d2, p3, P3, q3, d3, by omega, by simp, ho.row (RM.out.ext hcur) (by have := HGT.out; omega), ho.row (RZ.out.ext hcur) (by have := HGT.out; omega), rl.put6, ?_, (EX.out.step hcur).set6 (by have := HGT.out; omega)⟩
          rw [HNX.out, HRR.out]
          exact LineR.over rl HV6.out)
        clear rl hcur
        go_wp2
        go_roundw
        case rel => exact HFIN.out _ rfl
        case measure => first | (simp [intOf]; done) | (simp [intOf]; omega)
    · obtain rfl : j = wn := by omega
      have HTK := hid (show ws.take j = ws from by rw [← HL.out, List.take_length])
      have hfin : LinePost (lineI m us ad ws) w (.returned (.agg #[.bool b1, .slice A1 k1 c1, .bool b2, .slice A2 k2 c2, .bool b3, .slice A3 k3 c3])) (((((((wr.setCell ⟨w.heap.size + 1, 0, none⟩ (.bool b1)).setCell ⟨w.heap.size + 1, 1, none⟩ (.slice A1 k1 c1)).setCell ⟨w.heap.size + 1, 2, none⟩ (.bool b2)).setCell ⟨w.heap.size + 1, 3, none⟩ (.slice A2 k2 c2)).setCell ⟨w.heap.size + 1, 4, none⟩ (.bool b3)).setCell ⟨w.heap.size + 1, 5, none⟩ (.slice A3 k3 c3))) := by
        have h := LR.out
        rw [HTK.out] at h
        exact ⟨_, rfl, LineR.over RZ.out h, EX.out.set6 (by omega)⟩
      have HF := hid hfin
      obtain ⟨⟨x0, x1, x2, x3, x4, x5⟩, s0, s1, s2, s3, s4, s5⟩ := row_facts6 RZ.out
      clear hfin
      go_wp2
      refine bodyPost_ret (v := .agg #[.bool b1, .slice A1 k1 c1, .bool b2, .slice A2 k2 c2, .bool b3, .slice A3 k3 c3]) (by simp [results, Tryz.results93, go_sem, x0, x1, x2, x3, x4, x5]) rfl HF.out
set_option maxRecDepth 100000 in
set_option maxHeartbeats 6400000 in
theorem text_l (b1 b2 b3 : Bool) (A1 A2 A3 : Option Addr) (k1 c1 k2 c2 k3 c3 : Nat) (X Y Z : Int) (s1 s2 s3 : ByteArray) (w : World) (h1 : RefV w (.agg #[.bool b1, .slice A1 k1 c1]) X) (h2 : RefV w (.agg #[.bool b2, .slice A2 k2 c2]) Y) (h3 : RefV w (.agg #[.bool b3, .slice A3 k3 c3]) Z)
    (HB : Hid (X.natAbs ≤ BIG ∧ Y.natAbs ≤ BIG ∧ Z.natAbs ≤ BIG)) (Hs1 : Hid (Str (K.txt X) = s1)) (Hs2 : Hid (Str (K.txt Y) = s2)) (Hs3 : Hid (Str (K.txt Z) = s3)) :
    Calls Tryz.prog 59 #[.agg #[.bool b1, .slice A1 k1 c1, .bool b2, .slice A2 k2 c2, .bool b3, .slice A3 k3 c3]] w (fun e w' => e = .returned (.agg #[.string s1, .string s2, .string s3]) ∧ Ext w w') := by
  have hx : Ext w ((w.alloc (.cells #[.bool b1, .slice A1 k1 c1, .bool b2, .slice A2 k2 c2, .bool b3, .slice A3 k3 c3] 92)).alloc (.cells #[.string ⟨#[]⟩, .string ⟨#[]⟩, .string ⟨#[]⟩] 38)) := ((Ext.rfl' w).alloc' _).alloc' _
  have hr1 : Row ((w.alloc (.cells #[.bool b1, .slice A1 k1 c1, .bool b2, .slice A2 k2 c2, .bool b3, .slice A3 k3 c3] 92)).alloc (.cells #[.string ⟨#[]⟩, .string ⟨#[]⟩, .string ⟨#[]⟩] 38)) w.heap.size 92 [.bool b1, .slice A1 k1 c1, .bool b2, .slice A2 k2 c2, .bool b3, .slice A3 k3 c3] := (Row.new w _ _).alloc _
  have hr2 : Row ((w.alloc (.cells #[.bool b1, .slice A1 k1 c1, .bool b2, .slice A2 k2 c2, .bool b3, .slice A3 k3 c3] 92)).alloc (.cells #[.string ⟨#[]⟩, .string ⟨#[]⟩, .string ⟨#[]⟩] 38)) (w.heap.size + 1) 38 [.string ⟨#[]⟩, .string ⟨#[]⟩, .string ⟨#[]⟩] := by
    have := Row.new (w.alloc (.cells #[.bool b1, .slice A1 k1 c1, .bool b2, .slice A2 k2 c2, .bool b3, .slice A3 k3 c3] 92)) 38 [.string ⟨#[]⟩, .string ⟨#[]⟩, .string ⟨#[]⟩]
    rwa [World.size_alloc] at this
  obtain ⟨W2, hW2⟩ : ∃ W2, ((w.alloc (.cells #[.bool b1, .slice A1 k1 c1, .bool b2, .slice A2 k2 c2, .bool b3, .slice A3 k3 c3] 92)).alloc (.cells #[.string ⟨#[]⟩, .string ⟨#[]⟩, .string ⟨#[]⟩] 38)) = W2 := ⟨_, rfl⟩
  rw [hW2] at hx hr1 hr2
  have HW2 := hid hW2
  have HX := hid hx
  have R1 := hid hr1
  have R2 := hid hr2
  have HL1 := hid (h1.ext hx)
  have HL2 := hid (h2.ext hx)
  have HL3 := hid (h3.ext hx)
  have HSO : Hid (∀ W' W'', Ext W2 W' → Off W' W'' (w.heap.size + 1) → W''.cell? ⟨w.heap.size, 0, none⟩ = some (.bool b1) ∧ W''.cell? ⟨w.heap.size, 1, none⟩ = some (.slice A1 k1 c1) ∧ W''.cell? ⟨w.heap.size, 2, none⟩ = some (.bool b2) ∧ W''.cell? ⟨w.heap.size, 3, none⟩ = some (.slice A2 k2 c2) ∧ W''.cell? ⟨w.heap.size, 4, none⟩ = some (.bool b3) ∧ W''.cell? ⟨w.heap.size, 5, none⟩ = some (.slice A3 k3 c3)) := hid (by
    intro W' W'' e ho
    obtain ⟨⟨q0, q1, q2, q3, q4, q5⟩, -⟩ := row_facts6 (ho.row (R1.out.ext e) (by omega))
    exact ⟨q0, q1, q2, q3, q4, q5⟩)
  have HS : Hid (∀ W', Ext W2 W' → W'.cell? ⟨w.heap.size, 0, none⟩ = some (.bool b1) ∧ W'.cell? ⟨w.heap.size, 1, none⟩ = some (.slice A1 k1 c1) ∧ W'.cell? ⟨w.heap.size, 2, none⟩ = some (.bool b2) ∧ W'.cell? ⟨w.heap.size, 3, none⟩ = some (.slice A2 k2 c2) ∧ W'.cell? ⟨w.heap.size, 4, none⟩ = some (.bool b3) ∧ W'.cell? ⟨w.heap.size, 5, none⟩ = some (.slice A3 k3 c3)) := hid fun W' e => HSO.out W' W' e (Off.rfl' _ _)
  clear hW2 hx hr1 hr2 h1 h2 h3
  go_enter Tryz.func59, Tryz.ntmps59
  have hcur : Ext W2 W2 := Ext.rfl' _
  go_upto_region 1 with fail
  rw [HW2.out]
  go_region_held3 (fun W' => W'.cell? ⟨w.heap.size, 0, none⟩ = some (.bool b1) ∧ W'.cell? ⟨w.heap.size, 1, none⟩ = some (.slice A1 k1 c1) ∧ W'.cell? ⟨w.heap.size, 2, none⟩ = some (.bool b2) ∧ W'.cell? ⟨w.heap.size, 3, none⟩ = some (.slice A2 k2 c2) ∧ W'.cell? ⟨w.heap.size, 4, none⟩ = some (.bool b3) ∧ W'.cell? ⟨w.heap.size, 5, none⟩ = some (.slice A3 k3 c3))
    (first | (with_reducible exact HS.out _ hcur) | (with_reducible exact HS.out _ hcur.drew') | (with_reducible exact HSO.out _ _ hcur ((((Off.rfl' _ _).set _ _).set _ _).set _ _)) | go_keep)
    (first
      | (go_at_call_of 45 (Value.agg #[Value.bool b1, Value.slice A1 k1 c1]); refine (rtext_s _ (HL1.out.ext ?_) HB.out.1 Hs1).mono ?_; (first | exact hcur | exact hcur.drew' | exact hcur.alloc' _ | exact hcur.drew'.alloc' _ | exact (hcur.alloc' _).drew'); rintro e w31 ⟨rfl, hx⟩; have hcur := Ext.step hcur (by first | exact hx | exact Ext.undrew hx | exact Ext.step ((Ext.rfl' _).alloc' _) hx | exact Ext.step ((Ext.rfl' _).drew'.alloc' _) hx))
      | (go_at_call_of 45 (Value.agg #[Value.bool b2, Value.slice A2 k2 c2]); refine (rtext_s _ (HL2.out.ext ?_) HB.out.2.1 Hs2).mono ?_; (first | exact hcur | exact hcur.drew' | exact hcur.alloc' _ | exact hcur.drew'.alloc' _ | exact (hcur.alloc' _).drew'); rintro e w32 ⟨rfl, hx⟩; have hcur := Ext.step hcur (by first | exact hx | exact Ext.undrew hx | exact Ext.step ((Ext.rfl' _).alloc' _) hx | exact Ext.step ((Ext.rfl' _).drew'.alloc' _) hx))
      | (go_at_call_of 45 (Value.agg #[Value.bool b3, Value.slice A3 k3 c3]); refine (rtext_s _ (HL3.out.ext ?_) HB.out.2.2 Hs3).mono ?_; (first | exact hcur | exact hcur.drew' | exact hcur.alloc' _ | exact hcur.drew'.alloc' _ | exact (hcur.alloc' _).drew'); rintro e w33 ⟨rfl, hx⟩; have hcur := Ext.step hcur (by first | exact hx | exact Ext.undrew hx | exact Ext.step ((Ext.rfl' _).alloc' _) hx | exact Ext.step ((Ext.rfl' _).drew'.alloc' _) hx); (have hyy := row_facts3 (R2.out.ext hcur); obtain ⟨y0, y1, y2, y3, y4, y5⟩ := hyy)))
  all_goals
    have HF := hid ((HX.out.step hcur).set3 (H := w.heap.size + 1) (a := .string s1) (b := .string s2) (c := .string s3) (by omega))
    go_wp2
    refine bodyPost_ret (v := .agg #[.string s1, .string s2, .string s3]) (by simp [results, Tryz.results59, go_sem, y0, y1, y2]) rfl ⟨rfl, HF.out⟩
/-- the reference's Text, in the words of Line -/
theorem text_line (v : Value) (l : Int × Int × Int) (w : World) (h : LineR w v l) (s1 s2 s3 : ByteArray) (HB : Hid (K.fits l.1 ∧ K.fits l.2.1 ∧ K.fits l.2.2)) (Hs1 : Hid (Str (K.txt l.1) = s1)) (Hs2 : Hid (Str (K.txt l.2.1) = s2)) (Hs3 : Hid (Str (K.txt l.2.2) = s3)) :
    Calls Tryz.prog 59 #[v] w (fun e w' => e = .returned (.agg #[.string s1, .string s2, .string s3]) ∧ Ext w w') := by
  obtain ⟨b1, A1, k1, c1, b2, A2, k2, c2, b3, A3, k3, c3, rfl, h1, h2, h3⟩ := h
  exact text_l b1 b2 b3 A1 A2 A3 k1 c1 k2 c2 k3 c3 l.1 l.2.1 l.2.2 s1 s2 s3 w h1 h2 h3 (hid ⟨fits_big HB.out.1, fits_big HB.out.2.1, fits_big HB.out.2.2⟩) Hs1 Hs2 Hs3
end Go.Proofs.YtleccblkafcidaaGreatDoor
/- package sieve: fall -/
namespace Go.Proofs.YtleccblkafcidaaGreatDoor
open Go.RowKit
/-- a fall -/
def FaV (s r : Int) (su sa sd sb : ByteArray) : Value := .agg #[.int .i64 s, .int .i64 r, .string su, .string sa, .string sd, .string sb]
theorem floor_s (a b q : Int) (w : World) (hq : Hid (a / b = q)) (hb : 0 < b) (h0 : -9223372036854775808 < a) (h1 : a ≤ 9223372036854775807) (h2 : b ≤ 9223372036854775807) :
    Calls Tryz.prog 109 #[.int .i64 a, .int .i64 b] w (fun e w' => e = .returned (.int .i64 q) ∧ Ext w w') := by
  rw [← hq.out]; exact floor_any a b w hb h0 h1 h2
set_option maxRecDepth 100000 in
set_option maxHeartbeats 6400000 in
theorem fall_l (s r mu ad di q : Int) (su sa sd sb : ByteArray) (w : World) (ht : Tab w) (h0 : mu < di) (hu : Hid (0 ≤ mu ∧ di ≤ 786432)) (hA : Hid (ad.natAbs ≤ 9000000000000000000)) (hq : Hid (ad / (di - mu) = q))
    (Hsu : Hid (Str (K.txt mu) = su)) (Hsa : Hid (Str (K.txt ad) = sa)) (Hsd : Hid (Str (K.txt di) = sd)) (Hsb : Hid (Str (K.txt q) = sb)) :
    Calls Tryz.prog 65 #[PlV s r mu ad di] w (fun e w' => e = .returned (FaV s r su sa sd sb) ∧ Ext w w') := by
  have hqB : q.natAbs ≤ 9000000000000000000 := by
    rw [← hq.out]; exact Nat.le_trans (Int.natAbs_ediv_le_natAbs _ _) hA.out
  have HQB := hid hqB
  have W1 : IntKind.i64.wrap (di - mu) = di - mu := IntWalk.i64_in _ (by have := hu.out; omega)
  have B1 := hid (show -9223372036854775808 ≤ mu ∧ mu ≤ 9223372036854775807 by have := hu.out; omega)
  have B2 := hid (show -9223372036854775808 ≤ ad ∧ ad ≤ 9223372036854775807 by have := hA.out; omega)
  have B3 := hid (show -9223372036854775808 ≤ di ∧ di ≤ 9223372036854775807 by have := hu.out; omega)
  have B4 := hid (show -9223372036854775808 ≤ q ∧ q ≤ 9223372036854775807 by omega)
  have B5 := hid (show 0 < di - mu ∧ -9223372036854775808 < ad ∧ di - mu ≤ 9223372036854775807 by have := hu.out; have := hA.out; omega)
  unfold PlV
  have HT0 := hid ht
  have hx : Ext w ((w.alloc (.cells #[.int .i64 s, .int .i64 r, .int .i64 mu, .int .i64 ad, .int .i64 di] 104)).alloc (.cells #[.int .i64 0, .int .i64 0, .string ⟨#[]⟩, .string ⟨#[]⟩, .string ⟨#[]⟩, .string ⟨#[]⟩] 40)) := ((Ext.rfl' w).alloc' _).alloc' _
  have h1 : Row ((w.alloc (.cells #[.int .i64 s, .int .i64 r, .int .i64 mu, .int .i64 ad, .int .i64 di] 104)).alloc (.cells #[.int .i64 0, .int .i64 0, .string ⟨#[]⟩, .string ⟨#[]⟩, .string ⟨#[]⟩, .string ⟨#[]⟩] 40)) w.heap.size 104 [.int .i64 s, .int .i64 r, .int .i64 mu, .int .i64 ad, .int .i64 di] := (Row.new w _ _).alloc _
  have h2 : Row ((w.alloc (.cells #[.int .i64 s, .int .i64 r, .int .i64 mu, .int .i64 ad, .int .i64 di] 104)).alloc (.cells #[.int .i64 0, .int .i64 0, .string ⟨#[]⟩, .string ⟨#[]⟩, .string ⟨#[]⟩, .string ⟨#[]⟩] 40)) (w.heap.size + 1) 40 [.int .i64 0, .int .i64 0, .string ⟨#[]⟩, .string ⟨#[]⟩, .string ⟨#[]⟩, .string ⟨#[]⟩] := by
    have := Row.new (w.alloc (.cells #[.int .i64 s, .int .i64 r, .int .i64 mu, .int .i64 ad, .int .i64 di] 104)) 40 [.int .i64 0, .int .i64 0, .string ⟨#[]⟩, .string ⟨#[]⟩, .string ⟨#[]⟩, .string ⟨#[]⟩]
    rwa [World.size_alloc] at this
  obtain ⟨W, hW⟩ : ∃ W, ((w.alloc (.cells #[.int .i64 s, .int .i64 r, .int .i64 mu, .int .i64 ad, .int .i64 di] 104)).alloc (.cells #[.int .i64 0, .int .i64 0, .string ⟨#[]⟩, .string ⟨#[]⟩, .string ⟨#[]⟩, .string ⟨#[]⟩] 40)) = W := ⟨_, rfl⟩
  rw [hW] at hx h1 h2
  have HX := hid hx
  have HW := hid hW
  have R1 := hid h1
  have R2 := hid h2
  have HT := hid (ht.ext hx)
  have HSO : Hid (∀ W' W'', Ext W W' → Off W' W'' (w.heap.size + 1) → W''.cell? ⟨w.heap.size, 0, none⟩ = some (.int .i64 s) ∧ W''.cell? ⟨w.heap.size, 1, none⟩ = some (.int .i64 r) ∧ W''.cell? ⟨w.heap.size, 2, none⟩ = some (.int .i64 mu) ∧ W''.cell? ⟨w.heap.size, 3, none⟩ = some (.int .i64 ad) ∧ W''.cell? ⟨w.heap.size, 4, none⟩ = some (.int .i64 di)) := hid (by
    intro W' W'' e ho
    obtain ⟨p0, p1, p2, p3, p4⟩ := row_facts5 (ho.row (R1.out.ext e) (by omega))
    exact ⟨p0, p1, p2, p3, p4⟩)
  have HS : Hid (∀ W', Ext W W' → W'.cell? ⟨w.heap.size, 0, none⟩ = some (.int .i64 s) ∧ W'.cell? ⟨w.heap.size, 1, none⟩ = some (.int .i64 r) ∧ W'.cell? ⟨w.heap.size, 2, none⟩ = some (.int .i64 mu) ∧ W'.cell? ⟨w.heap.size, 3, none⟩ = some (.int .i64 ad) ∧ W'.cell? ⟨w.heap.size, 4, none⟩ = some (.int .i64 di)) := hid fun W' e => HSO.out W' W' e (Off.rfl' _ _)
  clear hW hx h1 h2 hqB ht h0
  go_enter Tryz.func65, Tryz.ntmps65
  have hcur : Ext W W := Ext.rfl' _
  go_upto_region 1 with fail
  rw [HW.out]
  go_region_held3 (fun W' => W'.cell? ⟨w.heap.size, 0, none⟩ = some (.int .i64 s) ∧ W'.cell? ⟨w.heap.size, 1, none⟩ = some (.int .i64 r) ∧ W'.cell? ⟨w.heap.size, 2, none⟩ = some (.int .i64 mu) ∧ W'.cell? ⟨w.heap.size, 3, none⟩ = some (.int .i64 ad) ∧ W'.cell? ⟨w.heap.size, 4, none⟩ = some (.int .i64 di))
    (first | (with_reducible exact HS.out _ hcur) | (with_reducible exact HS.out _ hcur.drew') | (with_reducible exact HSO.out _ _ hcur (((((((Off.rfl' _ _).set _ _).set _ _).set _ _).set _ _).set _ _).set _ _)) | go_keep)
    (first
      | (go_at_call_of 108 (Value.int IntKind.i64 (mu)); refine (decimal_s (mu) _ _ Hsu B1.out.1 B1.out.2 (HT.out.ext ?_)).mono ?_; (first | exact hcur | exact hcur.drew' | exact hcur.alloc' _ | exact hcur.drew'.alloc' _ | exact (hcur.alloc' _).drew'); rintro e w20 ⟨rfl, hx⟩; have hcur := Ext.step hcur (by first | exact hx | exact Ext.undrew hx | exact Ext.step ((Ext.rfl' _).alloc' _) hx | exact Ext.step ((Ext.rfl' _).drew'.alloc' _) hx))
      | (go_at_call_of 108 (Value.int IntKind.i64 (ad)); refine (decimal_s (ad) _ _ Hsa B2.out.1 B2.out.2 (HT.out.ext ?_)).mono ?_; (first | exact hcur | exact hcur.drew' | exact hcur.alloc' _ | exact hcur.drew'.alloc' _ | exact (hcur.alloc' _).drew'); rintro e w21 ⟨rfl, hx⟩; have hcur := Ext.step hcur (by first | exact hx | exact Ext.undrew hx | exact Ext.step ((Ext.rfl' _).alloc' _) hx | exact Ext.step ((Ext.rfl' _).drew'.alloc' _) hx))
      | (go_at_call_of 108 (Value.int IntKind.i64 (di)); refine (decimal_s (di) _ _ Hsd B3.out.1 B3.out.2 (HT.out.ext ?_)).mono ?_; (first | exact hcur | exact hcur.drew' | exact hcur.alloc' _ | exact hcur.drew'.alloc' _ | exact (hcur.alloc' _).drew'); rintro e w22 ⟨rfl, hx⟩; have hcur := Ext.step hcur (by first | exact hx | exact Ext.undrew hx | exact Ext.step ((Ext.rfl' _).alloc' _) hx | exact Ext.step ((Ext.rfl' _).drew'.alloc' _) hx))
      | (go_at_call 109; refine (floor_s ad (di - mu) q _ hq B5.out.1 B5.out.2.1 B2.out.2 B5.out.2.2).mono ?_; rintro e w23 ⟨rfl, hx⟩; have hcur := Ext.step hcur (by first | exact hx | exact Ext.undrew hx | exact Ext.step ((Ext.rfl' _).alloc' _) hx | exact Ext.step ((Ext.rfl' _).drew'.alloc' _) hx))
      | (go_at_call_of 108 (Value.int IntKind.i64 (q)); refine (decimal_s (q) _ _ Hsb B4.out.1 B4.out.2 (HT.out.ext ?_)).mono ?_; (first | exact hcur | exact hcur.drew' | exact hcur.alloc' _ | exact hcur.drew'.alloc' _ | exact (hcur.alloc' _).drew'); rintro e w24 ⟨rfl, hx⟩; have hcur := Ext.step hcur (by first | exact hx | exact Ext.undrew hx | exact Ext.step ((Ext.rfl' _).alloc' _) hx | exact Ext.step ((Ext.rfl' _).drew'.alloc' _) hx); (have hyy := row_facts6 (R2.out.ext hcur); obtain ⟨⟨y0, y1, y2, y3, y4, y5⟩, z0, z1, z2, z3, z4, z5⟩ := hyy)))
  all_goals
    have HF := hid ((HX.out.step hcur).set6 (H := w.heap.size + 1) (a := .int .i64 s) (b := .int .i64 r) (c := .string su) (d := .string sa) (e := .string sd) (f := .string sb) (by omega))
    go_wp2
    refine bodyPost_ret (v := .agg #[.int .i64 s, .int .i64 r, .string su, .string sa, .string sd, .string sb]) (by simp [results, Tryz.results65, go_sem, y0, y1, y2, y3, y4, y5]) rfl ⟨rfl, HF.out⟩
end Go.Proofs.YtleccblkafcidaaGreatDoor
/- package sieve: the keys of the sorts -/
namespace Go.Proofs.YtleccblkafcidaaGreatDoor
open Go.RowKit
set_option maxRecDepth 100000 in
set_option maxHeartbeats 800000 in
theorem key_steps (s r : Int) (su sa sd sb : ByteArray) (w : World) : Calls Tryz.prog 71 #[FaV s r su sa sd sb] w (fun e w' => e = .returned (.int .i64 s) ∧ w' = w.alloc (.cells #[.int .i64 s, .int .i64 r, .string su, .string sa, .string sd, .string sb] 40)) := by
  have hr : Row (w.alloc (.cells #[.int .i64 s, .int .i64 r, .string su, .string sa, .string sd, .string sb] 40)) w.heap.size 40 [.int .i64 s, .int .i64 r, .string su, .string sa, .string sd, .string sb] := Row.new w _ _
  obtain ⟨⟨y0, y1, y2, y3, y4, y5⟩, -⟩ := row_facts6 hr
  unfold FaV
  clear hr
  go_enter Tryz.func71, Tryz.ntmps71
  go_wp2
  go_ret
  exact ⟨rfl, rfl⟩
set_option maxRecDepth 100000 in
set_option maxHeartbeats 800000 in
theorem key_rest (s r : Int) (su sa sd sb : ByteArray) (w : World) : Calls Tryz.prog 72 #[FaV s r su sa sd sb] w (fun e w' => e = .returned (.int .i64 r) ∧ w' = w.alloc (.cells #[.int .i64 s, .int .i64 r, .string su, .string sa, .string sd, .string sb] 40)) := by
  have hr : Row (w.alloc (.cells #[.int .i64 s, .int .i64 r, .string su, .string sa, .string sd, .string sb] 40)) w.heap.size 40 [.int .i64 s, .int .i64 r, .string su, .string sa, .string sd, .string sb] := Row.new w _ _
  obtain ⟨⟨y0, y1, y2, y3, y4, y5⟩, -⟩ := row_facts6 hr
  unfold FaV
  clear hr
  go_enter Tryz.func72, Tryz.ntmps72
  go_wp2
  go_ret
  exact ⟨rfl, rfl⟩
set_option maxRecDepth 100000 in
set_option maxHeartbeats 800000 in
theorem key_int (x : Int) (w : World) : Calls Tryz.prog 74 #[.int .i64 x] w (fun e w' => e = .returned (.int .i64 x) ∧ w' = w) := by
  go_enter Tryz.func74, Tryz.ntmps74
  go_wp2
  go_ret
  exact ⟨rfl, rfl⟩
end Go.Proofs.YtleccblkafcidaaGreatDoor
