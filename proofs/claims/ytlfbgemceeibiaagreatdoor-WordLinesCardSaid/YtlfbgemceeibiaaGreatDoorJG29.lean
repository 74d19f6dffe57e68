/- Joined texts: the reference's Value of layer 3; the reference's linear maps: One, Then, Text; the reference's Then at a map, Of, Text; the law WordApplies. -/
import Derived.Test.YtlfbgemceeibiaaGreatDoorJG13
import Derived.Test.YtlfbgemceeibiaaGreatDoorJG15
import Derived.Test.YtlfbgemceeibiaaGreatDoorJG11
import Derived.Test.YtlfbgemceeibiaaGreatDoorJG18
import Derived.Test.YtlfbgemceeibiaaGreatDoorJG23
set_option linter.unusedSimpArgs false
set_option linter.unusedVariables false
/- the reference's Value of layer 3 -/
namespace Go.Proofs.YtlfbgemceeibiaaGreatDoor
open Go.RowKit
set_option maxRecDepth 100000 in
set_option maxHeartbeats 6400000 in
theorem value_any (b1 b2 b3 b4 : Bool) (A1 A2 A3 A4 : Option Addr) (k1 k2 k3 k4 c1 c2 c3 c4 : Nat) (M D x : Int) (w : World)
    (hv1 : RefV w (.agg #[.bool b1, .slice A1 k1 c1]) M) (hv2 : RefV w (.agg #[.bool b2, .slice A2 k2 c2]) D) (hv4 : RefV w (.agg #[.bool b4, .slice A4 k4 c4]) x)
    (HB : Hid (M.natAbs ≤ BIG ∧ x.natAbs ≤ BIG ∧ (M * x).natAbs ≤ BIG ∧ D.natAbs ≤ BIG)) :
    Calls Tryz.prog 80 #[.agg #[.bool b1, .slice A1 k1 c1, .bool b2, .slice A2 k2 c2, .bool b3, .slice A3 k3 c3], .agg #[.bool b4, .slice A4 k4 c4]] w (RefPost (M * x + D) w) := by
  have hx : Ext w (((w.alloc (.cells #[.bool b1, .slice A1 k1 c1, .bool b2, .slice A2 k2 c2, .bool b3, .slice A3 k3 c3] 49)).alloc (.cells #[.bool b4, .slice A4 k4 c4] 36)).alloc (.cells #[.bool false, .slice none 0 0] 36)) := (((Ext.rfl' w).alloc' _).alloc' _).alloc' _
  have hr1 : Row (((w.alloc (.cells #[.bool b1, .slice A1 k1 c1, .bool b2, .slice A2 k2 c2, .bool b3, .slice A3 k3 c3] 49)).alloc (.cells #[.bool b4, .slice A4 k4 c4] 36)).alloc (.cells #[.bool false, .slice none 0 0] 36)) w.heap.size 49 [.bool b1, .slice A1 k1 c1, .bool b2, .slice A2 k2 c2, .bool b3, .slice A3 k3 c3] := ((Row.new w _ _).alloc _).alloc _
  have hr2 : Row (((w.alloc (.cells #[.bool b1, .slice A1 k1 c1, .bool b2, .slice A2 k2 c2, .bool b3, .slice A3 k3 c3] 49)).alloc (.cells #[.bool b4, .slice A4 k4 c4] 36)).alloc (.cells #[.bool false, .slice none 0 0] 36)) (w.heap.size + 1) 36 [.bool b4, .slice A4 k4 c4] := by
    have := (Row.new (w.alloc (.cells #[.bool b1, .slice A1 k1 c1, .bool b2, .slice A2 k2 c2, .bool b3, .slice A3 k3 c3] 49)) 36 [.bool b4, .slice A4 k4 c4]).alloc (.cells #[.bool false, .slice none 0 0] 36)
    rwa [World.size_alloc] at this
  have hr3 : Row (((w.alloc (.cells #[.bool b1, .slice A1 k1 c1, .bool b2, .slice A2 k2 c2, .bool b3, .slice A3 k3 c3] 49)).alloc (.cells #[.bool b4, .slice A4 k4 c4] 36)).alloc (.cells #[.bool false, .slice none 0 0] 36)) (w.heap.size + 1 + 1) 36 [.bool false, .slice none 0 0] := by
    have := Row.new ((w.alloc (.cells #[.bool b1, .slice A1 k1 c1, .bool b2, .slice A2 k2 c2, .bool b3, .slice A3 k3 c3] 49)).alloc (.cells #[.bool b4, .slice A4 k4 c4] 36)) 36 [.bool false, .slice none 0 0]
    rwa [World.size_alloc, World.size_alloc] at this
  obtain ⟨W3, hW3⟩ : ∃ W3, (((w.alloc (.cells #[.bool b1, .slice A1 k1 c1, .bool b2, .slice A2 k2 c2, .bool b3, .slice A3 k3 c3] 49)).alloc (.cells #[.bool b4, .slice A4 k4 c4] 36)).alloc (.cells #[.bool false, .slice none 0 0] 36)) = W3 := ⟨_, rfl⟩
  rw [hW3] at hx hr1 hr2 hr3
  have HW3 := hid hW3
  have HX := hid hx
  have HV1 := hid (hv1.ext hx)
  have HV2 := hid (hv2.ext hx)
  have HV4 := hid (hv4.ext hx)
  have H1 := hid hr1
  have H2 := hid hr2
  have H3 := hid hr3
  have HSR : Hid (∀ W', Row W' w.heap.size 49 [.bool b1, .slice A1 k1 c1, .bool b2, .slice A2 k2 c2, .bool b3, .slice A3 k3 c3] → Row W' (w.heap.size + 1) 36 [.bool b4, .slice A4 k4 c4] → W'.cell? ⟨w.heap.size, 0, none⟩ = some (.bool b1) ∧ W'.cell? ⟨w.heap.size, 1, none⟩ = some (.slice A1 k1 c1) ∧ W'.cell? ⟨w.heap.size, 2, none⟩ = some (.bool b2) ∧ W'.cell? ⟨w.heap.size, 3, none⟩ = some (.slice A2 k2 c2) ∧ W'.cell? ⟨w.heap.size + 1, 0, none⟩ = some (.bool b4) ∧ W'.cell? ⟨w.heap.size + 1, 1, none⟩ = some (.slice A4 k4 c4)) := hid (by
    intro W' h1 h2
    obtain ⟨q0, q1, -, -⟩ := row_facts h2
    exact ⟨by rw [h1.cell]; rfl, by rw [h1.cell]; rfl, by rw [h1.cell]; rfl, by rw [h1.cell]; rfl, q0, q1⟩)
  have HS : Hid (∀ W', Ext W3 W' → W'.cell? ⟨w.heap.size, 0, none⟩ = some (.bool b1) ∧ W'.cell? ⟨w.heap.size, 1, none⟩ = some (.slice A1 k1 c1) ∧ W'.cell? ⟨w.heap.size, 2, none⟩ = some (.bool b2) ∧ W'.cell? ⟨w.heap.size, 3, none⟩ = some (.slice A2 k2 c2) ∧ W'.cell? ⟨w.heap.size + 1, 0, none⟩ = some (.bool b4) ∧ W'.cell? ⟨w.heap.size + 1, 1, none⟩ = some (.slice A4 k4 c4)) := hid fun W' e => HSR.out W' (H1.out.ext e) (H2.out.ext e)
  clear hW3 hx hr1 hr2 hr3 hv1 hv2 hv4
  have hcur : Ext W3 W3 := Ext.rfl' _
  go_enter Tryz.func80, Tryz.ntmps80
  go_upto_region 1 with fail
  rw [HW3.out]
  go_region_held3 (fun W' => W'.cell? ⟨w.heap.size, 0, none⟩ = some (.bool b1) ∧ W'.cell? ⟨w.heap.size, 1, none⟩ = some (.slice A1 k1 c1) ∧ W'.cell? ⟨w.heap.size, 2, none⟩ = some (.bool b2) ∧ W'.cell? ⟨w.heap.size, 3, none⟩ = some (.slice A2 k2 c2) ∧ W'.cell? ⟨w.heap.size + 1, 0, none⟩ = some (.bool b4) ∧ W'.cell? ⟨w.heap.size + 1, 1, none⟩ = some (.slice A4 k4 c4))
    (first | exact HS.out _ hcur | exact HS.out _ hcur.drew' | exact HS.out _ (hcur.alloc' _) | exact HS.out _ (hcur.drew'.alloc' _) | exact HS.out _ ((hcur.set' HB2.out.1 _).set' HB2.out.1 _) | exact HSR.out _ (((H1.out.ext hcur).far (by show w.heap.size ≠ w.heap.size + 1 + 1; omega) _).far (by show w.heap.size ≠ w.heap.size + 1 + 1; omega) _) (((H2.out.ext hcur).far (by show w.heap.size + 1 ≠ w.heap.size + 1 + 1; omega) _).far (by show w.heap.size + 1 ≠ w.heap.size + 1 + 1; omega) _) | go_keep)
    (first
      | (go_at_call 38; refine (rmul_any _ _ M x _ (HV1.out.ext ?_) (HV4.out.ext ?_) HB.out.1 HB.out.2.1).mono ?_; (first | exact hcur | exact hcur.drew' | exact hcur.alloc' _ | exact hcur.drew'.alloc' _ | exact (hcur.alloc' _).drew'); (first | exact hcur | exact hcur.drew' | exact hcur.alloc' _ | exact hcur.drew'.alloc' _ | exact (hcur.alloc' _).drew'); rintro e w6 ⟨v6, rfl, hv6, hx⟩; have hcur := Ext.step hcur (by first | exact hx | exact Ext.undrew hx | exact Ext.step ((Ext.rfl' _).alloc' _) hx | exact Ext.step ((Ext.rfl' _).drew'.alloc' _) hx); have HV6 := hid hv6; obtain ⟨A6, k6, c6, xs6, b6, rfl, -⟩ := hv6)
      | (go_at_call 34; refine (radd_any _ _ (M * x) D _ (HV6.out.ext ?_) (HV2.out.ext ?_) HB.out.2.2.1 HB.out.2.2.2).mono ?_; (first | exact Ext.rfl' _ | exact (Ext.rfl' _).drew' | exact (Ext.rfl' _).alloc' _ | exact (Ext.rfl' _).drew'.alloc' _); (first | exact hcur | exact hcur.drew' | exact hcur.alloc' _ | exact hcur.drew'.alloc' _ | exact (hcur.alloc' _).drew'); rintro e w7 ⟨v7, rfl, hv7, hx⟩; have hcur := Ext.step hcur (by first | exact hx | exact Ext.undrew hx | exact Ext.step ((Ext.rfl' _).alloc' _) hx | exact Ext.step ((Ext.rfl' _).drew'.alloc' _) hx); have HV7 := hid hv7; obtain ⟨A7, k7, c7, xs7, b7, rfl, -⟩ := hv7; (have hyy := row_facts (H3.out.ext hcur); obtain ⟨y0, y1, y2, y3⟩ := hyy)))
  all_goals
    have HF := hid (RefPost.put (H3.out.ext hcur) (HX.out.step hcur) (by omega) HV7.out)
    go_wp2
    refine bodyPost_ret (v := .agg #[.bool b7, .slice A7 k7 c7]) (by simp [results, Tryz.results80, go_sem, y0, y1]) rfl HF.out
end Go.Proofs.YtlfbgemceeibiaaGreatDoor
/- the reference's linear maps: One, Then, Text -/
namespace Go.Proofs.YtlfbgemceeibiaaGreatDoor
open Go.RowKit
/-- a linear map of the reference's -/
def LineR (w : World) (v : Value) (l : Int × Int × Int) : Prop :=
  ∃ (b1 : Bool) (A1 : Option Addr) (k1 c1 : Nat) (b2 : Bool) (A2 : Option Addr) (k2 c2 : Nat) (b3 : Bool) (A3 : Option Addr) (k3 c3 : Nat), v = .agg #[.bool b1, .slice A1 k1 c1, .bool b2, .slice A2 k2 c2, .bool b3, .slice A3 k3 c3] ∧ RefV w (.agg #[.bool b1, .slice A1 k1 c1]) l.1 ∧ RefV w (.agg #[.bool b2, .slice A2 k2 c2]) l.2.1 ∧ RefV w (.agg #[.bool b3, .slice A3 k3 c3]) l.2.2
theorem LineR.ext {w w' : World} {v : Value} {l : Int × Int × Int} (h : LineR w v l) (e : Ext w w') : LineR w' v l := by
  obtain ⟨b1, A1, k1, c1, b2, A2, k2, c2, b3, A3, k3, c3, h0, h1, h2, h3⟩ := h
  exact ⟨b1, A1, k1, c1, b2, A2, k2, c2, b3, A3, k3, c3, h0, h1.ext e, h2.ext e, h3.ext e⟩
theorem LineR.kept {w w' : World} {v : Value} {l : Int × Int × Int} (h : LineR w v l) (e : KeepRd w w') : LineR w' v l := by
  obtain ⟨b1, A1, k1, c1, b2, A2, k2, c2, b3, A3, k3, c3, h0, h1, h2, h3⟩ := h
  exact ⟨b1, A1, k1, c1, b2, A2, k2, c2, b3, A3, k3, c3, h0, h1.kept e, h2.kept e, h3.kept e⟩
def LinePost (l : Int × Int × Int) (w : World) (e : Ending) (w' : World) : Prop := ∃ v, e = .returned v ∧ LineR w' v l ∧ Ext w w'
theorem ref_nil (w : World) : RefV w (.agg #[.bool false, .slice none 0 0]) 0 := ⟨none, 0, 0, [], false, rfl, hid (by simp), rfl, Nat.le_refl _, Rd.nil _ _, ⟨by simp, by simp⟩, rfl⟩
/-- all blocks but H are as they were -/
def Off (w w' : World) (H : Nat) : Prop := w'.heap.size = w.heap.size ∧ ∀ g, g ≠ H → w'.heap[g]? = w.heap[g]?
theorem Off.rfl' (w : World) (H : Nat) : Off w w H := ⟨rfl, fun _ _ => rfl⟩
theorem Off.set {w w' : World} {H : Nat} (h : Off w w' H) (i : Nat) (u : Value) : Off w (w'.setCell ⟨H, i, none⟩ u) H :=
  ⟨by rw [World.size_setCell]; exact h.1, fun g hg => (Below.heap_setCell w' ⟨H, i, none⟩ u g (by exact hg)).trans (h.2 g hg)⟩
theorem Off.cell {w w' : World} {H : Nat} (h : Off w w' H) {g i : Nat} (hg : g ≠ H) : w'.cell? ⟨g, i, none⟩ = w.cell? ⟨g, i, none⟩ := World.cell?_of_block (h.2 g hg)
theorem Off.row {w w' : World} {H g : Nat} {t : TypeId} {vs : List Value} (h : Off w w' H) (r : Row w g t vs) (hg : g ≠ H) : Row w' g t vs := (h.2 g hg).trans r
theorem Off.keep {w w' : World} {H : Nat} {t : TypeId} {vs : List Value} (h : Off w w' H) (r : Row w H t vs) (hv : NoInt vs) : KeepRd w w' :=
  KeepRd.but ⟨vs.toArray, t, (0, 0), r, by simpa using hv⟩ (by rw [h.1]; exact Nat.le_refl _) (fun j _ hj => h.2 j hj)
theorem Off.ext {w w1 w' : World} {H : Nat} (h : Off w1 w' H) (e : Ext w w1) (hH : w.heap.size ≤ H) (ho : w'.os = w1.os) (ht : w'.tape = w1.tape) (hp : w'.output = w1.output) : Ext w w' :=
  ⟨ho.trans e.os, ht.trans e.tape, hp.trans e.output, by rw [h.1]; exact e.size, fun g hg => (h.2 g (by omega)).trans (e.block g hg)⟩
theorem no_int6 (b1 b2 b3 : Bool) (A1 A2 A3 : Option Addr) (k1 k2 k3 c1 c2 c3 : Nat) : NoInt [.bool b1, .slice A1 k1 c1, .bool b2, .slice A2 k2 c2, .bool b3, .slice A3 k3 c3] := by
  intro v hv k x e
  subst e
  simp at hv
theorem row_facts6 {w : World} {g : Nat} {t : TypeId} {a b c d e f : Value} (h : Row w g t [a, b, c, d, e, f]) :
    (w.cell? ⟨g, 0, none⟩ = some a ∧ w.cell? ⟨g, 1, none⟩ = some b ∧ w.cell? ⟨g, 2, none⟩ = some c ∧ w.cell? ⟨g, 3, none⟩ = some d ∧ w.cell? ⟨g, 4, none⟩ = some e ∧ w.cell? ⟨g, 5, none⟩ = some f) ∧
    (w.frozen? ⟨g, 0, none⟩ = false ∧ w.frozen? ⟨g, 1, none⟩ = false ∧ w.frozen? ⟨g, 2, none⟩ = false ∧ w.frozen? ⟨g, 3, none⟩ = false ∧ w.frozen? ⟨g, 4, none⟩ = false ∧ w.frozen? ⟨g, 5, none⟩ = false) :=
  ⟨⟨by rw [h.cell]; rfl, by rw [h.cell]; rfl, by rw [h.cell]; rfl, by rw [h.cell]; rfl, by rw [h.cell]; rfl, by rw [h.cell]; rfl⟩, h.free 0, h.free 1, h.free 2, h.free 3, h.free 4, h.free 5⟩
theorem Row.put6 {w : World} {H : Nat} {t : TypeId} {a b c d e f a' b' c' d' e' f' : Value} (h : Row w H t [a, b, c, d, e, f]) : Row (((((((w.setCell ⟨H, 0, none⟩ (a')).setCell ⟨H, 1, none⟩ (b')).setCell ⟨H, 2, none⟩ (c')).setCell ⟨H, 3, none⟩ (d')).setCell ⟨H, 4, none⟩ (e')).setCell ⟨H, 5, none⟩ (f'))) H t [a', b', c', d', e', f'] :=
  (((((h.set 0 a').set 1 b').set 2 c').set 3 d').set 4 e').set 5 f'
/-- a linear map put into a box of its own -/
theorem LineR.put {w w3 : World} {l : Int × Int × Int} {H : Nat} {b1 b2 b3 p1 p2 p3 : Bool} {A1 A2 A3 P1 P2 P3 : Option Addr} {k1 c1 k2 c2 k3 c3 q1 d1 q2 d2 q3 d3 : Nat} (r : Row w3 H 49 [.bool b1, .slice A1 k1 c1, .bool b2, .slice A2 k2 c2, .bool b3, .slice A3 k3 c3]) (hw : Ext w w3) (hH : w.heap.size ≤ H)
    (h1 : RefV w3 (.agg #[.bool p1, .slice P1 q1 d1]) l.1) (h2 : RefV w3 (.agg #[.bool p2, .slice P2 q2 d2]) l.2.1) (h3 : RefV w3 (.agg #[.bool p3, .slice P3 q3 d3]) l.2.2) :
    LinePost l w (.returned (.agg #[.bool p1, .slice P1 q1 d1, .bool p2, .slice P2 q2 d2, .bool p3, .slice P3 q3 d3])) (((((((w3.setCell ⟨H, 0, none⟩ (.bool p1)).setCell ⟨H, 1, none⟩ (.slice P1 q1 d1)).setCell ⟨H, 2, none⟩ (.bool p2)).setCell ⟨H, 3, none⟩ (.slice P2 q2 d2)).setCell ⟨H, 4, none⟩ (.bool p3)).setCell ⟨H, 5, none⟩ (.slice P3 q3 d3))) := by
  have ho : Off w3 (((((((w3.setCell ⟨H, 0, none⟩ (.bool p1)).setCell ⟨H, 1, none⟩ (.slice P1 q1 d1)).setCell ⟨H, 2, none⟩ (.bool p2)).setCell ⟨H, 3, none⟩ (.slice P2 q2 d2)).setCell ⟨H, 4, none⟩ (.bool p3)).setCell ⟨H, 5, none⟩ (.slice P3 q3 d3))) H := (((((((Off.rfl' _ _).set _ _).set _ _).set _ _).set _ _).set _ _).set _ _)
  have hk := ho.keep r (no_int6 _ _ _ _ _ _ _ _ _ _ _ _)
  exact ⟨_, rfl, ⟨_, _, _, _, _, _, _, _, _, _, _, _, rfl, h1.kept hk, h2.kept hk, h3.kept hk⟩, ((((((hw.set' (by show _ ≤ H; omega) _).set' (by show _ ≤ H; omega) _).set' (by show _ ≤ H; omega) _).set' (by show _ ≤ H; omega) _).set' (by show _ ≤ H; omega) _).set' (by show _ ≤ H; omega) _)⟩
set_option maxRecDepth 100000 in
set_option maxHeartbeats 3200000 in
theorem one_any (w : World) : Calls Tryz.prog 61 #[] w (LinePost (1, 0, 1) w) := by
  have hx : Ext w (w.alloc (.cells #[.bool false, .slice none 0 0, .bool false, .slice none 0 0, .bool false, .slice none 0 0] 49)) := (Ext.rfl' w).alloc' _
  have hr : Row (w.alloc (.cells #[.bool false, .slice none 0 0, .bool false, .slice none 0 0, .bool false, .slice none 0 0] 49)) w.heap.size 49 [.bool false, .slice none 0 0, .bool false, .slice none 0 0, .bool false, .slice none 0 0] := Row.new w _ _
  obtain ⟨W1, hW1⟩ : ∃ W1, (w.alloc (.cells #[.bool false, .slice none 0 0, .bool false, .slice none 0 0, .bool false, .slice none 0 0] 49)) = W1 := ⟨_, rfl⟩
  rw [hW1] at hx hr
  have HX := hid hx
  have HR := hid hr
  have HW1 := hid hW1
  clear hW1 hx hr
  go_enter Tryz.func61, Tryz.ntmps61
  go_upto_region 1 with fail
  rw [HW1.out]
  go_wp2_with fail
  refine (of_any 1 W1 (by omega)).mono ?_
  rintro e w2 ⟨v2, rfl, hv2, hx2⟩
  have HV2 := hid hv2
  have HE2 := hid hx2
  obtain ⟨A2, k2, c2, xs2, b2, rfl, -⟩ := hv2
  clear hx2
  go_wp2_with fail
  refine (of_any 1 w2 (by omega)).mono ?_
  rintro e w3 ⟨v3, rfl, hv3, hx3⟩
  have HV3 := hid hv3
  have HE3 := hid (HE2.out.step hx3)
  have HV2B := hid (HV2.out.ext hx3)
  obtain ⟨A3, k3, c3, xs3, b3, rfl, -⟩ := hv3
  have hr3 := HR.out.ext HE3.out
  have hfin := LineR.put (l := (1, 0, 1)) hr3 (HX.out.step HE3.out) (Nat.le_refl _) HV2B.out (ref_nil w3) HV3.out
  have HF := hid hfin
  obtain ⟨⟨y0, y1, y2, y3, y4, y5⟩, z0, z1, z2, z3, z4, z5⟩ := row_facts6 hr3
  clear hx3 hfin hr3
  go_wp2
  refine bodyPost_ret (v := .agg #[.bool b2, .slice A2 k2 c2, .bool false, .slice none 0 0, .bool b3, .slice A3 k3 c3]) (by simp [results, Tryz.results61, go_sem, y0, y1, y2, y3, y4, y5]) rfl HF.out
set_option maxRecDepth 100000 in
set_option maxHeartbeats 12800000 in
theorem then_l (ba oa bb ob n cc n2 d2 r : Nat) (u a m M A D : Int) (b1 b2 b3 : Bool) (A1 A2 A3 : Option Addr) (k1 c1 k2 c2 k3 c3 : Nat) (us ad : List Int) (w : World) (hra : Rd w (some ⟨ba, oa, none⟩) (Is us)) (hrb : Rd w (some ⟨bb, ob, none⟩) (Is ad)) (hn1 : us.length = n) (hn2 : ad.length = n2)
    (h1 : RefV w (.agg #[.bool b1, .slice A1 k1 c1]) M) (h2 : RefV w (.agg #[.bool b2, .slice A2 k2 c2]) A) (h3 : RefV w (.agg #[.bool b3, .slice A3 k3 c3]) D) (hrn : r < n) (hrn2 : r < n2) (hu : Hid (us.getD r 0 = u)) (ha : Hid (ad.getD r 0 = a))
    (B : Hid (M.natAbs ≤ BIG ∧ A.natAbs ≤ BIG ∧ D.natAbs ≤ BIG ∧ (u * A).natAbs ≤ BIG ∧ (a * D).natAbs ≤ BIG)) (BU : Hid (u.natAbs < 1000000000)) (BA : Hid (a.natAbs < 1000000000)) (BM : Hid (m.natAbs < 1000000000)) :
    Calls Tryz.prog 62 #[.agg #[.int .i64 m, .slice (some ⟨ba, oa, none⟩) n cc, .slice (some ⟨bb, ob, none⟩) n2 d2], .agg #[.bool b1, .slice A1 k1 c1, .bool b2, .slice A2 k2 c2, .bool b3, .slice A3 k3 c3], .int .i64 (r : Int)] w (LinePost (u * M, u * A + a * D, D * m) w) := by
  have hx : Ext w (((w.alloc (.cells #[.int .i64 m, .slice (some ⟨ba, oa, none⟩) n cc, .slice (some ⟨bb, ob, none⟩) n2 d2] 24)).alloc (.cells #[.bool b1, .slice A1 k1 c1, .bool b2, .slice A2 k2 c2, .bool b3, .slice A3 k3 c3] 49)).alloc (.cells #[.bool false, .slice none 0 0, .bool false, .slice none 0 0, .bool false, .slice none 0 0] 49)) := (((Ext.rfl' w).alloc' _).alloc' _).alloc' _
  have hr1 : Row (((w.alloc (.cells #[.int .i64 m, .slice (some ⟨ba, oa, none⟩) n cc, .slice (some ⟨bb, ob, none⟩) n2 d2] 24)).alloc (.cells #[.bool b1, .slice A1 k1 c1, .bool b2, .slice A2 k2 c2, .bool b3, .slice A3 k3 c3] 49)).alloc (.cells #[.bool false, .slice none 0 0, .bool false, .slice none 0 0, .bool false, .slice none 0 0] 49)) w.heap.size 24 [.int .i64 m, .slice (some ⟨ba, oa, none⟩) n cc, .slice (some ⟨bb, ob, none⟩) n2 d2] := ((Row.new w _ _).alloc _).alloc _
  have hr2 : Row (((w.alloc (.cells #[.int .i64 m, .slice (some ⟨ba, oa, none⟩) n cc, .slice (some ⟨bb, ob, none⟩) n2 d2] 24)).alloc (.cells #[.bool b1, .slice A1 k1 c1, .bool b2, .slice A2 k2 c2, .bool b3, .slice A3 k3 c3] 49)).alloc (.cells #[.bool false, .slice none 0 0, .bool false, .slice none 0 0, .bool false, .slice none 0 0] 49)) (w.heap.size + 1) 49 [.bool b1, .slice A1 k1 c1, .bool b2, .slice A2 k2 c2, .bool b3, .slice A3 k3 c3] := by
    have := (Row.new (w.alloc (.cells #[.int .i64 m, .slice (some ⟨ba, oa, none⟩) n cc, .slice (some ⟨bb, ob, none⟩) n2 d2] 24)) 49 [.bool b1, .slice A1 k1 c1, .bool b2, .slice A2 k2 c2, .bool b3, .slice A3 k3 c3]).alloc (.cells #[.bool false, .slice none 0 0, .bool false, .slice none 0 0, .bool false, .slice none 0 0] 49)
    rwa [World.size_alloc] at this
  have hr3 : Row (((w.alloc (.cells #[.int .i64 m, .slice (some ⟨ba, oa, none⟩) n cc, .slice (some ⟨bb, ob, none⟩) n2 d2] 24)).alloc (.cells #[.bool b1, .slice A1 k1 c1, .bool b2, .slice A2 k2 c2, .bool b3, .slice A3 k3 c3] 49)).alloc (.cells #[.bool false, .slice none 0 0, .bool false, .slice none 0 0, .bool false, .slice none 0 0] 49)) (w.heap.size + 1 + 1) 49 [.bool false, .slice none 0 0, .bool false, .slice none 0 0, .bool false, .slice none 0 0] := by
    have := Row.new ((w.alloc (.cells #[.int .i64 m, .slice (some ⟨ba, oa, none⟩) n cc, .slice (some ⟨bb, ob, none⟩) n2 d2] 24)).alloc (.cells #[.bool b1, .slice A1 k1 c1, .bool b2, .slice A2 k2 c2, .bool b3, .slice A3 k3 c3] 49)) 49 [.bool false, .slice none 0 0, .bool false, .slice none 0 0, .bool false, .slice none 0 0]
    rwa [World.size_alloc, World.size_alloc] at this
  obtain ⟨W3, hW3⟩ : ∃ W3, (((w.alloc (.cells #[.int .i64 m, .slice (some ⟨ba, oa, none⟩) n cc, .slice (some ⟨bb, ob, none⟩) n2 d2] 24)).alloc (.cells #[.bool b1, .slice A1 k1 c1, .bool b2, .slice A2 k2 c2, .bool b3, .slice A3 k3 c3] 49)).alloc (.cells #[.bool false, .slice none 0 0, .bool false, .slice none 0 0, .bool false, .slice none 0 0] 49)) = W3 := ⟨_, rfl⟩
  rw [hW3] at hx hr1 hr2 hr3
  have HW3 := hid hW3
  have HX := hid hx
  have R1 := hid hr1
  have R2 := hid hr2
  have R3 := hid hr3
  have HL1 := hid (h1.ext hx)
  have HL2 := hid (h2.ext hx)
  have HL3 := hid (h3.ext hx)
  have HRA := hid (hra.ext hx)
  have HRB := hid (hrb.ext hx)
  have HN1 := hid hn1
  have HN2 := hid hn2
  have hbb : bb < w.heap.size := by
    obtain ⟨b3, o3, e3, hlt, -⟩ := hrb.atI (k := r) (by omega)
    cases e3
    exact hlt
  have HBB := hid hbb
  have i0 : (0 : Int) ≤ (r : Int) := by omega
  have i1 : (r : Int) < (n : Int) := by omega
  have i2 : (r : Int) < (n2 : Int) := by omega
  obtain ⟨f0, f1, f2, -, -, -⟩ := row_facts3 hr1
  obtain ⟨ba', oa', ea, -, hca⟩ := (hra.ext hx).atI (k := r) (by omega)
  cases ea
  rw [hu.out] at hca
  clear hW3 hx hr1 hr2 hr3 h1 h2 h3 hra hrb hn1 hn2 hbb
  have BUB : Hid (u.natAbs ≤ BIG ∧ a.natAbs ≤ BIG ∧ m.natAbs ≤ BIG) := hid ⟨small_big BU.out, small_big BA.out, small_big BM.out⟩
  go_enter Tryz.func62, Tryz.ntmps62
  go_upto_region 1 with fail
  rw [HW3.out]
  go_wp2_with fail
  refine (of_any u W3 (by have := BU.out; omega)).mono ?_
  rintro e w4 ⟨vu, rfl, hvu, hx4⟩
  have hvu2 := hvu
  obtain ⟨Au, ku, cu, xsu, bu, rfl, -⟩ := hvu
  have hy := hx4.alloc' (.cells #[.bool bu, .slice Au ku cu] 36)
  have hr := Row.new w4 36 [.bool bu, .slice Au ku cu]
  have hv := hvu2.ext ((Ext.rfl' w4).alloc' (.cells #[.bool bu, .slice Au ku cu] 36))
  obtain ⟨H3, hH3⟩ : ∃ H3, w4.heap.size = H3 := ⟨_, rfl⟩
  have hgt : w.heap.size + 1 + 1 < H3 := by
    have e1 := R3.out.lt
    have e2 := hx4.size
    omega
  rw [hH3] at hr
  obtain ⟨W4, hW4⟩ : ∃ W4, w4.alloc (.cells #[.bool bu, .slice Au ku cu] 36) = W4 := ⟨_, rfl⟩
  rw [hW4] at hy hr hv
  have HW4 := hid hW4
  have HE4 := hid hy
  have R4 := hid hr
  have HVU := hid hv
  have HGT := hid hgt
  have HL1 := hid (HL1.out.ext HE4.out)
  have HL2 := hid (HL2.out.ext HE4.out)
  have HL3 := hid (HL3.out.ext HE4.out)
  have HSG : Hid (∀ W' W'', Ext W4 W' → Off W' W'' (w.heap.size + 1 + 1) → W''.cell? ⟨w.heap.size, 0, none⟩ = some (.int .i64 m) ∧ W''.cell? ⟨w.heap.size, 1, none⟩ = some (.slice (some ⟨ba, oa, none⟩) n cc) ∧ W''.cell? ⟨w.heap.size, 2, none⟩ = some (.slice (some ⟨bb, ob, none⟩) n2 d2) ∧ W''.cell? ⟨w.heap.size + 1, 0, none⟩ = some (.bool b1) ∧ W''.cell? ⟨w.heap.size + 1, 1, none⟩ = some (.slice A1 k1 c1) ∧ W''.cell? ⟨w.heap.size + 1, 2, none⟩ = some (.bool b2) ∧ W''.cell? ⟨w.heap.size + 1, 3, none⟩ = some (.slice A2 k2 c2) ∧ W''.cell? ⟨w.heap.size + 1, 4, none⟩ = some (.bool b3) ∧ W''.cell? ⟨w.heap.size + 1, 5, none⟩ = some (.slice A3 k3 c3) ∧ W''.cell? ⟨bb, ob + r, none⟩ = some (.int .i64 a) ∧ W''.cell? ⟨H3, 0, none⟩ = some (.bool bu) ∧ W''.cell? ⟨H3, 1, none⟩ = some (.slice Au ku cu)) := hid (by
    intro W' W'' e ho
    obtain ⟨p0, p1, p2, -, -, -⟩ := row_facts3 (R1.out.ext (HE4.out.step e))
    obtain ⟨⟨q0, q1, q2, q3, q4, q5⟩, -⟩ := row_facts6 (R2.out.ext (HE4.out.step e))
    obtain ⟨s0, s1, -, -⟩ := row_facts (R4.out.ext e)
    obtain ⟨b3, o3, e3, -, hc2⟩ := ((HRB.out.ext HE4.out).ext e).atI (k := r) (by rw [HN2.out]; exact hrn2)
    cases e3
    rw [ha.out] at hc2
    have n0 : w.heap.size ≠ w.heap.size + 1 + 1 := by omega
    have n1 : w.heap.size + 1 ≠ w.heap.size + 1 + 1 := by omega
    have n2 : bb ≠ w.heap.size + 1 + 1 := by have := HBB.out; omega
    have n3 : H3 ≠ w.heap.size + 1 + 1 := by have := HGT.out; omega
    refine ⟨?_, ?_, ?_, ?_, ?_, ?_, ?_, ?_, ?_, ?_, ?_, ?_⟩
    · rw [ho.cell n0]; exact p0
    · rw [ho.cell n0]; exact p1
    · rw [ho.cell n0]; exact p2
    · rw [ho.cell n1]; exact q0
    · rw [ho.cell n1]; exact q1
    · rw [ho.cell n1]; exact q2
    · rw [ho.cell n1]; exact q3
    · rw [ho.cell n1]; exact q4
    · rw [ho.cell n1]; exact q5
    · rw [ho.cell n2]; exact hc2
    · rw [ho.cell n3]; exact s0
    · rw [ho.cell n3]; exact s1)
  have HSO : Hid (∀ W' W'', Ext W4 W' → Off W' W'' (w.heap.size + 1 + 1) → W''.cell? ⟨w.heap.size, 0, none⟩ = some (.int .i64 m) ∧ W''.cell? ⟨w.heap.size, 1, none⟩ = some (.slice (some ⟨ba, oa, none⟩) n cc) ∧ W''.cell? ⟨w.heap.size, 2, none⟩ = some (.slice (some ⟨bb, ob, none⟩) n2 d2) ∧ W''.cell? ⟨w.heap.size + 1, 0, none⟩ = some (.bool b1) ∧ W''.cell? ⟨w.heap.size + 1, 1, none⟩ = some (.slice A1 k1 c1) ∧ W''.cell? ⟨w.heap.size + 1, 2, none⟩ = some (.bool b2) ∧ W''.cell? ⟨w.heap.size + 1, 3, none⟩ = some (.slice A2 k2 c2) ∧ W''.cell? ⟨w.heap.size + 1, 4, none⟩ = some (.bool b3) ∧ W''.cell? ⟨w.heap.size + 1, 5, none⟩ = some (.slice A3 k3 c3) ∧ W''.cell? ⟨bb, ob + r, none⟩ = some (.int .i64 a) ∧ W''.cell? ⟨H3, 0, none⟩ = some (.bool bu) ∧ W''.cell? ⟨H3, 1, none⟩ = some (.slice Au ku cu)) := HSG
  have HS : Hid (∀ W', Ext W4 W' → W'.cell? ⟨w.heap.size, 0, none⟩ = some (.int .i64 m) ∧ W'.cell? ⟨w.heap.size, 1, none⟩ = some (.slice (some ⟨ba, oa, none⟩) n cc) ∧ W'.cell? ⟨w.heap.size, 2, none⟩ = some (.slice (some ⟨bb, ob, none⟩) n2 d2) ∧ W'.cell? ⟨w.heap.size + 1, 0, none⟩ = some (.bool b1) ∧ W'.cell? ⟨w.heap.size + 1, 1, none⟩ = some (.slice A1 k1 c1) ∧ W'.cell? ⟨w.heap.size + 1, 2, none⟩ = some (.bool b2) ∧ W'.cell? ⟨w.heap.size + 1, 3, none⟩ = some (.slice A2 k2 c2) ∧ W'.cell? ⟨w.heap.size + 1, 4, none⟩ = some (.bool b3) ∧ W'.cell? ⟨w.heap.size + 1, 5, none⟩ = some (.slice A3 k3 c3) ∧ W'.cell? ⟨bb, ob + r, none⟩ = some (.int .i64 a) ∧ W'.cell? ⟨H3, 0, none⟩ = some (.bool bu) ∧ W'.cell? ⟨H3, 1, none⟩ = some (.slice Au ku cu)) := hid fun W' e => HSG.out W' W' e (Off.rfl' _ _)
  clear HSG f0 f1 f2 hca hx4 hvu2 hy hr hv hW4 hgt
  have hcur : Ext W4 W4 := Ext.rfl' _
  go_upto_region 2 with fail
  rw [HW4.out]
  clear hH3
  go_region_held3 (fun W' => W'.cell? ⟨w.heap.size, 0, none⟩ = some (.int .i64 m) ∧ W'.cell? ⟨w.heap.size, 1, none⟩ = some (.slice (some ⟨ba, oa, none⟩) n cc) ∧ W'.cell? ⟨w.heap.size, 2, none⟩ = some (.slice (some ⟨bb, ob, none⟩) n2 d2) ∧ W'.cell? ⟨w.heap.size + 1, 0, none⟩ = some (.bool b1) ∧ W'.cell? ⟨w.heap.size + 1, 1, none⟩ = some (.slice A1 k1 c1) ∧ W'.cell? ⟨w.heap.size + 1, 2, none⟩ = some (.bool b2) ∧ W'.cell? ⟨w.heap.size + 1, 3, none⟩ = some (.slice A2 k2 c2) ∧ W'.cell? ⟨w.heap.size + 1, 4, none⟩ = some (.bool b3) ∧ W'.cell? ⟨w.heap.size + 1, 5, none⟩ = some (.slice A3 k3 c3) ∧ W'.cell? ⟨bb, ob + r, none⟩ = some (.int .i64 a) ∧ W'.cell? ⟨H3, 0, none⟩ = some (.bool bu) ∧ W'.cell? ⟨H3, 1, none⟩ = some (.slice Au ku cu))
    (first | (with_reducible exact HS.out _ hcur) | (with_reducible exact HS.out _ hcur.drew') | (with_reducible exact HSO.out _ _ hcur (((((((Off.rfl' _ _).set _ _).set _ _).set _ _).set _ _).set _ _).set _ _)) | go_keep)
    (first
      | (go_at_call 38; refine (Calls.at_args ?_ (rmul_any (.agg #[.bool bu, .slice Au ku cu]) (.agg #[.bool b1, .slice A1 k1 c1]) (u) (M) _ (HVU.out.ext ?_) (HL1.out.ext ?_) BUB.out.1 B.out.1)).mono ?_; (with_reducible rfl); (first | exact hcur | exact hcur.drew' | exact hcur.alloc' _ | exact hcur.drew'.alloc' _ | exact (hcur.alloc' _).drew'); (first | exact hcur | exact hcur.drew' | exact hcur.alloc' _ | exact hcur.drew'.alloc' _ | exact (hcur.alloc' _).drew'); rintro e w20 ⟨v20, rfl, hv20, hx⟩; have hcur := Ext.step hcur (by first | exact hx | exact Ext.undrew hx | exact Ext.step ((Ext.rfl' _).alloc' _) hx | exact Ext.step ((Ext.rfl' _).drew'.alloc' _) hx); have HV20 := hid hv20; obtain ⟨A20, k20, c20, xs20, b20, rfl, -⟩ := hv20)
      | (go_at_call 38; refine (Calls.at_args ?_ (rmul_any (.agg #[.bool bu, .slice Au ku cu]) (.agg #[.bool b2, .slice A2 k2 c2]) (u) (A) _ (HVU.out.ext ?_) (HL2.out.ext ?_) BUB.out.1 B.out.2.1)).mono ?_; (with_reducible rfl); (first | exact hcur | exact hcur.drew' | exact hcur.alloc' _ | exact hcur.drew'.alloc' _ | exact (hcur.alloc' _).drew'); (first | exact hcur | exact hcur.drew' | exact hcur.alloc' _ | exact hcur.drew'.alloc' _ | exact (hcur.alloc' _).drew'); rintro e w21 ⟨v21, rfl, hv21, hx⟩; have HV20 := hid (by first | exact HV20.out.ext hx | exact HV20.out.ext (Ext.undrew hx) | exact HV20.out.ext (Ext.step ((Ext.rfl' _).alloc' _) hx)); have hcur := Ext.step hcur (by first | exact hx | exact Ext.undrew hx | exact Ext.step ((Ext.rfl' _).alloc' _) hx | exact Ext.step ((Ext.rfl' _).drew'.alloc' _) hx); have HV21 := hid hv21; obtain ⟨A21, k21, c21, xs21, b21, rfl, -⟩ := hv21)
      | (go_at_call_of 50 (Value.int IntKind.i64 a); refine (of_any a _ (by have := BA.out; omega)).mono ?_; rintro e w22 ⟨v22, rfl, hv22, hx⟩; have HV20 := hid (by first | exact HV20.out.ext hx | exact HV20.out.ext (Ext.undrew hx) | exact HV20.out.ext (Ext.step ((Ext.rfl' _).alloc' _) hx)); have HV21 := hid (by first | exact HV21.out.ext hx | exact HV21.out.ext (Ext.undrew hx) | exact HV21.out.ext (Ext.step ((Ext.rfl' _).alloc' _) hx)); have hcur := Ext.step hcur (by first | exact hx | exact Ext.undrew hx | exact Ext.step ((Ext.rfl' _).alloc' _) hx | exact Ext.step ((Ext.rfl' _).drew'.alloc' _) hx); have HV22 := hid hv22; obtain ⟨A22, k22, c22, xs22, b22, rfl, -⟩ := hv22)
      | (go_at_call 38; refine (Calls.at_args ?_ (rmul_any (.agg #[.bool b22, .slice A22 k22 c22]) (.agg #[.bool b3, .slice A3 k3 c3]) (a) (D) _ (HV22.out.ext ?_) (HL3.out.ext ?_) BUB.out.2.1 B.out.2.2.1)).mono ?_; (with_reducible rfl); (first | exact Ext.rfl' _ | exact (Ext.rfl' _).drew' | exact (Ext.rfl' _).alloc' _ | exact (Ext.rfl' _).drew'.alloc' _); (first | exact hcur | exact hcur.drew' | exact hcur.alloc' _ | exact hcur.drew'.alloc' _ | exact (hcur.alloc' _).drew'); rintro e w23 ⟨v23, rfl, hv23, hx⟩; have HV20 := hid (by first | exact HV20.out.ext hx | exact HV20.out.ext (Ext.undrew hx) | exact HV20.out.ext (Ext.step ((Ext.rfl' _).alloc' _) hx)); have HV21 := hid (by first | exact HV21.out.ext hx | exact HV21.out.ext (Ext.undrew hx) | exact HV21.out.ext (Ext.step ((Ext.rfl' _).alloc' _) hx)); have hcur := Ext.step hcur (by first | exact hx | exact Ext.undrew hx | exact Ext.step ((Ext.rfl' _).alloc' _) hx | exact Ext.step ((Ext.rfl' _).drew'.alloc' _) hx); have HV23 := hid hv23; obtain ⟨A23, k23, c23, xs23, b23, rfl, -⟩ := hv23)
      | (go_at_call 34; refine (radd_any _ _ (u * A) (a * D) _ (HV21.out.ext ?_) (HV23.out.ext ?_) B.out.2.2.2.1 B.out.2.2.2.2).mono ?_; (first | exact Ext.rfl' _ | exact (Ext.rfl' _).drew' | exact (Ext.rfl' _).alloc' _ | exact (Ext.rfl' _).drew'.alloc' _); (first | exact Ext.rfl' _ | exact (Ext.rfl' _).drew' | exact (Ext.rfl' _).alloc' _ | exact (Ext.rfl' _).drew'.alloc' _); rintro e w24 ⟨v24, rfl, hv24, hx⟩; have HV20 := hid (by first | exact HV20.out.ext hx | exact HV20.out.ext (Ext.undrew hx) | exact HV20.out.ext (Ext.step ((Ext.rfl' _).alloc' _) hx)); have hcur := Ext.step hcur (by first | exact hx | exact Ext.undrew hx | exact Ext.step ((Ext.rfl' _).alloc' _) hx | exact Ext.step ((Ext.rfl' _).drew'.alloc' _) hx); have HV24 := hid hv24; obtain ⟨A24, k24, c24, xs24, b24, rfl, -⟩ := hv24)
      | (go_at_call_of 50 (Value.int IntKind.i64 m); refine (of_any m _ (by have := BM.out; omega)).mono ?_; rintro e w25 ⟨v25, rfl, hv25, hx⟩; have HV20 := hid (by first | exact HV20.out.ext hx | exact HV20.out.ext (Ext.undrew hx) | exact HV20.out.ext (Ext.step ((Ext.rfl' _).alloc' _) hx)); have HV24 := hid (by first | exact HV24.out.ext hx | exact HV24.out.ext (Ext.undrew hx) | exact HV24.out.ext (Ext.step ((Ext.rfl' _).alloc' _) hx)); have hcur := Ext.step hcur (by first | exact hx | exact Ext.undrew hx | exact Ext.step ((Ext.rfl' _).alloc' _) hx | exact Ext.step ((Ext.rfl' _).drew'.alloc' _) hx); have HV25 := hid hv25; obtain ⟨A25, k25, c25, xs25, b25, rfl, -⟩ := hv25)
      | (go_at_call 38; refine (Calls.at_args ?_ (rmul_any (.agg #[.bool b3, .slice A3 k3 c3]) (.agg #[.bool b25, .slice A25 k25 c25]) (D) (m) _ (HL3.out.ext ?_) (HV25.out.ext ?_) B.out.2.2.1 BUB.out.2.2)).mono ?_; (with_reducible rfl); (first | exact hcur | exact hcur.drew' | exact hcur.alloc' _ | exact hcur.drew'.alloc' _ | exact (hcur.alloc' _).drew'); (first | exact Ext.rfl' _ | exact (Ext.rfl' _).drew' | exact (Ext.rfl' _).alloc' _ | exact (Ext.rfl' _).drew'.alloc' _); rintro e w26 ⟨v26, rfl, hv26, hx⟩; have HV20 := hid (by first | exact HV20.out.ext hx | exact HV20.out.ext (Ext.undrew hx) | exact HV20.out.ext (Ext.step ((Ext.rfl' _).alloc' _) hx)); have HV24 := hid (by first | exact HV24.out.ext hx | exact HV24.out.ext (Ext.undrew hx) | exact HV24.out.ext (Ext.step ((Ext.rfl' _).alloc' _) hx)); have hcur := Ext.step hcur (by first | exact hx | exact Ext.undrew hx | exact Ext.step ((Ext.rfl' _).alloc' _) hx | exact Ext.step ((Ext.rfl' _).drew'.alloc' _) hx); have HV26 := hid hv26; obtain ⟨A26, k26, c26, xs26, b26, rfl, -⟩ := hv26; (have hyy := row_facts6 (R3.out.ext (HE4.out.step hcur)); obtain ⟨⟨y0, y1, y2, y3, y4, y5⟩, z0, z1, z2, z3, z4, z5⟩ := hyy)))
  all_goals
    have HF := hid (LineR.put (l := (u * M, u * A + a * D, D * m)) (R3.out.ext (HE4.out.step hcur)) (HX.out.step (HE4.out.step hcur)) (by omega) HV20.out HV24.out HV26.out)
    go_wp2
    refine bodyPost_ret (v := .agg #[.bool b20, .slice A20 k20 c20, .bool b24, .slice A24 k24 c24, .bool b26, .slice A26 k26 c26]) (by simp [results, Tryz.results62, go_sem, y0, y1, y2, y3, y4, y5]) rfl HF.out
end Go.Proofs.YtlfbgemceeibiaaGreatDoor
/- the reference's Then at a map, Of, Text -/
namespace Go.Proofs.YtlfbgemceeibiaaGreatDoor
open Go.RowKit
theorem lineB_big {m : Int} {us ad : List Int} (hM : mapP m us ad) {k : Nat} {l : Int × Int × Int} (h : LineB k l) (hk : k ≤ 200) {r : Int} (h0 : 0 ≤ r) (h1 : r < m) :
    l.1.natAbs ≤ BIG ∧ l.2.1.natAbs ≤ BIG ∧ l.2.2.natAbs ≤ BIG ∧ (us.getD r.toNat 0 * l.2.1).natAbs ≤ BIG ∧ (ad.getD r.toNat 0 * l.2.2).natAbs ≤ BIG := by
  obtain ⟨f1, f2, f3, -, f5, f6, -⟩ := LineB.fits hM h hk h0 h1
  exact ⟨fits_big f1, fits_big f2, fits_big f3, by rw [Int.mul_comm]; exact fits_big f5, fits_big f6⟩
/-- Then, at a map -/
theorem then_any (v lv : Value) (m r : Int) (us ad : List Int) (l : Int × Int × Int) (k : Nat) (w : World) (hv : MapV w v m us ad) (hM : Hid (mapP m us ad)) (hl : LineR w lv l) (hB : Hid (LineB k l)) (hk : k ≤ 200) (h0 : 0 ≤ r) (h1 : r < m) :
    Calls Tryz.prog 62 #[v, lv, .int .i64 r] w (LinePost (thenL m us ad l r) w) := by
  have hr := rule_of hM.out h0 h1
  have hb := lineB_big hM.out hB.out hk h0 h1
  have hm := hM.out.2.1
  have hm1 := hM.out.1
  obtain ⟨A, n, cc, B, n2, d, rfl, e1, e2, e3, e4, e5, e6, -, -⟩ := hv
  obtain ⟨b1, A1, k1, c1, b2, A2, k2, c2, b3, A3, k3, c3, rfl, g1, g2, g3⟩ := hl
  obtain ⟨q, rfl⟩ : ∃ q : Nat, r = (q : Int) := ⟨r.toNat, by omega⟩
  obtain ⟨ba, oa, eA, -, -⟩ := e5.atI (k := q) (by have := hr.2.2.2.2.1; omega)
  obtain ⟨bb, ob, eB, -, -⟩ := e6.atI (k := q) (by have := hr.2.2.2.2.2; omega)
  subst eA eB
  have h := then_l ba oa bb ob n cc n2 d q (us.getD q 0) (ad.getD q 0) m l.1 l.2.1 l.2.2 b1 b2 b3 A1 A2 A3 k1 c1 k2 c2 k3 c3 us ad w e5 e6 e1 e3 g1 g2 g3 (by have := hr.2.2.2.2.1; omega) (by have := hr.2.2.2.2.2; omega) (hid rfl) (hid rfl)
    (hid hb) (hid (by have h1 := hr.1; have h2 := hr.2.1; simp only [Int.toNat_natCast] at h1 h2; omega)) (hid (by have h1 := hr.2.2.1; have h2 := hr.2.2.2.1; simp only [Int.toNat_natCast] at h1 h2; omega)) (hid (by omega))
  exact h
theorem take_next {ws : List Int} {j : Nat} (h : j < ws.length) : ws.take (j + 1) = ws.take j ++ [ws.getD j 0] := by
  rw [List.take_add_one, List.getElem?_eq_getElem h, List.getD_eq_getElem?_getD, List.getElem?_eq_getElem h]; rfl
theorem line_next (m : Int) (us ad : List Int) {ws : List Int} {j : Nat} (h : j < ws.length) : lineI m us ad (ws.take (j + 1)) = thenL m us ad (lineI m us ad (ws.take j)) (ws.getD j 0) := by
  rw [take_next h, lineI_snoc]
theorem word_at {m : Int} {ws : List Int} (hW : wordB m ws = true) {j : Nat} (h : j < ws.length) : 0 ≤ ws.getD j 0 ∧ ws.getD j 0 < m := by
  refine (wordB_iff.1 hW).2 _ ?_
  rw [List.getD_eq_getElem?_getD, List.getElem?_eq_getElem h]
  exact List.getElem_mem h
theorem take_B {m : Int} {us ad ws : List Int} (hM : mapP m us ad) (hW : wordB m ws = true) {j : Nat} (h : j ≤ ws.length) : LineB j (lineI m us ad (ws.take j)) := by
  have := lineI_B hM (ws.take j) (fun r hr => (wordB_iff.1 hW).2 r (List.mem_of_mem_take hr))
  rwa [List.length_take, Nat.min_eq_left h] at this
/-- a linear map's box written over -/
theorem LineR.over {w3 : World} {l : Int × Int × Int} {H : Nat} {b1 b2 b3 p1 p2 p3 : Bool} {A1 A2 A3 P1 P2 P3 : Option Addr} {k1 c1 k2 c2 k3 c3 q1 d1 q2 d2 q3 d3 : Nat} (r : Row w3 H 49 [.bool b1, .slice A1 k1 c1, .bool b2, .slice A2 k2 c2, .bool b3, .slice A3 k3 c3]) (h : LineR w3 (.agg #[.bool p1, .slice P1 q1 d1, .bool p2, .slice P2 q2 d2, .bool p3, .slice P3 q3 d3]) l) :
    LineR (((((((w3.setCell ⟨H, 0, none⟩ (.bool p1)).setCell ⟨H, 1, none⟩ (.slice P1 q1 d1)).setCell ⟨H, 2, none⟩ (.bool p2)).setCell ⟨H, 3, none⟩ (.slice P2 q2 d2)).setCell ⟨H, 4, none⟩ (.bool p3)).setCell ⟨H, 5, none⟩ (.slice P3 q3 d3))) (.agg #[.bool p1, .slice P1 q1 d1, .bool p2, .slice P2 q2 d2, .bool p3, .slice P3 q3 d3]) l := by
  have ho : Off w3 (((((((w3.setCell ⟨H, 0, none⟩ (.bool p1)).setCell ⟨H, 1, none⟩ (.slice P1 q1 d1)).setCell ⟨H, 2, none⟩ (.bool p2)).setCell ⟨H, 3, none⟩ (.slice P2 q2 d2)).setCell ⟨H, 4, none⟩ (.bool p3)).setCell ⟨H, 5, none⟩ (.slice P3 q3 d3))) H := (((((((Off.rfl' _ _).set _ _).set _ _).set _ _).set _ _).set _ _).set _ _)
  exact h.kept (ho.keep r (no_int6 _ _ _ _ _ _ _ _ _ _ _ _))
theorem Ext.set6 {w w3 : World} {H : Nat} {a b c d e f : Value} (hw : Ext w w3) (hH : w.heap.size ≤ H) : Ext w (((((((w3.setCell ⟨H, 0, none⟩ (a)).setCell ⟨H, 1, none⟩ (b)).setCell ⟨H, 2, none⟩ (c)).setCell ⟨H, 3, none⟩ (d)).setCell ⟨H, 4, none⟩ (e)).setCell ⟨H, 5, none⟩ (f))) :=
  ((((((hw.set' (by show _ ≤ H; omega) _).set' (by show _ ≤ H; omega) _).set' (by show _ ≤ H; omega) _).set' (by show _ ≤ H; omega) _).set' (by show _ ≤ H; omega) _).set' (by show _ ≤ H; omega) _)
theorem Off.six {w3 : World} {H : Nat} {a b c d e f : Value} : Off w3 (((((((w3.setCell ⟨H, 0, none⟩ (a)).setCell ⟨H, 1, none⟩ (b)).setCell ⟨H, 2, none⟩ (c)).setCell ⟨H, 3, none⟩ (d)).setCell ⟨H, 4, none⟩ (e)).setCell ⟨H, 5, none⟩ (f))) H := (((((((Off.rfl' _ _).set _ _).set _ _).set _ _).set _ _).set _ _).set _ _)
set_option maxRecDepth 100000 in
set_option maxHeartbeats 12800000 in
theorem of_line (v : Value) (m : Int) (us ad : List Int) (Wd : Option Addr) (wn wc : Nat) (ws : List Int) (w : World) (hv : MapV w v m us ad) (hw : Rd w Wd (Is ws)) (hl : ws.length = wn) (hM : Hid (mapP m us ad)) (hW : Hid (wordB m ws = true)) :
    Calls Tryz.prog 27 #[v, .slice Wd wn wc] w (LinePost (lineI m us ad ws) w) := by
  have h200 : wn ≤ 200 := by rw [← hl]; exact (wordB_iff.1 hW.out).1
  have HV := hid hv
  have HWD := hid hw
  have HL := hid hl
  obtain ⟨A, n, cc, B, n2, d, rfl, -⟩ := hv
  have hx : Ext w ((w.alloc (.cells #[.int .i64 m, .slice A n cc, .slice B n2 d] 24)).alloc (.cells #[.bool false, .slice none 0 0, .bool false, .slice none 0 0, .bool false, .slice none 0 0] 49)) := ((Ext.rfl' w).alloc' _).alloc' _
  have hr1 : Row ((w.alloc (.cells #[.int .i64 m, .slice A n cc, .slice B n2 d] 24)).alloc (.cells #[.bool false, .slice none 0 0, .bool false, .slice none 0 0, .bool false, .slice none 0 0] 49)) w.heap.size 24 [.int .i64 m, .slice A n cc, .slice B n2 d] := (Row.new w _ _).alloc _
  have hr2 : Row ((w.alloc (.cells #[.int .i64 m, .slice A n cc, .slice B n2 d] 24)).alloc (.cells #[.bool false, .slice none 0 0, .bool false, .slice none 0 0, .bool false, .slice none 0 0] 49)) (w.heap.size + 1) 49 [.bool false, .slice none 0 0, .bool false, .slice none 0 0, .bool false, .slice none 0 0] := by
    have := Row.new (w.alloc (.cells #[.int .i64 m, .slice A n cc, .slice B n2 d] 24)) 49 [.bool false, .slice none 0 0, .bool false, .slice none 0 0, .bool false, .slice none 0 0]
    rwa [World.size_alloc] at this
  obtain ⟨W2, hW2⟩ : ∃ W2, ((w.alloc (.cells #[.int .i64 m, .slice A n cc, .slice B n2 d] 24)).alloc (.cells #[.bool false, .slice none 0 0, .bool false, .slice none 0 0, .bool false, .slice none 0 0] 49)) = W2 := ⟨_, rfl⟩
  rw [hW2] at hx hr1 hr2
  have HW2 := hid hW2
  have HX := hid hx
  have R1 := hid hr1
  have R2 := hid hr2
  clear hW2 hx hr1 hr2 hw hl
  go_enter Tryz.func27, Tryz.ntmps27
  go_upto_region 1 with fail
  rw [HW2.out]
  go_wp2_with fail
  refine (one_any W2).mono ?_
  rintro e w3 ⟨v3, rfl, hv3, hx3⟩
  have hv3' := hv3
  obtain ⟨b1, A1, k1, c1, b2, A2, k2, c2, b3, A3, k3, c3, rfl, -⟩ := hv3
  have hy := hx3.alloc' (.cells #[.bool b1, .slice A1 k1 c1, .bool b2, .slice A2 k2 c2, .bool b3, .slice A3 k3 c3] 49)
  have hr := Row.new w3 49 [.bool b1, .slice A1 k1 c1, .bool b2, .slice A2 k2 c2, .bool b3, .slice A3 k3 c3]
  have hvv := hv3'.ext ((Ext.rfl' w3).alloc' (.cells #[.bool b1, .slice A1 k1 c1, .bool b2, .slice A2 k2 c2, .bool b3, .slice A3 k3 c3] 49))
  obtain ⟨HB, hHB⟩ : ∃ HB, w3.heap.size = HB := ⟨_, rfl⟩
  have hgt : w.heap.size + 1 < HB := by
    have e1 := R2.out.lt
    have e2 := hx3.size
    omega
  obtain ⟨W4, hW4⟩ : ∃ W4, w3.alloc (.cells #[.bool b1, .slice A1 k1 c1, .bool b2, .slice A2 k2 c2, .bool b3, .slice A3 k3 c3] 49) = W4 := ⟨_, rfl⟩
  rw [hW4] at hy hr hvv
  rw [hHB] at hr
  have HW4 := hid hW4
  have HE4 := hid hy
  have R4 := hid hr
  have HL4 := hid hvv
  have HGT := hid hgt
  clear hx3 hv3' hy hr hvv hW4 hgt
  go_upto_region 2 with fail
  rw [HW4.out]
  clear hHB
  go_wp2_with fail
  go_loopw [6] (fun iz wr => ∃ (j : Nat) (b1 : Bool) (A1 : Option Addr) (k1 c1 : Nat) (b2 : Bool) (A2 : Option Addr) (k2 c2 : Nat) (b3 : Bool) (A3 : Option Addr) (k3 c3 : Nat), j ≤ wn ∧ iz = .int .i64 (j : Int) ∧ Row wr w.heap.size 24 [.int .i64 m, .slice A n cc, .slice B n2 d] ∧ Row wr (w.heap.size + 1) 49 [.bool false, .slice none 0 0, .bool false, .slice none 0 0, .bool false, .slice none 0 0] ∧ Row wr HB 49 [.bool b1, .slice A1 k1 c1, .bool b2, .slice A2 k2 c2, .bool b3, .slice A3 k3 c3] ∧ LineR wr (.agg #[.bool b1, .slice A1 k1 c1, .bool b2, .slice A2 k2 c2, .bool b3, .slice A3 k3 c3]) (lineI m us ad (ws.take j)) ∧ Ext w wr) (fun iz _ => wn - (intOf iz).toNat)
  case atStart => exact ⟨0, b1, A1, k1, c1, b2, A2, k2, c2, b3, A3, k3, c3, by omega, rfl, R1.out.ext HE4.out, R2.out.ext HE4.out, R4.out, HL4.out, HX.out.step HE4.out⟩
  case round =>
    clear R1 R2 R4 HL4
    obtain ⟨j, b1, A1, k1, c1, b2, A2, k2, c2, b3, A3, k3, c3, hj, rfl, hr1, hr2, hr3, hlr, hex⟩ := hrel
    have RM := hid hr1
    have RZ := hid hr2
    have RL := hid hr3
    have LR := hid hlr
    have EX := hid hex
    clear hr1 hr2 hr3 hlr hex
    obtain ⟨⟨y0, y1, y2, y3, y4, y5⟩, z0, z1, z2, z3, z4, z5⟩ := row_facts6 RL.out
    by_cases hlt : j < wn
    · have hjl : j < ws.length := by rw [HL.out]; exact hlt
      have HJ := hid (word_at hW.out hjl)
      obtain ⟨rr, hrr⟩ : ∃ rr, ws.getD j 0 = rr := ⟨_, rfl⟩
      have HRR := hid hrr
      obtain ⟨bw, ow, ew, -, hcw⟩ := (HWD.out.ext EX.out).atI (k := j) hjl
      subst ew
      rw [hrr] at hcw
      have HCW := hid hcw
      have HNX := hid (line_next m us ad hjl)
      have HTB := hid (take_B hM.out hW.out (Nat.le_of_lt hjl) (us := us) (ad := ad))
      have i0 : (0 : Int) ≤ (j : Int) := by omega
      have i1 : (j : Int) < (wn : Int) := by omega
      obtain ⟨f0, f1, f2, -, -, -⟩ := row_facts3 RM.out
      have hcur : Ext wr wr := Ext.rfl' _
      clear hrr hjl
      go_upto_region 5 with fail
      go_region_with (go_at_call 62; refine (then_any _ _ m rr us ad (lineI m us ad (ws.take j)) j _ (HV.out.ext (EX.out.step ?_)) hM (LR.out.ext ?_) HTB (by omega) (by rw [← HRR.out]; exact HJ.out.1) (by rw [← HRR.out]; exact HJ.out.2)).mono ?_; (first | exact hcur | exact hcur.drew' | exact hcur.alloc' _ | exact hcur.drew'.alloc' _ | exact (hcur.alloc' _).drew'); (first | exact hcur | exact hcur.drew' | exact hcur.alloc' _ | exact hcur.drew'.alloc' _ | exact (hcur.alloc' _).drew'); rintro e w6 ⟨v6, rfl, hv6, hx⟩; have hcur := Ext.step hcur (by first | exact hx | exact Ext.undrew hx | exact Ext.step ((Ext.rfl' _).alloc' _) hx | exact Ext.step ((Ext.rfl' _).drew'.alloc' _) hx); have HV6 := hid hv6; obtain ⟨p1, P1, q1, d1, p2, P2, q2, d2, p3, P3, q3, d3, rfl, -⟩ := hv6; obtain ⟨⟨y0, y1, y2, y3, y4, y5⟩, z0, z1, z2, z3, z4, z5⟩ := row_facts6 (RL.out.ext hcur))
      all_goals
        have rl := RL.out.ext hcur
        have HFIN : Hid (∀ WF, WF = (((((((w6.setCell ⟨HB, 0, none⟩ (.bool p1)).setCell ⟨HB, 1, none⟩ (.slice P1 q1 d1)).setCell ⟨HB, 2, none⟩ (.bool p2)).setCell ⟨HB, 3, none⟩ (.slice P2 q2 d2)).setCell ⟨HB, 4, none⟩ (.bool p3)).setCell ⟨HB, 5, none⟩ (.slice P3 q3 d3))) → ∃ (jn : Nat) (b1 : Bool) (A1 : Option Addr) (k1 c1 : Nat) (b2 : Bool) (A2 : Option Addr) (k2 c2 : Nat) (b3 : Bool) (A3 : Option Addr) (k3 c3 : Nat), jn ≤ wn ∧ Value.int .i64 ((j : Int) + 1) = .int .i64 (jn : Int) ∧ Row WF w.heap.size 24 [.int .i64 m, .slice A n cc, .slice B n2 d] ∧ Row WF (w.heap.size + 1) 49 [.bool false, .slice none 0 0, .bool false, .slice none 0 0, .bool false, .slice none 0 0] ∧ Row WF HB 49 [.bool b1, .slice A1 k1 c1, .bool b2, .slice A2 k2 c2, .bool b3, .slice A3 k3 c3] ∧ LineR WF (.agg #[.bool b1, .slice A1 k1 c1, .bool b2, .slice A2 k2 c2, .bool b3, .slice A3 k3 c3]) (lineI m us ad (ws.take jn)) ∧ Ext w WF) := hid (by
          rintro WF rfl
          have ho : Off w6 _ HB := Off.six (w3 := w6) (H := HB) (a := .bool p1) (b := .slice P1 q1 d1) (c := .bool p2) (d := .slice P2 q2 d2) (e := .bool p3) (f := .slice P3 q3 d3)
          refine ⟨j + 1, p1, P1, q1, d1, p2, P2, q2, d2, p3, P3, q3, d3, by omega, by simp, ho.row (RM.out.ext hcur) (by have := HGT.out; omega), ho.row (RZ.out.ext hcur) (by have := HGT.out; omega), rl.put6, ?_, (EX.out.step hcur).set6 (by have := HGT.out; omega)⟩
          rw [HNX.out, HRR.out]
          exact LineR.over rl HV6.out)
        clear rl hcur
        go_wp2
        go_roundw
        case rel => exact HFIN.out _ rfl
        case measure => first | (simp [intOf]; done) | (simp [intOf]; omega)
    · obtain rfl : j = wn := by omega
      have HTK := hid (show ws.take j = ws from by rw [← HL.out, List.take_length])
      have hfin : LinePost (lineI m us ad ws) w (.returned (.agg #[.bool b1, .slice A1 k1 c1, .bool b2, .slice A2 k2 c2, .bool b3, .slice A3 k3 c3])) (((((((wr.setCell ⟨w.heap.size + 1, 0, none⟩ (.bool b1)).setCell ⟨w.heap.size + 1, 1, none⟩ (.slice A1 k1 c1)).setCell ⟨w.heap.size + 1, 2, none⟩ (.bool b2)).setCell ⟨w.heap.size + 1, 3, none⟩ (.slice A2 k2 c2)).setCell ⟨w.heap.size + 1, 4, none⟩ (.bool b3)).setCell ⟨w.heap.size + 1, 5, none⟩ (.slice A3 k3 c3))) := by
        have h := LR.out
        rw [HTK.out] at h
        exact ⟨_, rfl, LineR.over RZ.out h, EX.out.set6 (by omega)⟩
      have HF := hid hfin
      obtain ⟨⟨x0, x1, x2, x3, x4, x5⟩, s0, s1, s2, s3, s4, s5⟩ := row_facts6 RZ.out
      clear hfin
      go_wp2
      refine bodyPost_ret (v := .agg #[.bool b1, .slice A1 k1 c1, .bool b2, .slice A2 k2 c2, .bool b3, .slice A3 k3 c3]) (by simp [results, Tryz.results27, go_sem, x0, x1, x2, x3, x4, x5]) rfl HF.out
set_option maxRecDepth 100000 in
set_option maxHeartbeats 6400000 in
theorem text_l (b1 b2 b3 : Bool) (A1 A2 A3 : Option Addr) (k1 c1 k2 c2 k3 c3 : Nat) (X Y Z : Int) (s1 s2 s3 : ByteArray) (w : World) (h1 : RefV w (.agg #[.bool b1, .slice A1 k1 c1]) X) (h2 : RefV w (.agg #[.bool b2, .slice A2 k2 c2]) Y) (h3 : RefV w (.agg #[.bool b3, .slice A3 k3 c3]) Z)
    (HB : Hid (X.natAbs ≤ BIG ∧ Y.natAbs ≤ BIG ∧ Z.natAbs ≤ BIG)) (Hs1 : Hid (Str (K.txt X) = s1)) (Hs2 : Hid (Str (K.txt Y) = s2)) (Hs3 : Hid (Str (K.txt Z) = s3)) :
    Calls Tryz.prog 26 #[.agg #[.bool b1, .slice A1 k1 c1, .bool b2, .slice A2 k2 c2, .bool b3, .slice A3 k3 c3]] w (fun e w' => e = .returned (.agg #[.string s1, .string s2, .string s3]) ∧ Ext w w') := by
  have hx : Ext w ((w.alloc (.cells #[.bool b1, .slice A1 k1 c1, .bool b2, .slice A2 k2 c2, .bool b3, .slice A3 k3 c3] 49)).alloc (.cells #[.string ⟨#[]⟩, .string ⟨#[]⟩, .string ⟨#[]⟩] 41)) := ((Ext.rfl' w).alloc' _).alloc' _
  have hr1 : Row ((w.alloc (.cells #[.bool b1, .slice A1 k1 c1, .bool b2, .slice A2 k2 c2, .bool b3, .slice A3 k3 c3] 49)).alloc (.cells #[.string ⟨#[]⟩, .string ⟨#[]⟩, .string ⟨#[]⟩] 41)) w.heap.size 49 [.bool b1, .slice A1 k1 c1, .bool b2, .slice A2 k2 c2, .bool b3, .slice A3 k3 c3] := (Row.new w _ _).alloc _
  have hr2 : Row ((w.alloc (.cells #[.bool b1, .slice A1 k1 c1, .bool b2, .slice A2 k2 c2, .bool b3, .slice A3 k3 c3] 49)).alloc (.cells #[.string ⟨#[]⟩, .string ⟨#[]⟩, .string ⟨#[]⟩] 41)) (w.heap.size + 1) 41 [.string ⟨#[]⟩, .string ⟨#[]⟩, .string ⟨#[]⟩] := by
    have := Row.new (w.alloc (.cells #[.bool b1, .slice A1 k1 c1, .bool b2, .slice A2 k2 c2, .bool b3, .slice A3 k3 c3] 49)) 41 [.string ⟨#[]⟩, .string ⟨#[]⟩, .string ⟨#[]⟩]
    rwa [World.size_alloc] at this
  obtain ⟨W2, hW2⟩ : ∃ W2, ((w.alloc (.cells #[.bool b1, .slice A1 k1 c1, .bool b2, .slice A2 k2 c2, .bool b3, .slice A3 k3 c3] 49)).alloc (.cells #[.string ⟨#[]⟩, .string ⟨#[]⟩, .string ⟨#[]⟩] 41)) = W2 := ⟨_, rfl⟩
  rw [hW2] at hx hr1 hr2
  have HW2 := hid hW2
  have HX := hid hx
  have R1 := hid hr1
  have R2 := hid hr2
  have HL1 := hid (h1.ext hx)
  have HL2 := hid (h2.ext hx)
  have HL3 := hid (h3.ext hx)
  have HSO : Hid (∀ W' W'', Ext W2 W' → Off W' W'' (w.heap.size + 1) → W''.cell? ⟨w.heap.size, 0, none⟩ = some (.bool b1) ∧ W''.cell? ⟨w.heap.size, 1, none⟩ = some (.slice A1 k1 c1) ∧ W''.cell? ⟨w.heap.size, 2, none⟩ = some (.bool b2) ∧ W''.cell? ⟨w.heap.size, 3, none⟩ = some (.slice A2 k2 c2) ∧ W''.cell? ⟨w.heap.size, 4, none⟩ = some (.bool b3) ∧ W''.cell? ⟨w.heap.size, 5, none⟩ = some (.slice A3 k3 c3)) := hid (by
    intro W' W'' e ho
    obtain ⟨⟨q0, q1, q2, q3, q4, q5⟩, -⟩ := row_facts6 (ho.row (R1.out.ext e) (by omega))
    exact ⟨q0, q1, q2, q3, q4, q5⟩)
  have HS : Hid (∀ W', Ext W2 W' → W'.cell? ⟨w.heap.size, 0, none⟩ = some (.bool b1) ∧ W'.cell? ⟨w.heap.size, 1, none⟩ = some (.slice A1 k1 c1) ∧ W'.cell? ⟨w.heap.size, 2, none⟩ = some (.bool b2) ∧ W'.cell? ⟨w.heap.size, 3, none⟩ = some (.slice A2 k2 c2) ∧ W'.cell? ⟨w.heap.size, 4, none⟩ = some (.bool b3) ∧ W'.cell? ⟨w.heap.size, 5, none⟩ = some (.slice A3 k3 c3)) := hid fun W' e => HSO.out W' W' e (Off.rfl' _ _)
  clear hW2 hx hr1 hr2 h1 h2 h3
  go_enter Tryz.func26, Tryz.ntmps26
  have hcur : Ext W2 W2 := Ext.rfl' _
  go_upto_region 1 with fail
  rw [HW2.out]
  go_region_held3 (fun W' => W'.cell? ⟨w.heap.size, 0, none⟩ = some (.bool b1) ∧ W'.cell? ⟨w.heap.size, 1, none⟩ = some (.slice A1 k1 c1) ∧ W'.cell? ⟨w.heap.size, 2, none⟩ = some (.bool b2) ∧ W'.cell? ⟨w.heap.size, 3, none⟩ = some (.slice A2 k2 c2) ∧ W'.cell? ⟨w.heap.size, 4, none⟩ = some (.bool b3) ∧ W'.cell? ⟨w.heap.size, 5, none⟩ = some (.slice A3 k3 c3))
    (first | (with_reducible exact HS.out _ hcur) | (with_reducible exact HS.out _ hcur.drew') | (with_reducible exact HSO.out _ _ hcur ((((Off.rfl' _ _).set _ _).set _ _).set _ _)) | go_keep)
    (first
      | (go_at_call_of 30 (Value.agg #[Value.bool b1, Value.slice A1 k1 c1]); refine (rtext_s _ (HL1.out.ext ?_) HB.out.1 Hs1).mono ?_; (first | exact hcur | exact hcur.drew' | exact hcur.alloc' _ | exact hcur.drew'.alloc' _ | exact (hcur.alloc' _).drew'); rintro e w31 ⟨rfl, hx⟩; have hcur := Ext.step hcur (by first | exact hx | exact Ext.undrew hx | exact Ext.step ((Ext.rfl' _).alloc' _) hx | exact Ext.step ((Ext.rfl' _).drew'.alloc' _) hx))
      | (go_at_call_of 30 (Value.agg #[Value.bool b2, Value.slice A2 k2 c2]); refine (rtext_s _ (HL2.out.ext ?_) HB.out.2.1 Hs2).mono ?_; (first | exact hcur | exact hcur.drew' | exact hcur.alloc' _ | exact hcur.drew'.alloc' _ | exact (hcur.alloc' _).drew'); rintro e w32 ⟨rfl, hx⟩; have hcur := Ext.step hcur (by first | exact hx | exact Ext.undrew hx | exact Ext.step ((Ext.rfl' _).alloc' _) hx | exact Ext.step ((Ext.rfl' _).drew'.alloc' _) hx))
      | (go_at_call_of 30 (Value.agg #[Value.bool b3, Value.slice A3 k3 c3]); refine (rtext_s _ (HL3.out.ext ?_) HB.out.2.2 Hs3).mono ?_; (first | exact hcur | exact hcur.drew' | exact hcur.alloc' _ | exact hcur.drew'.alloc' _ | exact (hcur.alloc' _).drew'); rintro e w33 ⟨rfl, hx⟩; have hcur := Ext.step hcur (by first | exact hx | exact Ext.undrew hx | exact Ext.step ((Ext.rfl' _).alloc' _) hx | exact Ext.step ((Ext.rfl' _).drew'.alloc' _) hx); (have hyy := row_facts3 (R2.out.ext hcur); obtain ⟨y0, y1, y2, y3, y4, y5⟩ := hyy)))
  all_goals
    have HF := hid ((HX.out.step hcur).set3 (H := w.heap.size + 1) (a := .string s1) (b := .string s2) (c := .string s3) (by omega))
    go_wp2
    refine bodyPost_ret (v := .agg #[.string s1, .string s2, .string s3]) (by simp [results, Tryz.results26, go_sem, y0, y1, y2]) rfl ⟨rfl, HF.out⟩
/-- the reference's Text, in the words of Line -/
theorem text_line (v : Value) (l : Int × Int × Int) (w : World) (h : LineR w v l) (s1 s2 s3 : ByteArray) (HB : Hid (K.fits l.1 ∧ K.fits l.2.1 ∧ K.fits l.2.2)) (Hs1 : Hid (Str (K.txt l.1) = s1)) (Hs2 : Hid (Str (K.txt l.2.1) = s2)) (Hs3 : Hid (Str (K.txt l.2.2) = s3)) :
    Calls Tryz.prog 26 #[v] w (fun e w' => e = .returned (.agg #[.string s1, .string s2, .string s3]) ∧ Ext w w') := by
  obtain ⟨b1, A1, k1, c1, b2, A2, k2, c2, b3, A3, k3, c3, rfl, h1, h2, h3⟩ := h
  exact text_l b1 b2 b3 A1 A2 A3 k1 c1 k2 c2 k3 c3 l.1 l.2.1 l.2.2 s1 s2 s3 w h1 h2 h3 (hid ⟨fits_big HB.out.1, fits_big HB.out.2.1, fits_big HB.out.2.2⟩) Hs1 Hs2 Hs3
end Go.Proofs.YtlfbgemceeibiaaGreatDoor
/- the law WordApplies -/
namespace Go.Proofs.YtlfbgemceeibiaaGreatDoor
open Go.RowKit
theorem lin_big {M N A : Int} (h1 : K.fits M) (h2 : K.fits N) (h3 : K.fits A) : (M * N + A).natAbs ≤ BIG := by
  have a1 := fits_top h1
  have a2 := fits_top h2
  have a3 := fits_top h3
  have a4 := mul_top a1 a2
  have a5 : (M * N).natAbs = M.natAbs * N.natAbs := Int.natAbs_mul _ _
  have a6 := Int.natAbs_add_le (M * N) A
  have e1 : TOP (223 + 223) = TOP 223 * TOP 223 := TOP_add _ _
  have e2 : TOP (223 + 223 + 1) = TOP (223 + 223) * TOP 1 := TOP_add _ _
  have e3 : TOP 1 = 1000000000 := rfl
  have e4 := TOP_pos 223
  have e5 : TOP 223 * 1 ≤ TOP 223 * TOP 223 := Nat.mul_le_mul_left _ e4
  refine le_big (a := 223 + 223 + 1) ?_ (by omega)
  rw [e2, e3]
  generalize TOP (223 + 223) = P at *
  generalize TOP 223 = Q at *
  omega
/-- what Apply tells -/
def AppP (M A D N : Int) (s : ByteArray) (b : Bool) (c : Int) : Prop :=
  (D ≤ 0 → s = ⟨#[]⟩ ∧ b = false ∧ c = 2) ∧ (0 < D → ¬ K.fits (M * N + A) → s = ⟨#[]⟩ ∧ b = false ∧ c = 3) ∧ (0 < D → K.fits (M * N + A) → (M * N + A) % D ≠ 0 → s = ⟨#[]⟩ ∧ b = false ∧ c = 0) ∧
    (0 < D → K.fits (M * N + A) → (M * N + A) % D = 0 → s = Str (K.txt ((M * N + A) / D)) ∧ b = true ∧ c = 0)
theorem apply_any (lm la ld ln : List UInt8) (w : World) (v0 : K.validL lm = true) (v1 : K.validL la = true) (v2 : K.validL ld = true) (v3 : K.validL ln = true) (ht : Tab w) :
    Calls Tryz.prog 47 #[.agg #[.string (Str lm), .string (Str la), .string (Str ld)], .string (Str ln)] w (fun e w' => ∃ s b c, e = .returned (.tuple #[.string s, .bool b, .int .i64 c]) ∧ AppP (K.numL lm) (K.numL la) (K.numL ld) (K.numL ln) s b c ∧ Ext w w') := by
  obtain ⟨t0, f0⟩ := K.txt_numL lm v0
  obtain ⟨t1, f1⟩ := K.txt_numL la v1
  obtain ⟨t2, f2⟩ := K.txt_numL ld v2
  obtain ⟨t3, f3⟩ := K.txt_numL ln v3
  by_cases hd : 0 < K.numL ld
  · by_cases hf : K.fits (K.numL lm * K.numL ln + K.numL la)
    · by_cases hr : (K.numL lm * K.numL ln + K.numL la) % K.numL ld = 0
      · have h := apply_yes (K.numL lm) (K.numL la) (K.numL ld) (K.numL ln) w (hid f0) (hid f1) (hid f2) (hid f3) ht hd (hid hf) hr
        rw [t0, t1, t2, t3] at h
        refine h.mono ?_
        rintro e w' ⟨rfl, h2⟩
        exact ⟨_, _, _, rfl, ⟨fun h => by omega, fun _ h => absurd hf h, fun _ _ h => absurd hr h, fun _ _ _ => ⟨rfl, rfl, rfl⟩⟩, h2⟩
      · have h := apply_frac (K.numL lm) (K.numL la) (K.numL ld) (K.numL ln) w (hid f0) (hid f1) (hid f2) (hid f3) ht hd (hid hf) hr
        rw [t0, t1, t2, t3] at h
        refine h.mono ?_
        rintro e w' ⟨rfl, h2⟩
        exact ⟨_, _, _, rfl, ⟨fun h => by omega, fun _ h => absurd hf h, fun _ _ _ => ⟨rfl, rfl, rfl⟩, fun _ _ h => absurd h hr⟩, h2⟩
    · have h := apply_size (K.numL lm) (K.numL la) (K.numL ld) (K.numL ln) w (hid f0) (hid f1) (hid f2) (hid f3) ht hd (hid hf)
      rw [t0, t1, t2, t3] at h
      refine h.mono ?_
      rintro e w' ⟨rfl, h2⟩
      exact ⟨_, _, _, rfl, ⟨fun h => by omega, fun _ _ => ⟨rfl, rfl, rfl⟩, fun _ h => absurd h hf, fun _ h => absurd h hf⟩, h2⟩
  · have h := apply_arg (K.numL lm) (K.numL la) (K.numL ld) (K.numL ln) w (hid f0) (hid f1) (hid f2) (hid f3) ht (by omega)
    rw [t0, t1, t2, t3] at h
    refine h.mono ?_
    rintro e w' ⟨rfl, h2⟩
    exact ⟨_, _, _, rfl, ⟨fun _ => ⟨rfl, rfl, rfl⟩, fun h => absurd h hd, fun h => absurd h hd, fun h => absurd h hd⟩, h2⟩
end Go.Proofs.YtlfbgemceeibiaaGreatDoor
