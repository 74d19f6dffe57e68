/- num.readBoth -/
import Derived.Test.YtdbaemadphhhcaaDoorRead
namespace Go.Proofs.YtdbaemadphhhcaaDoor
open Go.RowKit
abbrev Z : Obj := .cells #[.bool false, .slice none 0 0] 59
theorem twoZ {w w' : World} (e : Ext ((w.alloc (.cells #[.bool false, .slice none 0 0] 59)).alloc (.cells #[.bool false, .slice none 0 0] 59)) w') :
    Row w' w.heap.size 59 [.bool false, .slice none 0 0] ∧ Row w' (w.heap.size + 1) 59 [.bool false, .slice none 0 0] ∧ w.heap.size + 1 < w'.heap.size ∧ Ext w w' := by
  have h1 := two_facts (W := w) (H := w.heap.size) (t := 59) (a := .bool false) (b := .slice none 0 0) (Ext.step ((Ext.rfl' _).alloc' _) e) rfl
  have h2 := two_facts (H := w.heap.size + 1) e (by simp)
  exact ⟨h1.2.2.2.2.2, h2.2.2.2.2.2, h2.2.2.2.2.1, (((Ext.rfl' w).alloc' _).alloc' _).step e⟩
def BothOk (m n : Int) (w : World) (e : Ending) (w' : World) : Prop := (∃ v1 v2, e = .returned (.tuple #[v1, v2, .int .i64 0]) ∧ NumV w' v1 m ∧ NumV w' v2 n) ∧ Ext w w'
def BothBad (w : World) (e : Ending) (w' : World) : Prop := e = .returned (.tuple #[.agg #[.bool false, .slice none 0 0], .agg #[.bool false, .slice none 0 0], .int .i64 1]) ∧ Ext w w'
set_option maxRecDepth 100000 in
set_option maxHeartbeats 1600000 in
theorem both_bad1 (l1 l2 : List UInt8) (w : World) (h1 : l1.length ≤ 140737488351232) (v1 : K.validL l1 = false) :
    Calls Tryd.prog 43 #[.string (Str l1), .string (Str l2)] w (BothBad w) := by
  go_enter Tryd.func43, Tryd.ntmps43
  go_wp2_with fail
  refine (read_bad l1 _ h1 v1).mono ?_
  rintro e w1 ⟨rfl, hx1⟩
  obtain ⟨r0, r1, hl, hE⟩ := twoZ hx1
  obtain ⟨g0, g1, g2, g3⟩ := (r0.alloc (.cells #[.bool false, .slice none 0 0] 59)).facts
  obtain ⟨i0, i1, i2, i3⟩ := (r1.alloc (.cells #[.bool false, .slice none 0 0] 59)).facts
  have hn1 : ¬ (w.heap.size = w1.heap.size) := by omega
  have hn2 : ¬ (w.heap.size + 1 = w1.heap.size) := by omega
  clear hx1 r0 r1
  go_wp2
  refine bodyPost_ret (v := .tuple #[.agg #[.bool false, .slice none 0 0], .agg #[.bool false, .slice none 0 0], .int .i64 1]) (by simp [results, Tryd.results43, go_sem, g0, g1, i0, i1]) rfl ?_
  exact ⟨rfl, ((((hE.alloc' _).set' (by exact Nat.le_refl _) _).set' (by exact Nat.le_refl _) _).set' (by exact Nat.le_succ _) _).set' (by exact Nat.le_succ _) _⟩
set_option maxRecDepth 100000 in
set_option maxHeartbeats 1600000 in
theorem both_bad2 (l1 l2 : List UInt8) (w : World) (h1 : l1.length ≤ 140737488351232) (h2 : l2.length ≤ 140737488351232) (v1 : K.validL l1 = true) (v2 : K.validL l2 = false) :
    Calls Tryd.prog 43 #[.string (Str l1), .string (Str l2)] w (BothBad w) := by
  go_enter Tryd.func43, Tryd.ntmps43
  go_wp2_with fail
  refine (read_ok l1 _ h1 v1).mono ?_
  rintro e w1 ⟨⟨v1, rfl, ⟨z1, b1, rfl, hb1, hz1⟩⟩, hx1⟩
  obtain ⟨A1, k1, c1, rfl⟩ := hz1.slice
  obtain ⟨r0, r1, hl, hE⟩ := twoZ hx1
  clear hx1
  go_wp2_with fail
  refine (read_bad l2 _ h2 v2).mono ?_
  rintro e w2 ⟨rfl, hx2⟩
  have hx2' : Ext w1 w2 := ((Ext.rfl' w1).alloc' _).step hx2
  have hE2 := hE.step hx2'
  obtain ⟨g0, g1, g2, g3⟩ := ((r0.ext hx2').alloc (.cells #[.bool false, .slice none 0 0] 59)).facts
  obtain ⟨i0, i1, i2, i3⟩ := ((r1.ext hx2').alloc (.cells #[.bool false, .slice none 0 0] 59)).facts
  clear hx2 r0 r1 hx2' hE
  go_wp2
  refine bodyPost_ret (v := .tuple #[.agg #[.bool false, .slice none 0 0], .agg #[.bool false, .slice none 0 0], .int .i64 1]) (by simp [results, Tryd.results43, go_sem, g0, g1, i0, i1]) rfl ?_
  exact ⟨rfl, ((((hE2.alloc' _).set' (by exact Nat.le_refl _) _).set' (by exact Nat.le_refl _) _).set' (by exact Nat.le_succ _) _).set' (by exact Nat.le_succ _) _⟩
set_option maxRecDepth 100000 in
set_option maxHeartbeats 1600000 in
theorem both_ok (l1 l2 : List UInt8) (w : World) (h1 : l1.length ≤ 140737488351232) (h2 : l2.length ≤ 140737488351232) (v1 : K.validL l1 = true) (v2 : K.validL l2 = true) :
    Calls Tryd.prog 43 #[.string (Str l1), .string (Str l2)] w (BothOk (K.numL l1) (K.numL l2) w) := by
  go_enter Tryd.func43, Tryd.ntmps43
  go_wp2_with fail
  refine (read_ok l1 _ h1 v1).mono ?_
  rintro e w1 ⟨⟨v1, rfl, ⟨z1, b1, rfl, hb1, hz1⟩⟩, hx1⟩
  obtain ⟨A1, k1, c1, rfl⟩ := hz1.slice
  obtain ⟨r0, r1, hl, hE⟩ := twoZ hx1
  clear hx1
  go_wp2_with fail
  refine (read_ok l2 _ h2 v2).mono ?_
  rintro e w2 ⟨⟨v2, rfl, ⟨z2, b2, rfl, hb2, hz2⟩⟩, hx2⟩
  obtain ⟨A2, k2, c2, rfl⟩ := hz2.slice
  have hx2' : Ext w1 w2 := ((Ext.rfl' w1).alloc' _).step hx2
  have hE2 := hE.step hx2'
  obtain ⟨-, -, -, -, hl1, rr⟩ := two_facts hx2 rfl
  have R0 := (r0.ext hx2').alloc (.cells #[.bool b2, .slice A2 k2 c2] 59)
  have R1 := (r1.ext hx2').alloc (.cells #[.bool b2, .slice A2 k2 c2] 59)
  obtain ⟨g0, g1, g2, g3⟩ := R0.facts
  obtain ⟨i0, i1, i2, i3⟩ := R1.facts
  obtain ⟨k0, k1', -, -⟩ := (rr.alloc (.cells #[.bool b2, .slice A2 k2 c2] 59)).facts
  have hfin := PairPost.stored (w := w) R0 R1 (hE2.alloc' _) (Nat.le_refl _) hb1 hb2 (hz1.ext (hx2'.alloc' (.cells #[.bool b2, .slice A2 k2 c2] 59))) (hz2.ext ((Ext.rfl' w2).alloc' (.cells #[.bool b2, .slice A2 k2 c2] 59)))
  have HF := hid hfin
  have hn1 : ¬ (w.heap.size = w1.heap.size) := by omega
  have hn2 : ¬ (w.heap.size + 1 = w1.heap.size) := by omega
  have hn3 : ¬ (w1.heap.size = w.heap.size) := by omega
  have hn4 : ¬ (w1.heap.size = w.heap.size + 1) := by omega
  have hn5 : ¬ (w.heap.size = w2.heap.size) := by omega
  have hn6 : ¬ (w.heap.size + 1 = w2.heap.size) := by omega
  have hn7 : ¬ (w2.heap.size = w.heap.size) := by omega
  have hn8 : ¬ (w2.heap.size = w.heap.size + 1) := by omega
  clear hx2 r0 r1 hx2' hE hfin hz1 hz2 R0 R1 rr hb1 hb2
  go_wp2_with fail
  go_region_held3 (fun w' => w'.cell? ⟨w1.heap.size, 0, none⟩ = some (.bool b1) ∧ w'.cell? ⟨w1.heap.size, 1, none⟩ = some (.slice A1 k1 c1) ∧ w'.cell? ⟨w2.heap.size, 0, none⟩ = some (.bool b2) ∧ w'.cell? ⟨w2.heap.size, 1, none⟩ = some (.slice A2 k2 c2))
    (go_keep) (fail)
  go_wp2
  refine bodyPost_ret (v := .tuple #[.agg #[.bool b1, .slice A1 k1 c1], .agg #[.bool b2, .slice A2 k2 c2], .int .i64 0]) (by simp [results, Tryd.results43, go_sem, g0, g1, i0, i1]) rfl ?_
  obtain ⟨y1, y2, hy, m1, m2, he⟩ := HF.out
  injection hy with hy
  injection hy with hy
  simp only [Array.mk.injEq, List.cons.injEq, and_true] at hy
  obtain ⟨rfl, rfl⟩ := hy
  exact ⟨⟨_, _, rfl, m1.ext (Ext.rfl' _).drew', m2.ext (Ext.rfl' _).drew'⟩, he.drew'⟩
end Go.Proofs.YtdbaemadphhhcaaDoor
