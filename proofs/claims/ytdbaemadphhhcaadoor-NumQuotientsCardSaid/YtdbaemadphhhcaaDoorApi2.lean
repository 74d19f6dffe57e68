/- num.Divide -/
import Derived.Test.YtdbaemadphhhcaaDoorApi
namespace Go.Proofs.YtdbaemadphhhcaaDoor
open Go.RowKit
def Bad2 (k : Int) (w : World) (e : Ending) (w' : World) : Prop := e = .returned (.tuple #[.string ⟨#[]⟩, .string ⟨#[]⟩, .int .i64 k]) ∧ Ext w w'
set_option maxRecDepth 100000 in
set_option maxHeartbeats 800000 in
theorem divide_form (l1 l2 : List UInt8) (w : World) (h1 : l1.length ≤ 140737488351232) (h2 : l2.length ≤ 140737488351232) (v : K.validL l1 = false ∨ K.validL l2 = false) :
    Calls Tryd.prog 24 #[.string (Str l1), .string (Str l2)] w (Bad2 1 w) := by
  go_enter Tryd.func24, Tryd.ntmps24
  go_wp2_with fail
  refine (both_bad l1 l2 w h1 h2 v).mono ?_
  rintro e w1 ⟨rfl, hx1⟩
  go_wp2
  go_ret3
  exact ⟨rfl, (hx1.alloc' _).alloc' _⟩
set_option maxRecDepth 100000 in
set_option maxHeartbeats 800000 in
theorem divide_arg (l1 l2 : List UInt8) (w : World) (h1 : l1.length ≤ 140737488351232) (h2 : l2.length ≤ 140737488351232) (v1 : K.validL l1 = true) (v2 : K.validL l2 = true) (hn : ¬ 0 < K.numL l2) :
    Calls Tryd.prog 24 #[.string (Str l1), .string (Str l2)] w (Bad2 2 w) := by
  have hd : decide (0 < K.numL l2) = false := decide_eq_false hn
  have HD := hid hd
  clear hd hn
  go_enter Tryd.func24, Tryd.ntmps24
  go_wp2_with fail
  refine (both_ok l1 l2 w h1 h2 v1 v2).mono ?_
  rintro e w1 ⟨⟨y1, y2, rfl, ⟨z1, b1, rfl, hb1, hz1⟩, ⟨z2, b2, rfl, hb2, hz2⟩⟩, hx1⟩
  obtain ⟨A1, k1, c1, rfl⟩ := hz1.slice
  obtain ⟨A2, k2, c2, rfl⟩ := hz2.slice
  have hE : Ext w1 ((w1.alloc (.cells #[.bool b1, .slice A1 k1 c1] 59)).alloc (.cells #[.bool b2, .slice A2 k2 c2] 59)) := ((Ext.rfl' w1).alloc' _).alloc' _
  have n2 := (NumV.mk' hb2 hz2).ext hE
  have hE2 := hx1.step hE
  clear hb1 hz1 hb2 hz2 hx1 hE
  go_wp2_with fail
  refine (positive_any _ _ _ n2).mono ?_
  rintro e w2 ⟨rfl, hx2⟩
  rw [HD.out]
  go_wp2
  go_ret3
  exact ⟨rfl, hE2.step hx2⟩
def DivOk (q r : Int) (w : World) (e : Ending) (w' : World) : Prop := e = .returned (.tuple #[.string (Str (K.txt q)), .string (Str (K.txt r)), .int .i64 0]) ∧ Ext w w'
set_option maxRecDepth 100000 in
set_option maxHeartbeats 1600000 in
theorem divide_ok (l1 l2 : List UInt8) (w : World) (h1 : l1.length ≤ 140737488351232) (h2 : l2.length ≤ 140737488351232) (v1 : K.validL l1 = true) (v2 : K.validL l2 = true) (hn : 0 < K.numL l2) (ht : Tab w) :
    Calls Tryd.prog 24 #[.string (Str l1), .string (Str l2)] w (DivOk (K.numL l1 / K.numL l2) (K.numL l1 % K.numL l2) w) := by
  have g1 := fits_big (K.txt_numL l1 v1).2
  have g2 := fits_big (K.txt_numL l2 v2).2
  have hd : decide (0 < K.numL l2) = true := decide_eq_true hn
  have HD := hid hd
  have hr0 : 0 ≤ K.numL l1 % K.numL l2 := Int.emod_nonneg _ (by omega)
  have hr1 : K.numL l1 % K.numL l2 < K.numL l2 := Int.emod_lt_of_pos _ hn
  have hqb : (K.numL l1 / K.numL l2).natAbs ≤ BIG := Nat.le_trans (Int.natAbs_ediv_le_natAbs _ _) g1
  have hrb : (K.numL l1 % K.numL l2).natAbs ≤ BIG := by omega
  have HQ := hid hqb
  have HR := hid hrb
  clear hd hr0 hr1 hqb hrb
  go_enter Tryd.func24, Tryd.ntmps24
  go_wp2_with fail
  refine (both_ok l1 l2 w h1 h2 v1 v2).mono ?_
  rintro e w1 ⟨⟨y1, y2, rfl, ⟨z1, b1, rfl, hb1, hz1⟩, ⟨z2, b2, rfl, hb2, hz2⟩⟩, hx1⟩
  obtain ⟨A1, k1, c1, rfl⟩ := hz1.slice
  obtain ⟨A2, k2, c2, rfl⟩ := hz2.slice
  have hE : Ext w1 ((w1.alloc (.cells #[.bool b1, .slice A1 k1 c1] 59)).alloc (.cells #[.bool b2, .slice A2 k2 c2] 59)) := ((Ext.rfl' w1).alloc' _).alloc' _
  have n1 := (NumV.mk' hb1 hz1).ext hE
  have n2 := (NumV.mk' hb2 hz2).ext hE
  have hE2 := hx1.step hE
  clear hb1 hz1 hb2 hz2 hx1 hE
  go_wp2_with fail
  refine (positive_any _ _ _ n2).mono ?_
  rintro e w2 ⟨rfl, hx2⟩
  rw [HD.out]
  obtain ⟨f0, f1, f2, f3⟩ := boxes hx2
  go_wp2_with fail
  refine (ndivide_any _ _ _ _ _ (n1.ext hx2) (n2.ext hx2) g1 g2 hn).mono ?_
  rintro e w3 ⟨u1, u2, rfl, ⟨z3, b3, rfl, hb3, hz3⟩, ⟨z4, b4, rfl, hb4, hz4⟩, hx3⟩
  obtain ⟨A3, k3, c3, rfl⟩ := hz3.slice
  obtain ⟨A4, k4, c4, rfl⟩ := hz4.slice
  have hE3 := (hE2.step hx2).step hx3
  have hE4 : Ext w3 ((w3.alloc (.cells #[.bool b3, .slice A3 k3 c3] 59)).alloc (.cells #[.bool b4, .slice A4 k4 c4] 59)) := ((Ext.rfl' w3).alloc' _).alloc' _
  have n3 := (NumV.mk' hb3 hz3).ext hE4
  have n4 := (NumV.mk' hb4 hz4).ext hE4
  have ht4 := ht.ext (hE3.step hE4)
  have hk : ∀ w', Ext ((w3.alloc (.cells #[.bool b3, .slice A3 k3 c3] 59)).alloc (.cells #[.bool b4, .slice A4 k4 c4] 59)) w' → _ := fun w' e => boxes e
  have HK := hid hk
  have N3 := hid n3
  have N4 := hid n4
  have HT := hid ht4
  have HE := hid (hE3.step hE4)
  clear hk n3 n4 ht4 hE3 hE4 hE2 hx2 hx3 hz3 hz4 hb3 hb4 n1 n2 f0 f1 f2 f3 ht
  go_wp2_with fail
  go_region_held3 (fun w' => w'.cell? ⟨w3.heap.size, 0, none⟩ = some (.bool b3) ∧ w'.cell? ⟨w3.heap.size, 1, none⟩ = some (.slice A3 k3 c3) ∧ w'.cell? ⟨w3.heap.size + 1, 0, none⟩ = some (.bool b4) ∧ w'.cell? ⟨w3.heap.size + 1, 1, none⟩ = some (.slice A4 k4 c4))
    (first | go_keep | exact HK.out _ hxa | exact HK.out _ (hxa.step hx6))
    (first | (go_at_call_of 55 (Value.agg #[Value.bool b3, Value.slice A3 k3 c3]); refine (text_any _ _ _ (N3.out.ext ?_) HQ.out (HT.out.ext ?_)).mono ?_; exact (Ext.rfl' _).drew'; exact (Ext.rfl' _).drew'; rintro e w5 ⟨rfl, hx5⟩; have hxa := Ext.undrew hx5; clear hx5) | (go_at_call_of 55 (Value.agg #[Value.bool b4, Value.slice A4 k4 c4]); refine (text_any _ _ _ (N4.out.ext ?_) HR.out (HT.out.ext ?_)).mono ?_; exact hxa; exact hxa; rintro e w6 ⟨rfl, hx6⟩))
  go_wp2
  go_ret3
  exact ⟨rfl, (HE.out.step hxa).step hx6⟩
end Go.Proofs.YtdbaemadphhhcaaDoor
