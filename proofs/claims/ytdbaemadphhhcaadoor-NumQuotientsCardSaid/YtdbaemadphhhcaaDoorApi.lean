/- num.Compare, Power, Rest -/
import Derived.Test.YtdbaemadphhhcaaDoorComb
namespace Go.Proofs.YtdbaemadphhhcaaDoor
open Go.RowKit
theorem both_bad (l1 l2 : List UInt8) (w : World) (h1 : l1.length ≤ 140737488351232) (h2 : l2.length ≤ 140737488351232) (v : K.validL l1 = false ∨ K.validL l2 = false) :
    Calls Tryd.prog 43 #[.string (Str l1), .string (Str l2)] w (BothBad w) := by
  cases h : K.validL l1 with
  | false => exact both_bad1 l1 l2 w h1 h
  | true =>
    rcases v with v | v
    · rw [h] at v; cases v
    · exact both_bad2 l1 l2 w h1 h2 h v
set_option maxRecDepth 100000 in
set_option maxHeartbeats 800000 in
theorem compare_ok (l1 l2 : List UInt8) (w : World) (h1 : l1.length ≤ 140737488351232) (h2 : l2.length ≤ 140737488351232) (v1 : K.validL l1 = true) (v2 : K.validL l2 = true) :
    Calls Tryd.prog 14 #[.string (Str l1), .string (Str l2)] w (fun e w' => e = .returned (.tuple #[.int .i64 (sgnI (K.numL l1) (K.numL l2)), .int .i64 0]) ∧ Ext w w') := by
  have g1 := fits_big (K.txt_numL l1 v1).2
  have g2 := fits_big (K.txt_numL l2 v2).2
  go_enter Tryd.func14, Tryd.ntmps14
  go_wp2_with fail
  refine (both_ok l1 l2 w h1 h2 v1 v2).mono ?_
  rintro e w1 ⟨⟨y1, y2, rfl, ⟨z1, b1, rfl, hb1, hz1⟩, ⟨z2, b2, rfl, hb2, hz2⟩⟩, hx1⟩
  obtain ⟨A1, k1, c1, rfl⟩ := hz1.slice
  obtain ⟨A2, k2, c2, rfl⟩ := hz2.slice
  have hE : Ext w1 ((w1.alloc (.cells #[.bool b1, .slice A1 k1 c1] 59)).alloc (.cells #[.bool b2, .slice A2 k2 c2] 59)) := ((Ext.rfl' w1).alloc' _).alloc' _
  have n1 := (NumV.mk' hb1 hz1).ext hE
  have n2 := (NumV.mk' hb2 hz2).ext hE
  have hE2 := hx1.step hE
  clear hb1 hz1 hb2 hz2 hx1 hE
  go_wp2_with fail
  refine (ncmp_any _ _ _ _ _ n1 n2 g1 g2).mono ?_
  rintro e w2 ⟨rfl, hx2⟩
  obtain ⟨sg, hsg⟩ : ∃ sg, sgnI (K.numL l1) (K.numL l2) = sg := ⟨_, rfl⟩
  rw [hsg]
  have HSG := hid hsg
  clear hsg
  go_wp2
  go_ret2
  exact ⟨by rw [HSG.out]; rfl, hE2.step hx2⟩
set_option maxRecDepth 100000 in
set_option maxHeartbeats 800000 in
theorem compare_bad (l1 l2 : List UInt8) (w : World) (h1 : l1.length ≤ 140737488351232) (h2 : l2.length ≤ 140737488351232) (v : K.validL l1 = false ∨ K.validL l2 = false) :
    Calls Tryd.prog 14 #[.string (Str l1), .string (Str l2)] w (fun e w' => e = .returned (.tuple #[.int .i64 0, .int .i64 1]) ∧ Ext w w') := by
  go_enter Tryd.func14, Tryd.ntmps14
  go_wp2_with fail
  refine (both_bad l1 l2 w h1 h2 v).mono ?_
  rintro e w1 ⟨rfl, hx1⟩
  go_wp2
  go_ret2
  exact ⟨rfl, (hx1.alloc' _).alloc' _⟩
set_option maxRecDepth 100000 in
set_option maxHeartbeats 800000 in
theorem power_ok (l : List UInt8) (n : Nat) (w : World) (h1 : l.length ≤ 140737488351232) (v1 : K.validL l = true) (hn : n ≤ 10000) (ht : Tab w) :
    Calls Tryd.prog 29 #[.string (Str l), .int .i64 (n : Int)] w (ToldPost (K.numL l ^ n) w) := by
  have g1 := (K.txt_numL l v1).2
  go_enter Tryd.func29, Tryd.ntmps29
  go_wp2_with fail
  refine (read_ok l w h1 v1).mono ?_
  rintro e w1 ⟨⟨y1, rfl, ⟨z1, b1, rfl, hb1, hz1⟩⟩, hx1⟩
  obtain ⟨A1, k1, c1, rfl⟩ := hz1.slice
  have hE : Ext w1 (w1.alloc (.cells #[.bool b1, .slice A1 k1 c1] 59)) := (Ext.rfl' w1).alloc' _
  have n1 := (NumV.mk' hb1 hz1).ext hE
  have hE2 := hx1.step hE
  clear hb1 hz1 hx1 hE
  go_wp2_with fail
  refine (npow_any _ _ n _ n1 g1 hn).mono ?_
  rintro e w2 ⟨v, r, rfl, hv, hB, hr, hx2⟩
  have HR := hid hr
  clear hr
  go_wp2_with fail
  refine (write_any v r w2 hv hB (ht.ext (hE2.step hx2))).mono ?_
  intro e w3 hp
  have hq := told_step (hE2.step hx2) hp
  have hq2 : ToldPost (K.numL l ^ n) w e w3 := by
    rcases HR.out with h | ⟨h, h'⟩
    · rwa [h] at hq
    · exact ⟨fun hf => absurd hf h', fun _ => hq.2.1 h, hq.2.2⟩
  have HQ := hid hq2
  clear hE2 hx2 n1 hv hp hq2
  by_cases hf : K.fits r
  · have he := hq.1 hf
    subst he
    go_wp2
    go_ret2
    exact HQ.out
  · have he := hq.2.1 hf
    subst he
    go_wp2
    go_ret2
    exact HQ.out
set_option maxRecDepth 100000 in
set_option maxHeartbeats 800000 in
theorem power_form (l : List UInt8) (n : Int) (w : World) (h1 : l.length ≤ 140737488351232) (v1 : K.validL l = false) :
    Calls Tryd.prog 29 #[.string (Str l), .int .i64 n] w (BadStr w) := by
  go_enter Tryd.func29, Tryd.ntmps29
  go_wp2_with fail
  refine (read_bad l w h1 v1).mono ?_
  rintro e w1 ⟨rfl, hx1⟩
  go_wp2
  go_ret2
  exact ⟨rfl, hx1.alloc' _⟩
set_option maxRecDepth 100000 in
set_option maxHeartbeats 800000 in
theorem power_arg (l : List UInt8) (n : Int) (w : World) (h1 : l.length ≤ 140737488351232) (v1 : K.validL l = true) (hn : n < 0 ∨ 10000 < n) :
    Calls Tryd.prog 29 #[.string (Str l), .int .i64 n] w (fun e w' => e = .returned (.tuple #[.string ⟨#[]⟩, .int .i64 2]) ∧ Ext w w') := by
  go_enter Tryd.func29, Tryd.ntmps29
  go_wp2_with fail
  refine (read_ok l w h1 v1).mono ?_
  rintro e w1 ⟨⟨y1, rfl, ⟨z1, b1, rfl, hb1, hz1⟩⟩, hx1⟩
  obtain ⟨A1, k1, c1, rfl⟩ := hz1.slice
  by_cases h : n < 0
  · clear hn
    go_wp2
    go_ret2
    exact ⟨rfl, hx1.alloc' _⟩
  · have hn2 : 10000 < n := by omega
    clear hn
    go_wp2
    go_ret2
    exact ⟨rfl, hx1.alloc' _⟩
set_option maxRecDepth 100000 in
set_option maxHeartbeats 800000 in
theorem rest_ok (l : List UInt8) (d : Nat) (w : World) (h1 : l.length ≤ 140737488351232) (v1 : K.validL l = true) (hd : 1 ≤ d) (hd2 : d ≤ 2147483647) :
    Calls Tryd.prog 30 #[.string (Str l), .int .i64 (d : Int)] w (fun e w' => e = .returned (.tuple #[.int .i64 (K.numL l % d), .int .i64 0]) ∧ Ext w w') := by
  have g1 := fits_big (K.txt_numL l v1).2
  go_enter Tryd.func30, Tryd.ntmps30
  go_wp2_with fail
  refine (read_ok l w h1 v1).mono ?_
  rintro e w1 ⟨⟨y1, rfl, ⟨z1, b1, rfl, hb1, hz1⟩⟩, hx1⟩
  obtain ⟨A1, k1, c1, rfl⟩ := hz1.slice
  have hE : Ext w1 (w1.alloc (.cells #[.bool b1, .slice A1 k1 c1] 59)) := (Ext.rfl' w1).alloc' _
  have n1 := (NumV.mk' hb1 hz1).ext hE
  have hE2 := hx1.step hE
  clear hb1 hz1 hx1 hE
  go_wp2_with fail
  refine (nrest_any _ _ d _ n1 g1 (by omega) (by omega)).mono ?_
  rintro e w2 ⟨rfl, hx2⟩
  have hr0 : 0 ≤ K.numL l % (d : Int) := Int.emod_nonneg _ (by omega)
  have hr1 : K.numL l % (d : Int) < d := Int.emod_lt_of_pos _ (by omega)
  obtain ⟨r, hsg⟩ : ∃ r, K.numL l % (d : Int) = r := ⟨_, rfl⟩
  rw [hsg] at hr0 hr1 ⊢
  have HSG := hid hsg
  clear hsg
  go_wp2
  go_ret2
  exact ⟨by rw [HSG.out]; rfl, hE2.step hx2⟩
set_option maxRecDepth 100000 in
set_option maxHeartbeats 800000 in
theorem rest_form (l : List UInt8) (n : Int) (w : World) (h1 : l.length ≤ 140737488351232) (v1 : K.validL l = false) :
    Calls Tryd.prog 30 #[.string (Str l), .int .i64 n] w (fun e w' => e = .returned (.tuple #[.int .i64 0, .int .i64 1]) ∧ Ext w w') := by
  go_enter Tryd.func30, Tryd.ntmps30
  go_wp2_with fail
  refine (read_bad l w h1 v1).mono ?_
  rintro e w1 ⟨rfl, hx1⟩
  go_wp2
  go_ret2
  exact ⟨rfl, hx1.alloc' _⟩
set_option maxRecDepth 100000 in
set_option maxHeartbeats 800000 in
theorem rest_arg (l : List UInt8) (n : Int) (w : World) (h1 : l.length ≤ 140737488351232) (v1 : K.validL l = true) (hn : n < 1 ∨ 2147483647 < n) :
    Calls Tryd.prog 30 #[.string (Str l), .int .i64 n] w (fun e w' => e = .returned (.tuple #[.int .i64 0, .int .i64 2]) ∧ Ext w w') := by
  go_enter Tryd.func30, Tryd.ntmps30
  go_wp2_with fail
  refine (read_ok l w h1 v1).mono ?_
  rintro e w1 ⟨⟨y1, rfl, ⟨z1, b1, rfl, hb1, hz1⟩⟩, hx1⟩
  obtain ⟨A1, k1, c1, rfl⟩ := hz1.slice
  by_cases h : n < 1
  · clear hn
    go_wp2
    go_ret2
    exact ⟨rfl, hx1.alloc' _⟩
  · have hn2 : 2147483647 < n := by omega
    clear hn
    go_wp2
    go_ret2
    exact ⟨rfl, hx1.alloc' _⟩
end Go.Proofs.YtdbaemadphhhcaaDoor
