/- the law NumQuotients -/
import Derived.Test.YtdbaemadphhhcaaDoorVal
import Derived.Test.YtdbaemadphhhcaaDoorRSign
import Derived.Test.YtdbaemadphhhcaaDoorROf
import Derived.Test.YtdbaemadphhhcaaDoorRText
import Derived.Test.YtdbaemadphhhcaaDoorDivisors
import Derived.Test.YtdbaemadphhhcaaDoorOrders
namespace Go.Proofs.YtdbaemadphhhcaaDoor
open Go.RowKit
set_option maxRecDepth 100000 in
set_option maxHeartbeats 3200000 in
theorem bad0_NumQuotients (a b : List UInt8) (w : World) (ha : a.length ≤ 140737488351232) (hb : b.length ≤ 140737488351232) (ht : Tab w) (va : Hid (K.validL a = false)) :
    Calls Tryd.prog 7 #[.string (Str a), .string (Str b)] w (TruePost w) := by
  have HT := hid ht
  go_enter Tryd.func7, Tryd.ntmps7
  go_wp2_with fail
  refine (rvalid_at a w va ha).mono ?_
  rintro e wz ⟨rfl, rfl⟩
  go_wp2_with fail
  refine (awake_any w HT.out).mono ?_
  rintro e w1 ⟨rfl, hx1⟩
  have hy1 : Ext w w1 := hx1
  clear hx1
  go_wp2
  go_ret
  exact ⟨rfl, hy1⟩
set_option maxRecDepth 100000 in
set_option maxHeartbeats 3200000 in
theorem bad1_NumQuotients (a b : List UInt8) (w : World) (ha : a.length ≤ 140737488351232) (hb : b.length ≤ 140737488351232) (ht : Tab w) (va : Hid (K.validL a = true)) (vb : Hid (K.validL b = false)) :
    Calls Tryd.prog 7 #[.string (Str a), .string (Str b)] w (TruePost w) := by
  have HT := hid ht
  go_enter Tryd.func7, Tryd.ntmps7
  go_wp2_with fail
  refine (rvalid_at a w va ha).mono ?_
  rintro e wz ⟨rfl, rfl⟩
  go_wp2_with fail
  refine (rvalid_at b w vb hb).mono ?_
  rintro e wz ⟨rfl, rfl⟩
  go_wp2_with fail
  refine (awake_any w HT.out).mono ?_
  rintro e w1 ⟨rfl, hx1⟩
  have hy1 : Ext w w1 := hx1
  clear hx1
  go_wp2
  go_ret
  exact ⟨rfl, hy1⟩
set_option maxRecDepth 100000 in
set_option maxHeartbeats 3200000 in
theorem low0_NumQuotients (a b : List UInt8) (w : World) (ha : a.length ≤ 140737488351232) (hb : b.length ≤ 140737488351232) (ht : Tab w) (va : Hid (K.validL a = true)) (vb : Hid (K.validL b = true)) (hsg : Hid (sgn0 (K.numL b) = 0)) :
    Calls Tryd.prog 7 #[.string (Str a), .string (Str b)] w (TruePost w) := by
  have HT := hid ht
  go_enter Tryd.func7, Tryd.ntmps7
  go_wp2_with fail
  refine (rvalid_at a w va ha).mono ?_
  rintro e wz ⟨rfl, rfl⟩
  go_wp2_with fail
  refine (rvalid_at b w vb hb).mono ?_
  rintro e wz ⟨rfl, rfl⟩
  go_wp2_with fail
  refine (parse_any b w vb.out).mono ?_
  rintro e wp ⟨v, rfl, hv, hxp⟩
  have hyp : Ext w wp := hxp
  clear hxp
  have HV := hid hv
  obtain ⟨A, k, cc, xs, bb, rfl, -⟩ := hv
  go_wp2_with fail
  refine (rsign_at wp HV.out hsg).mono ?_
  rintro e w1 ⟨rfl, hx1⟩
  have hy1 : Ext w w1 := hyp.step hx1
  clear hx1 hyp
  go_wp2_with fail
  refine (awake_any w1 (HT.out.ext hy1)).mono ?_
  rintro e w2 ⟨rfl, hx2⟩
  have hy2 : Ext w w2 := hy1.step hx2
  clear hx2 hy1
  go_wp2
  go_ret
  exact ⟨rfl, hy2⟩
set_option maxRecDepth 100000 in
set_option maxHeartbeats 3200000 in
theorem low1_NumQuotients (a b : List UInt8) (w : World) (ha : a.length ≤ 140737488351232) (hb : b.length ≤ 140737488351232) (ht : Tab w) (va : Hid (K.validL a = true)) (vb : Hid (K.validL b = true)) (hsg : Hid (sgn0 (K.numL b) = -1)) :
    Calls Tryd.prog 7 #[.string (Str a), .string (Str b)] w (TruePost w) := by
  have HT := hid ht
  go_enter Tryd.func7, Tryd.ntmps7
  go_wp2_with fail
  refine (rvalid_at a w va ha).mono ?_
  rintro e wz ⟨rfl, rfl⟩
  go_wp2_with fail
  refine (rvalid_at b w vb hb).mono ?_
  rintro e wz ⟨rfl, rfl⟩
  go_wp2_with fail
  refine (parse_any b w vb.out).mono ?_
  rintro e wp ⟨v, rfl, hv, hxp⟩
  have hyp : Ext w wp := hxp
  clear hxp
  have HV := hid hv
  obtain ⟨A, k, cc, xs, bb, rfl, -⟩ := hv
  go_wp2_with fail
  refine (rsign_at wp HV.out hsg).mono ?_
  rintro e w1 ⟨rfl, hx1⟩
  have hy1 : Ext w w1 := hyp.step hx1
  clear hx1 hyp
  go_wp2_with fail
  refine (awake_any w1 (HT.out.ext hy1)).mono ?_
  rintro e w2 ⟨rfl, hx2⟩
  have hy2 : Ext w w2 := hy1.step hx2
  clear hx2 hy1
  go_wp2
  go_ret
  exact ⟨rfl, hy2⟩
theorem divide_at {a b q r : List UInt8} (w : World) (h1 : a.length ≤ 140737488351232) (h2 : b.length ≤ 140737488351232) (v1 : K.validL a = true) (v2 : K.validL b = true) (hp : 0 < K.numL b) (hq : Hid (K.txt (K.numL a / K.numL b) = q)) (hr : Hid (K.txt (K.numL a % K.numL b) = r)) (ht : Tab w) :
    Calls Tryd.prog 24 #[.string (Str a), .string (Str b)] w (fun e w' => e = .returned (.tuple #[.string (Str q), .string (Str r), .int .i64 0]) ∧ Ext w w') := by
  rw [← hq.out, ← hr.out]; exact divide_ok a b w h1 h2 v1 v2 hp ht
theorem rest_at {a : List UInt8} {d : Nat} {n : Int} (w : World) (h1 : a.length ≤ 140737488351232) (v1 : K.validL a = true) (hd : 1 ≤ d) (hd2 : d ≤ 2147483647) (hn : Hid (K.numL a % d = n)) :
    Calls Tryd.prog 30 #[.string (Str a), .int .i64 (d : Int)] w (fun e w' => e = .returned (.tuple #[.int .i64 n, .int .i64 0]) ∧ Ext w w') := by
  rw [← hn.out]; exact rest_ok a d w h1 v1 hd hd2
theorem text_at {v : Value} {n : Int} {l : List UInt8} (w : World) (h : RefV w v n) (hb : n.natAbs ≤ BIG) (hl : Hid (K.txt n = l)) : Calls Tryd.prog 36 #[v] w (StrPost l w) := by
  rw [← hl.out]; exact rtext_any v n w h hb
theorem sub_same {r : List UInt8} (w : World) (h1 : r.length ≤ 140737488351232) (v1 : K.validL r = true) (ht : Tab w) :
    Calls Tryd.prog 12 #[.string (Str r), .string (Str r)] w (fun e w' => e = .returned (.tuple #[.string ⟨#[48]⟩, .int .i64 0]) ∧ Ext w w') :=
  (sub_ok r r w h1 h1 v1 v1 ht).mono fun e w' h => told_eq (l := [48]) h lit_zero.1 (by rw [lit_zero.2]; omega)
theorem nn_big {n : Nat} (h : n < 1000000000) : ((n : Int)).natAbs ≤ BIG := by
  rw [Int.natAbs_natCast]; exact le_big (a := 1) (by have : TOP 1 = 1000000000 := rfl; rw [this]; omega) (by omega)
set_option maxRecDepth 100000 in
set_option maxHeartbeats 3200000 in
theorem ok0L_NumQuotients (a b q r p s : List UInt8) (w : World) (ha : a.length ≤ 140737488351232) (hb : b.length ≤ 140737488351232) (ht : Tab w) (va : Hid (K.validL a = true)) (vb : Hid (K.validL b = true)) (hpb : Hid (0 < K.numL b)) (hsg : Hid (sgn0 (K.numL b) = 1)) (hq : Hid (K.txt (K.numL a / K.numL b) = q)) (hr : Hid (K.txt (K.numL a % K.numL b) = r)) (lr : Hid (r.length ≤ 140737488351232)) (lq : Hid (q.length ≤ 140737488351232)) (vr : Hid (K.validL r = true))
    (hxs : Hid (sgnI (K.numL r) 0 = 0)) (hys : Hid (sgnI (K.numL r) (K.numL b) = -1)) (qp : Hid (mL b q = p)) (lp : Hid (p.length ≤ 140737488351232)) (qs : Hid (sL p r = s)) (hal : Hid (Alike s a)) (hbl : ¬ b.length ≤ 9) :
    Calls Tryd.prog 7 #[.string (Str a), .string (Str b)] w (TruePost w) := by
  have HT := hid ht
  have hSb := Str_size b
  go_enter Tryd.func7, Tryd.ntmps7
  go_wp2_with fail
  refine (rvalid_at a w va ha).mono ?_
  rintro e wz ⟨rfl, rfl⟩
  go_wp2_with fail
  refine (rvalid_at b w vb hb).mono ?_
  rintro e wz ⟨rfl, rfl⟩
  go_wp2_with fail
  refine (parse_any b w vb.out).mono ?_
  rintro e wp ⟨v, rfl, hv, hxp⟩
  have hyp : Ext w wp := hxp
  clear hxp
  have HV := hid hv
  obtain ⟨A, k, cc, xs, bb, rfl, -⟩ := hv
  go_wp2_with fail
  refine (rsign_at wp HV.out hsg).mono ?_
  rintro e w1 ⟨rfl, hx1⟩
  have hy1 : Ext w w1 := hyp.step hx1
  clear hx1 hyp
  go_wp2_with fail
  refine (divide_at w1 ha hb va.out vb.out hpb.out hq hr (HT.out.ext hy1)).mono ?_
  rintro e w2 ⟨rfl, hx2⟩
  have hy2 : Ext w w2 := hy1.step hx2
  clear hx2 hy1
  go_wp2_with fail
  refine (compare_zero w2 hxs lr.out vr.out).mono ?_
  rintro e w3 ⟨rfl, hx3⟩
  have hy3 : Ext w w3 := hy2.step hx3
  clear hx3 hy2
  go_wp2_with fail
  refine (compare_at w3 hys lr.out hb vr.out vb.out).mono ?_
  rintro e w4 ⟨rfl, hx4⟩
  have hy4 : Ext w w4 := hy3.step hx4
  clear hx4 hy3
  go_wp2_with fail
  refine (prod_at w4 qp hb lq.out (HT.out.ext hy4)).mono ?_
  rintro e w5 ⟨rfl, hx5⟩
  have hy5 : Ext w w5 := hy4.step hx5
  clear hx5 hy4
  go_wp2_with fail
  refine (sum_at w5 qs lp.out lr.out (HT.out.ext hy5)).mono ?_
  rintro e w6 ⟨rfl, hx6⟩
  have hy6 : Ext w w6 := hy5.step hx6
  clear hx6 hy5
  go_wp2_with fail
  refine (alike_at w6 hal.out).mono ?_
  rintro e wz ⟨rfl, rfl⟩
  go_wp2_with fail
  refine (awake_any w6 (HT.out.ext hy6)).mono ?_
  rintro e w7 ⟨rfl, hx7⟩
  have hy7 : Ext w w7 := hy6.step hx7
  clear hx7 hy6
  go_wp2
  go_ret
  exact ⟨rfl, hy7⟩
set_option maxRecDepth 100000 in
set_option maxHeartbeats 3200000 in
theorem ok1L_NumQuotients (a b q r p s : List UInt8) (w : World) (ha : a.length ≤ 140737488351232) (hb : b.length ≤ 140737488351232) (ht : Tab w) (va : Hid (K.validL a = true)) (vb : Hid (K.validL b = true)) (hpb : Hid (0 < K.numL b)) (hsg : Hid (sgn0 (K.numL b) = 1)) (hq : Hid (K.txt (K.numL a / K.numL b) = q)) (hr : Hid (K.txt (K.numL a % K.numL b) = r)) (lr : Hid (r.length ≤ 140737488351232)) (lq : Hid (q.length ≤ 140737488351232)) (vr : Hid (K.validL r = true))
    (hxs : Hid (sgnI (K.numL r) 0 = 1)) (hys : Hid (sgnI (K.numL r) (K.numL b) = -1)) (qp : Hid (mL b q = p)) (lp : Hid (p.length ≤ 140737488351232)) (qs : Hid (sL p r = s)) (hal : Hid (Alike s a)) (hbl : ¬ b.length ≤ 9) :
    Calls Tryd.prog 7 #[.string (Str a), .string (Str b)] w (TruePost w) := by
  have HT := hid ht
  have hSb := Str_size b
  go_enter Tryd.func7, Tryd.ntmps7
  go_wp2_with fail
  refine (rvalid_at a w va ha).mono ?_
  rintro e wz ⟨rfl, rfl⟩
  go_wp2_with fail
  refine (rvalid_at b w vb hb).mono ?_
  rintro e wz ⟨rfl, rfl⟩
  go_wp2_with fail
  refine (parse_any b w vb.out).mono ?_
  rintro e wp ⟨v, rfl, hv, hxp⟩
  have hyp : Ext w wp := hxp
  clear hxp
  have HV := hid hv
  obtain ⟨A, k, cc, xs, bb, rfl, -⟩ := hv
  go_wp2_with fail
  refine (rsign_at wp HV.out hsg).mono ?_
  rintro e w1 ⟨rfl, hx1⟩
  have hy1 : Ext w w1 := hyp.step hx1
  clear hx1 hyp
  go_wp2_with fail
  refine (divide_at w1 ha hb va.out vb.out hpb.out hq hr (HT.out.ext hy1)).mono ?_
  rintro e w2 ⟨rfl, hx2⟩
  have hy2 : Ext w w2 := hy1.step hx2
  clear hx2 hy1
  go_wp2_with fail
  refine (compare_zero w2 hxs lr.out vr.out).mono ?_
  rintro e w3 ⟨rfl, hx3⟩
  have hy3 : Ext w w3 := hy2.step hx3
  clear hx3 hy2
  go_wp2_with fail
  refine (compare_at w3 hys lr.out hb vr.out vb.out).mono ?_
  rintro e w4 ⟨rfl, hx4⟩
  have hy4 : Ext w w4 := hy3.step hx4
  clear hx4 hy3
  go_wp2_with fail
  refine (prod_at w4 qp hb lq.out (HT.out.ext hy4)).mono ?_
  rintro e w5 ⟨rfl, hx5⟩
  have hy5 : Ext w w5 := hy4.step hx5
  clear hx5 hy4
  go_wp2_with fail
  refine (sum_at w5 qs lp.out lr.out (HT.out.ext hy5)).mono ?_
  rintro e w6 ⟨rfl, hx6⟩
  have hy6 : Ext w w6 := hy5.step hx6
  clear hx6 hy5
  go_wp2_with fail
  refine (alike_at w6 hal.out).mono ?_
  rintro e wz ⟨rfl, rfl⟩
  go_wp2_with fail
  refine (awake_any w6 (HT.out.ext hy6)).mono ?_
  rintro e w7 ⟨rfl, hx7⟩
  have hy7 : Ext w w7 := hy6.step hx7
  clear hx7 hy6
  go_wp2
  go_ret
  exact ⟨rfl, hy7⟩
set_option maxRecDepth 100000 in
set_option maxHeartbeats 3200000 in
theorem ok0S_NumQuotients (a b q r p s : List UInt8) (nn : Nat) (w : World) (ha : a.length ≤ 140737488351232) (hb : b.length ≤ 140737488351232) (ht : Tab w) (va : Hid (K.validL a = true)) (vb : Hid (K.validL b = true)) (hpb : Hid (0 < K.numL b)) (hsg : Hid (sgn0 (K.numL b) = 1)) (hq : Hid (K.txt (K.numL a / K.numL b) = q)) (hr : Hid (K.txt (K.numL a % K.numL b) = r)) (lr : Hid (r.length ≤ 140737488351232)) (lq : Hid (q.length ≤ 140737488351232)) (vr : Hid (K.validL r = true))
    (hxs : Hid (sgnI (K.numL r) 0 = 0)) (hys : Hid (sgnI (K.numL r) (K.numL b) = -1)) (qp : Hid (mL b q = p)) (lp : Hid (p.length ≤ 140737488351232)) (qs : Hid (sL p r = s)) (hal : Hid (Alike s a)) (hbl : b.length ≤ 9) (hdig : Hid ((b.drop 0).all K.dig = true)) (hdv : Hid ((K.dv b : Int) = K.numL b)) (hdb : Hid (1 ≤ K.dv b ∧ K.dv b < 1000000000)) (hnn : Hid (K.numL a % K.numL b = (nn : Int) ∧ nn < 1000000000)) :
    Calls Tryd.prog 7 #[.string (Str a), .string (Str b)] w (TruePost w) := by
  have HT := hid ht
  have hSb := Str_size b
  go_enter Tryd.func7, Tryd.ntmps7
  go_wp2_with fail
  refine (rvalid_at a w va ha).mono ?_
  rintro e wz ⟨rfl, rfl⟩
  go_wp2_with fail
  refine (rvalid_at b w vb hb).mono ?_
  rintro e wz ⟨rfl, rfl⟩
  go_wp2_with fail
  refine (parse_any b w vb.out).mono ?_
  rintro e wp ⟨v, rfl, hv, hxp⟩
  have hyp : Ext w wp := hxp
  clear hxp
  have HV := hid hv
  obtain ⟨A, k, cc, xs, bb, rfl, -⟩ := hv
  go_wp2_with fail
  refine (rsign_at wp HV.out hsg).mono ?_
  rintro e w1 ⟨rfl, hx1⟩
  have hy1 : Ext w w1 := hyp.step hx1
  clear hx1 hyp
  go_wp2_with fail
  refine (divide_at w1 ha hb va.out vb.out hpb.out hq hr (HT.out.ext hy1)).mono ?_
  rintro e w2 ⟨rfl, hx2⟩
  have hy2 : Ext w w2 := hy1.step hx2
  clear hx2 hy1
  go_wp2_with fail
  refine (compare_zero w2 hxs lr.out vr.out).mono ?_
  rintro e w3 ⟨rfl, hx3⟩
  have hy3 : Ext w w3 := hy2.step hx3
  clear hx3 hy2
  go_wp2_with fail
  refine (compare_at w3 hys lr.out hb vr.out vb.out).mono ?_
  rintro e w4 ⟨rfl, hx4⟩
  have hy4 : Ext w w4 := hy3.step hx4
  clear hx4 hy3
  go_wp2_with fail
  refine (prod_at w4 qp hb lq.out (HT.out.ext hy4)).mono ?_
  rintro e w5 ⟨rfl, hx5⟩
  have hy5 : Ext w w5 := hy4.step hx5
  clear hx5 hy4
  go_wp2_with fail
  refine (sum_at w5 qs lp.out lr.out (HT.out.ext hy5)).mono ?_
  rintro e w6 ⟨rfl, hx6⟩
  have hy6 : Ext w w6 := hy5.step hx6
  clear hx6 hy5
  go_wp2_with fail
  refine (alike_at w6 hal.out).mono ?_
  rintro e wz ⟨rfl, rfl⟩
  go_wp2_with fail
  go_loop [12, 13] (fun part i => ∃ k p : Nat, k ≤ b.length ∧ i = .int .i64 (k : Int) ∧ part = .int .i64 (p : Int) ∧ Hid (p = K.dv ((b.take k).drop 0))) (fun _ i => b.length - (intOf i).toNat)
  case atStart => exact ⟨0, 0, by omega, rfl, rfl, hid rfl⟩
  case round =>
    obtain ⟨k, p, hk2, rfl, rfl, hp⟩ := hrel
    by_cases hk : k < b.length
    · obtain ⟨x, ex⟩ : ∃ x, b[k]? = some x := ⟨_, List.getElem?_eq_getElem (by omega)⟩
      obtain ⟨hh, e0⟩ := Str_at ex
      have hdx := dig_at hdig.out (by omega) ex
      have HP := hid (seg_digit b 0 k x (by omega) ex)
      have hpb : p < 100000000 := by
        rw [hp.out]
        exact seg_lt b 0 0 k 8 hdig.out (by omega) (by omega)
      have hx1 : 48 ≤ ((Str b)[k]'hh).toNat := by rw [e0]; exact hdx.1
      have hx2 : ((Str b)[k]'hh).toNat ≤ 57 := by rw [e0]; exact hdx.2
      have HE0 := hid e0
      clear ex hdx e0
      go_wp2
      go_round
      case rel =>
        refine ⟨k + 1, K.dv ((b.take (k + 1)).drop 0), by omega, by simp, ?_, hid rfl⟩
        rw [HP.out, ← hp.out, ← HE0.out]
        first | done | (congr 1; omega) | skip
      case measure => simp [intOf]; omega
    · obtain rfl : k = b.length := by omega
      have hpd : p = K.dv b := by rw [hp.out, List.take_of_length_le (Nat.le_refl _), List.drop_zero]
      have hdb2 := hdb.out
      rw [← hpd] at hdb2
      have hnum : K.numL a % (p : Int) = (nn : Int) := by rw [hpd, hdv.out]; exact hnn.out.1
      have hnb := hnn.out.2
      have HNUM := hid hnum
      have HDB := hid hdb2
      have HNB := hid hnb
      clear hp hpd hdb2 hnum hnb hk hk2
      go_wp2_with fail
      refine (rest_at w6 ha va.out HDB.out.1 (by have := HDB.out.2; omega) HNUM).mono ?_
      rintro e w7 ⟨rfl, hx7⟩
      have hy7 : Ext w w7 := hy6.step hx7
      clear hx7 hy6
      go_wp2_with fail
      refine (of_nat nn w7 (by have := HNB.out; omega)).mono ?_
      rintro e wo ⟨v2, rfl, hv2, hxo⟩
      have hyo : Ext w wo := hy7.step hxo
      clear hxo hy7
      have HV2 := hid hv2
      obtain ⟨A2, k2, cc2, xs2, bb2, rfl, -⟩ := hv2
      have HTX : Hid (K.txt (nn : Int) = r) := hid (by rw [← hnn.out.1]; exact hr.out)
      go_wp2_with fail
      refine (text_at wo HV2.out (by have := HNB.out; exact nn_big (by omega)) HTX).mono ?_
      rintro e w8 ⟨rfl, hx8⟩
      have hy8 : Ext w w8 := hyo.step hx8
      clear hx8 hyo
      go_wp2_with fail
      refine (sub_same w8 lr.out vr.out (HT.out.ext hy8)).mono ?_
      rintro e w9 ⟨rfl, hx9⟩
      have hy9 : Ext w w9 := hy8.step hx9
      clear hx9 hy8
      go_wp2_with fail
      refine (awake_any w9 (HT.out.ext hy9)).mono ?_
      rintro e w10 ⟨rfl, hx10⟩
      have hy10 : Ext w w10 := hy9.step hx10
      clear hx10 hy9
      go_wp2
      go_ret
      exact ⟨rfl, hy10⟩
set_option maxRecDepth 100000 in
set_option maxHeartbeats 3200000 in
theorem ok1S_NumQuotients (a b q r p s : List UInt8) (nn : Nat) (w : World) (ha : a.length ≤ 140737488351232) (hb : b.length ≤ 140737488351232) (ht : Tab w) (va : Hid (K.validL a = true)) (vb : Hid (K.validL b = true)) (hpb : Hid (0 < K.numL b)) (hsg : Hid (sgn0 (K.numL b) = 1)) (hq : Hid (K.txt (K.numL a / K.numL b) = q)) (hr : Hid (K.txt (K.numL a % K.numL b) = r)) (lr : Hid (r.length ≤ 140737488351232)) (lq : Hid (q.length ≤ 140737488351232)) (vr : Hid (K.validL r = true))
    (hxs : Hid (sgnI (K.numL r) 0 = 1)) (hys : Hid (sgnI (K.numL r) (K.numL b) = -1)) (qp : Hid (mL b q = p)) (lp : Hid (p.length ≤ 140737488351232)) (qs : Hid (sL p r = s)) (hal : Hid (Alike s a)) (hbl : b.length ≤ 9) (hdig : Hid ((b.drop 0).all K.dig = true)) (hdv : Hid ((K.dv b : Int) = K.numL b)) (hdb : Hid (1 ≤ K.dv b ∧ K.dv b < 1000000000)) (hnn : Hid (K.numL a % K.numL b = (nn : Int) ∧ nn < 1000000000)) :
    Calls Tryd.prog 7 #[.string (Str a), .string (Str b)] w (TruePost w) := by
  have HT := hid ht
  have hSb := Str_size b
  go_enter Tryd.func7, Tryd.ntmps7
  go_wp2_with fail
  refine (rvalid_at a w va ha).mono ?_
  rintro e wz ⟨rfl, rfl⟩
  go_wp2_with fail
  refine (rvalid_at b w vb hb).mono ?_
  rintro e wz ⟨rfl, rfl⟩
  go_wp2_with fail
  refine (parse_any b w vb.out).mono ?_
  rintro e wp ⟨v, rfl, hv, hxp⟩
  have hyp : Ext w wp := hxp
  clear hxp
  have HV := hid hv
  obtain ⟨A, k, cc, xs, bb, rfl, -⟩ := hv
  go_wp2_with fail
  refine (rsign_at wp HV.out hsg).mono ?_
  rintro e w1 ⟨rfl, hx1⟩
  have hy1 : Ext w w1 := hyp.step hx1
  clear hx1 hyp
  go_wp2_with fail
  refine (divide_at w1 ha hb va.out vb.out hpb.out hq hr (HT.out.ext hy1)).mono ?_
  rintro e w2 ⟨rfl, hx2⟩
  have hy2 : Ext w w2 := hy1.step hx2
  clear hx2 hy1
  go_wp2_with fail
  refine (compare_zero w2 hxs lr.out vr.out).mono ?_
  rintro e w3 ⟨rfl, hx3⟩
  have hy3 : Ext w w3 := hy2.step hx3
  clear hx3 hy2
  go_wp2_with fail
  refine (compare_at w3 hys lr.out hb vr.out vb.out).mono ?_
  rintro e w4 ⟨rfl, hx4⟩
  have hy4 : Ext w w4 := hy3.step hx4
  clear hx4 hy3
  go_wp2_with fail
  refine (prod_at w4 qp hb lq.out (HT.out.ext hy4)).mono ?_
  rintro e w5 ⟨rfl, hx5⟩
  have hy5 : Ext w w5 := hy4.step hx5
  clear hx5 hy4
  go_wp2_with fail
  refine (sum_at w5 qs lp.out lr.out (HT.out.ext hy5)).mono ?_
  rintro e w6 ⟨rfl, hx6⟩
  have hy6 : Ext w w6 := hy5.step hx6
  clear hx6 hy5
  go_wp2_with fail
  refine (alike_at w6 hal.out).mono ?_
  rintro e wz ⟨rfl, rfl⟩
  go_wp2_with fail
  go_loop [12, 13] (fun part i => ∃ k p : Nat, k ≤ b.length ∧ i = .int .i64 (k : Int) ∧ part = .int .i64 (p : Int) ∧ Hid (p = K.dv ((b.take k).drop 0))) (fun _ i => b.length - (intOf i).toNat)
  case atStart => exact ⟨0, 0, by omega, rfl, rfl, hid rfl⟩
  case round =>
    obtain ⟨k, p, hk2, rfl, rfl, hp⟩ := hrel
    by_cases hk : k < b.length
    · obtain ⟨x, ex⟩ : ∃ x, b[k]? = some x := ⟨_, List.getElem?_eq_getElem (by omega)⟩
      obtain ⟨hh, e0⟩ := Str_at ex
      have hdx := dig_at hdig.out (by omega) ex
      have HP := hid (seg_digit b 0 k x (by omega) ex)
      have hpb : p < 100000000 := by
        rw [hp.out]
        exact seg_lt b 0 0 k 8 hdig.out (by omega) (by omega)
      have hx1 : 48 ≤ ((Str b)[k]'hh).toNat := by rw [e0]; exact hdx.1
      have hx2 : ((Str b)[k]'hh).toNat ≤ 57 := by rw [e0]; exact hdx.2
      have HE0 := hid e0
      clear ex hdx e0
      go_wp2
      go_round
      case rel =>
        refine ⟨k + 1, K.dv ((b.take (k + 1)).drop 0), by omega, by simp, ?_, hid rfl⟩
        rw [HP.out, ← hp.out, ← HE0.out]
        first | done | (congr 1; omega) | skip
      case measure => simp [intOf]; omega
    · obtain rfl : k = b.length := by omega
      have hpd : p = K.dv b := by rw [hp.out, List.take_of_length_le (Nat.le_refl _), List.drop_zero]
      have hdb2 := hdb.out
      rw [← hpd] at hdb2
      have hnum : K.numL a % (p : Int) = (nn : Int) := by rw [hpd, hdv.out]; exact hnn.out.1
      have hnb := hnn.out.2
      have HNUM := hid hnum
      have HDB := hid hdb2
      have HNB := hid hnb
      clear hp hpd hdb2 hnum hnb hk hk2
      go_wp2_with fail
      refine (rest_at w6 ha va.out HDB.out.1 (by have := HDB.out.2; omega) HNUM).mono ?_
      rintro e w7 ⟨rfl, hx7⟩
      have hy7 : Ext w w7 := hy6.step hx7
      clear hx7 hy6
      go_wp2_with fail
      refine (of_nat nn w7 (by have := HNB.out; omega)).mono ?_
      rintro e wo ⟨v2, rfl, hv2, hxo⟩
      have hyo : Ext w wo := hy7.step hxo
      clear hxo hy7
      have HV2 := hid hv2
      obtain ⟨A2, k2, cc2, xs2, bb2, rfl, -⟩ := hv2
      have HTX : Hid (K.txt (nn : Int) = r) := hid (by rw [← hnn.out.1]; exact hr.out)
      go_wp2_with fail
      refine (text_at wo HV2.out (by have := HNB.out; exact nn_big (by omega)) HTX).mono ?_
      rintro e w8 ⟨rfl, hx8⟩
      have hy8 : Ext w w8 := hyo.step hx8
      clear hx8 hyo
      go_wp2_with fail
      refine (sub_same w8 lr.out vr.out (HT.out.ext hy8)).mono ?_
      rintro e w9 ⟨rfl, hx9⟩
      have hy9 : Ext w w9 := hy8.step hx9
      clear hx9 hy8
      go_wp2_with fail
      refine (awake_any w9 (HT.out.ext hy9)).mono ?_
      rintro e w10 ⟨rfl, hx10⟩
      have hy10 : Ext w w10 := hy9.step hx10
      clear hx10 hy9
      go_wp2
      go_ret
      exact ⟨rfl, hy10⟩
theorem law_NumQuotients (a b : List UInt8) (w : World) (ha : a.length ≤ 140737488351232) (hb : b.length ≤ 140737488351232) (ht : Tab w) :
    Calls Tryd.prog 7 #[.string (Str a), .string (Str b)] w (TruePost w) := by
  cases va : K.validL a with
  | false => exact bad0_NumQuotients a b w ha hb ht (hid va)
  | true => cases vb : K.validL b with
    | false => exact bad1_NumQuotients a b w ha hb ht (hid va) (hid vb)
    | true =>
      rcases Int.lt_trichotomy (K.numL b) 0 with hc0 | hc0 | hc0
      · exact low1_NumQuotients a b w ha hb ht (hid va) (hid vb) (hid (by unfold sgn0; rw [if_neg (by omega), if_pos hc0]))
      · exact low0_NumQuotients a b w ha hb ht (hid va) (hid vb) (hid (by unfold sgn0; rw [if_pos hc0]))
      · have hs : Hid (sgn0 (K.numL b) = 1) := hid (by unfold sgn0; rw [if_neg (by omega), if_neg (by omega)])
        have fa := (K.txt_numL a va).2
        have fb := (K.txt_numL b vb).2
        have hr0 := Int.emod_nonneg (K.numL a) (show K.numL b ≠ 0 by omega)
        have hr1 := Int.emod_lt_of_pos (K.numL a) hc0
        have fr : K.fits (K.numL a % K.numL b) := by unfold K.fits at *; omega
        have fq : K.fits (K.numL a / K.numL b) := by
          unfold K.fits at *
          have := Int.natAbs_ediv_le_natAbs (K.numL a) (K.numL b)
          omega
        have hrr := K.numL_txt (K.numL a % K.numL b)
        have hqq := K.numL_txt (K.numL a / K.numL b)
        have hlr := len_of (K.txt_len _ fr)
        have hlq := len_of (K.txt_len _ fq)
        have hvr := K.valid_txt _ fr
        have hvq := K.valid_txt _ fq
        have hed := Int.mul_ediv_add_emod (K.numL a) (K.numL b)
        have hal : Alike (sL (mL b (K.txt (K.numL a / K.numL b))) (K.txt (K.numL a % K.numL b))) a :=
          (((Val.of vb).prod (Val.of hvq)).sum (Val.of hvr)).alike' (Val.of va) (by rw [hrr, hqq]; exact hed)
        have hys : sgnI (K.numL (K.txt (K.numL a % K.numL b))) (K.numL b) = -1 := by rw [hrr]; unfold sgnI; rw [if_pos hr1]
        have hlp := len_of (mL_len b (K.txt (K.numL a / K.numL b)))
        have hx0 : K.numL a % K.numL b = 0 → sgnI (K.numL (K.txt (K.numL a % K.numL b))) 0 = 0 := fun e => by rw [hrr, e]; rfl
        have hx1 : ¬ K.numL a % K.numL b = 0 → sgnI (K.numL (K.txt (K.numL a % K.numL b))) 0 = 1 := fun e => by rw [hrr]; unfold sgnI; rw [if_neg (by omega), if_pos (by omega)]
        by_cases hbl : b.length ≤ 9
        · obtain ⟨hd, hlen, hpos⟩ := body_all vb
          obtain ⟨hval, hll⟩ := body_val vb
          have hbb : K.body b = b := by
            unfold K.body; rw [if_neg]
            intro e
            have := (K.head_txt (K.numL b)).1 (by rw [(K.txt_numL b vb).1]; exact e)
            omega
          rw [hbb] at hd hval
          have hdv : (K.dv b : Int) = K.numL b := by omega
          have hdlt := K.dv_lt b hd
          have hp9 : (10 : Nat) ^ b.length ≤ 10 ^ 9 := Nat.pow_le_pow_right (by omega) hbl
          have hdb : 1 ≤ K.dv b ∧ K.dv b < 1000000000 := ⟨by omega, by have : (10 : Nat) ^ 9 = 1000000000 := rfl; omega⟩
          obtain ⟨nn, hnn⟩ := Int.eq_ofNat_of_zero_le hr0
          have hnb : nn < 1000000000 := by omega
          by_cases h0 : K.numL a % K.numL b = 0
          · exact ok0S_NumQuotients a b _ _ _ _ nn w ha hb ht (hid va) (hid vb) (hid hc0) hs (hid rfl) (hid rfl) (hid hlr) (hid hlq) (hid hvr) (hid (hx0 h0)) (hid hys) (hid rfl) (hid hlp) (hid rfl) (hid hal) hbl (hid hd) (hid hdv) (hid hdb) (hid ⟨hnn, hnb⟩)
          · exact ok1S_NumQuotients a b _ _ _ _ nn w ha hb ht (hid va) (hid vb) (hid hc0) hs (hid rfl) (hid rfl) (hid hlr) (hid hlq) (hid hvr) (hid (hx1 h0)) (hid hys) (hid rfl) (hid hlp) (hid rfl) (hid hal) hbl (hid hd) (hid hdv) (hid hdb) (hid ⟨hnn, hnb⟩)
        · by_cases h0 : K.numL a % K.numL b = 0
          · exact ok0L_NumQuotients a b _ _ _ _ w ha hb ht (hid va) (hid vb) (hid hc0) hs (hid rfl) (hid rfl) (hid hlr) (hid hlq) (hid hvr) (hid (hx0 h0)) (hid hys) (hid rfl) (hid hlp) (hid rfl) (hid hal) hbl
          · exact ok1L_NumQuotients a b _ _ _ _ w ha hb ht (hid va) (hid vb) (hid hc0) hs (hid rfl) (hid rfl) (hid hlr) (hid hlq) (hid hvr) (hid (hx1 h0)) (hid hys) (hid rfl) (hid hlp) (hid rfl) (hid hal) hbl
end Go.Proofs.YtdbaemadphhhcaaDoor
