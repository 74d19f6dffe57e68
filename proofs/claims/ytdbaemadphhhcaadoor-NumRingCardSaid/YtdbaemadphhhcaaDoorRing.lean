/- the law NumRing -/
import Derived.Test.YtdbaemadphhhcaaDoorVal
namespace Go.Proofs.YtdbaemadphhhcaaDoor
open Go.RowKit
set_option maxRecDepth 100000 in
theorem bad0_NumRing (a b c : List UInt8) (w : World) (ha : a.length ≤ 140737488351232) (hb : b.length ≤ 140737488351232) (hc : c.length ≤ 140737488351232) (ht : Tab w) (va : Hid (K.validL a = false)) :
    Calls Tryd.prog 6 #[.string (Str a), .string (Str b), .string (Str c)] w (TruePost w) := by
  have HT := hid ht
  go_enter Tryd.func6, Tryd.ntmps6
  go_wp2_with fail
  refine (rvalid_at a w va ha).mono ?_
  rintro e wz ⟨rfl, rfl⟩
  go_wp2_with fail
  refine (awake_any w HT.out).mono ?_
  rintro e w1 ⟨rfl, hx1⟩
  have hy1 : Ext w w1 := hx1
  clear hx1
  go_wp2
  go_ret
  exact ⟨rfl, hy1⟩
set_option maxRecDepth 100000 in
theorem bad1_NumRing (a b c : List UInt8) (w : World) (ha : a.length ≤ 140737488351232) (hb : b.length ≤ 140737488351232) (hc : c.length ≤ 140737488351232) (ht : Tab w) (va : Hid (K.validL a = true)) (vb : Hid (K.validL b = false)) :
    Calls Tryd.prog 6 #[.string (Str a), .string (Str b), .string (Str c)] w (TruePost w) := by
  have HT := hid ht
  go_enter Tryd.func6, Tryd.ntmps6
  go_wp2_with fail
  refine (rvalid_at a w va ha).mono ?_
  rintro e wz ⟨rfl, rfl⟩
  go_wp2_with fail
  refine (rvalid_at b w vb hb).mono ?_
  rintro e wz ⟨rfl, rfl⟩
  go_wp2_with fail
  refine (awake_any w HT.out).mono ?_
  rintro e w1 ⟨rfl, hx1⟩
  have hy1 : Ext w w1 := hx1
  clear hx1
  go_wp2
  go_ret
  exact ⟨rfl, hy1⟩
set_option maxRecDepth 100000 in
theorem bad2_NumRing (a b c : List UInt8) (w : World) (ha : a.length ≤ 140737488351232) (hb : b.length ≤ 140737488351232) (hc : c.length ≤ 140737488351232) (ht : Tab w) (va : Hid (K.validL a = true)) (vb : Hid (K.validL b = true)) (vc : Hid (K.validL c = false)) :
    Calls Tryd.prog 6 #[.string (Str a), .string (Str b), .string (Str c)] w (TruePost w) := by
  have HT := hid ht
  go_enter Tryd.func6, Tryd.ntmps6
  go_wp2_with fail
  refine (rvalid_at a w va ha).mono ?_
  rintro e wz ⟨rfl, rfl⟩
  go_wp2_with fail
  refine (rvalid_at b w vb hb).mono ?_
  rintro e wz ⟨rfl, rfl⟩
  go_wp2_with fail
  refine (rvalid_at c w vc hc).mono ?_
  rintro e wz ⟨rfl, rfl⟩
  go_wp2_with fail
  refine (awake_any w HT.out).mono ?_
  rintro e w1 ⟨rfl, hx1⟩
  have hy1 : Ext w w1 := hx1
  clear hx1
  go_wp2
  go_ret
  exact ⟨rfl, hy1⟩
set_option maxRecDepth 100000 in
set_option maxHeartbeats 4000000 in
theorem ok_NumRing (a b c : List UInt8) (w : World) (ha : a.length ≤ 140737488351232) (hb : b.length ≤ 140737488351232) (hc : c.length ≤ 140737488351232) (ht : Tab w) (va : Hid (K.validL a = true)) (vb : Hid (K.validL b = true)) (vc : Hid (K.validL c = true)) :
    Calls Tryd.prog 6 #[.string (Str a), .string (Str b), .string (Str c)] w (TruePost w) := by
  have HT := hid ht
  have VA := Val.of va.out
  have VB := Val.of vb.out
  have VC := Val.of vc.out
  obtain ⟨ab, eab⟩ : ∃ z, sL a b = z := ⟨_, rfl⟩
  have Vab := VA.sum VB
  have lab := sL_len a b
  rw [eab] at Vab lab
  have qab := hid eab
  have lab := hid (len_of lab)
  clear eab
  have qba := hid ((sL_comm b a).trans qab.out)
  obtain ⟨pab, epab⟩ : ∃ z, mL a b = z := ⟨_, rfl⟩
  have Vpab := VA.prod VB
  have lpab := mL_len a b
  rw [epab] at Vpab lpab
  have qpab := hid epab
  have lpab := hid (len_of lpab)
  clear epab
  have qpba := hid ((mL_comm b a).trans qpab.out)
  obtain ⟨abc, eabc⟩ : ∃ z, sL ab c = z := ⟨_, rfl⟩
  have Vabc := Vab.sum VC
  have labc := sL_len ab c
  rw [eabc] at Vabc labc
  have qabc := hid eabc
  have labc := hid (len_of labc)
  clear eabc
  obtain ⟨bc, ebc⟩ : ∃ z, sL b c = z := ⟨_, rfl⟩
  have Vbc := VB.sum VC
  have lbc := sL_len b c
  rw [ebc] at Vbc lbc
  have qbc := hid ebc
  have lbc := hid (len_of lbc)
  clear ebc
  obtain ⟨a_bc, ea_bc⟩ : ∃ z, sL a bc = z := ⟨_, rfl⟩
  have Va_bc := VA.sum Vbc
  have la_bc := sL_len a bc
  rw [ea_bc] at Va_bc la_bc
  have qa_bc := hid ea_bc
  have la_bc := hid (len_of la_bc)
  clear ea_bc
  obtain ⟨pabc, epabc⟩ : ∃ z, mL pab c = z := ⟨_, rfl⟩
  have Vpabc := Vpab.prod VC
  have lpabc := mL_len pab c
  rw [epabc] at Vpabc lpabc
  have qpabc := hid epabc
  have lpabc := hid (len_of lpabc)
  clear epabc
  obtain ⟨pbc, epbc⟩ : ∃ z, mL b c = z := ⟨_, rfl⟩
  have Vpbc := VB.prod VC
  have lpbc := mL_len b c
  rw [epbc] at Vpbc lpbc
  have qpbc := hid epbc
  have lpbc := hid (len_of lpbc)
  clear epbc
  obtain ⟨pa_bc, epa_bc⟩ : ∃ z, mL a pbc = z := ⟨_, rfl⟩
  have Vpa_bc := VA.prod Vpbc
  have lpa_bc := mL_len a pbc
  rw [epa_bc] at Vpa_bc lpa_bc
  have qpa_bc := hid epa_bc
  have lpa_bc := hid (len_of lpa_bc)
  clear epa_bc
  obtain ⟨pas, epas⟩ : ∃ z, mL a bc = z := ⟨_, rfl⟩
  have Vpas := VA.prod Vbc
  have lpas := mL_len a bc
  rw [epas] at Vpas lpas
  have qpas := hid epas
  have lpas := hid (len_of lpas)
  clear epas
  obtain ⟨pac, epac⟩ : ∃ z, mL a c = z := ⟨_, rfl⟩
  have Vpac := VA.prod VC
  have lpac := mL_len a c
  rw [epac] at Vpac lpac
  have qpac := hid epac
  have lpac := hid (len_of lpac)
  clear epac
  obtain ⟨ss, ess⟩ : ∃ z, sL pab pac = z := ⟨_, rfl⟩
  have Vss := Vpab.sum Vpac
  have lss := sL_len pab pac
  rw [ess] at Vss lss
  have qss := hid ess
  have lss := hid (len_of lss)
  clear ess
  have k1 := hid (Vabc.alike' Va_bc (by rw [Int.add_assoc]))
  have k2 := hid (Vpabc.alike' Vpa_bc (by rw [Int.mul_assoc]))
  have k3 := hid (Vpas.alike' Vss (by rw [Int.mul_add]))
  clear VA VB VC Vab Vpab Vabc Vbc Va_bc Vpabc Vpbc Vpa_bc Vpas Vpac Vss
  go_enter Tryd.func6, Tryd.ntmps6
  go_wp2_with fail
  refine (rvalid_at a w va ha).mono ?_
  rintro e wz ⟨rfl, rfl⟩
  go_wp2_with fail
  refine (rvalid_at b w vb hb).mono ?_
  rintro e wz ⟨rfl, rfl⟩
  go_wp2_with fail
  refine (rvalid_at c w vc hc).mono ?_
  rintro e wz ⟨rfl, rfl⟩
  go_wp2_with fail
  refine (sum_at w qab ha hb HT.out).mono ?_
  rintro e w1 ⟨rfl, hx1⟩
  have hy1 : Ext w w1 := hx1
  clear hx1
  go_wp2_with fail
  refine (sum_at w1 qba hb ha (HT.out.ext hy1)).mono ?_
  rintro e w2 ⟨rfl, hx2⟩
  have hy2 : Ext w w2 := hy1.step hx2
  clear hx2 hy1
  go_wp2_with fail
  refine (prod_at w2 qpab ha hb (HT.out.ext hy2)).mono ?_
  rintro e w3 ⟨rfl, hx3⟩
  have hy3 : Ext w w3 := hy2.step hx3
  clear hx3 hy2
  go_wp2_with fail
  refine (prod_at w3 qpba hb ha (HT.out.ext hy3)).mono ?_
  rintro e w4 ⟨rfl, hx4⟩
  have hy4 : Ext w w4 := hy3.step hx4
  clear hx4 hy3
  go_wp2_with fail
  refine (sum_at w4 qab ha hb (HT.out.ext hy4)).mono ?_
  rintro e w5 ⟨rfl, hx5⟩
  have hy5 : Ext w w5 := hy4.step hx5
  clear hx5 hy4
  go_wp2_with fail
  refine (sum_at w5 qabc lab.out hc (HT.out.ext hy5)).mono ?_
  rintro e w6 ⟨rfl, hx6⟩
  have hy6 : Ext w w6 := hy5.step hx6
  clear hx6 hy5
  go_wp2_with fail
  refine (sum_at w6 qbc hb hc (HT.out.ext hy6)).mono ?_
  rintro e w7 ⟨rfl, hx7⟩
  have hy7 : Ext w w7 := hy6.step hx7
  clear hx7 hy6
  go_wp2_with fail
  refine (sum_at w7 qa_bc ha lbc.out (HT.out.ext hy7)).mono ?_
  rintro e w8 ⟨rfl, hx8⟩
  have hy8 : Ext w w8 := hy7.step hx8
  clear hx8 hy7
  go_wp2_with fail
  refine (alike_at w8 k1.out).mono ?_
  rintro e wz ⟨rfl, rfl⟩
  go_wp2_with fail
  refine (prod_at w8 qpab ha hb (HT.out.ext hy8)).mono ?_
  rintro e w9 ⟨rfl, hx9⟩
  have hy9 : Ext w w9 := hy8.step hx9
  clear hx9 hy8
  go_wp2_with fail
  refine (prod_at w9 qpabc lpab.out hc (HT.out.ext hy9)).mono ?_
  rintro e w10 ⟨rfl, hx10⟩
  have hy10 : Ext w w10 := hy9.step hx10
  clear hx10 hy9
  go_wp2_with fail
  refine (prod_at w10 qpbc hb hc (HT.out.ext hy10)).mono ?_
  rintro e w11 ⟨rfl, hx11⟩
  have hy11 : Ext w w11 := hy10.step hx11
  clear hx11 hy10
  go_wp2_with fail
  refine (prod_at w11 qpa_bc ha lpbc.out (HT.out.ext hy11)).mono ?_
  rintro e w12 ⟨rfl, hx12⟩
  have hy12 : Ext w w12 := hy11.step hx12
  clear hx12 hy11
  go_wp2_with fail
  refine (alike_at w12 k2.out).mono ?_
  rintro e wz ⟨rfl, rfl⟩
  go_wp2_with fail
  refine (sum_at w12 qbc hb hc (HT.out.ext hy12)).mono ?_
  rintro e w13 ⟨rfl, hx13⟩
  have hy13 : Ext w w13 := hy12.step hx13
  clear hx13 hy12
  go_wp2_with fail
  refine (prod_at w13 qpas ha lbc.out (HT.out.ext hy13)).mono ?_
  rintro e w14 ⟨rfl, hx14⟩
  have hy14 : Ext w w14 := hy13.step hx14
  clear hx14 hy13
  go_wp2_with fail
  refine (prod_at w14 qpab ha hb (HT.out.ext hy14)).mono ?_
  rintro e w15 ⟨rfl, hx15⟩
  have hy15 : Ext w w15 := hy14.step hx15
  clear hx15 hy14
  go_wp2_with fail
  refine (prod_at w15 qpac ha hc (HT.out.ext hy15)).mono ?_
  rintro e w16 ⟨rfl, hx16⟩
  have hy16 : Ext w w16 := hy15.step hx16
  clear hx16 hy15
  go_wp2_with fail
  refine (sum_at w16 qss lpab.out lpac.out (HT.out.ext hy16)).mono ?_
  rintro e w17 ⟨rfl, hx17⟩
  have hy17 : Ext w w17 := hy16.step hx17
  clear hx17 hy16
  go_wp2_with fail
  refine (alike_at w17 k3.out).mono ?_
  rintro e wz ⟨rfl, rfl⟩
  go_wp2_with fail
  refine (add_ok a b w17 ha hb va.out vb.out (HT.out.ext hy17)).mono ?_
  rintro e wa hpa
  obtain ⟨s, hq, hxa⟩ := told_post hpa
  clear hpa
  have hya : Ext w wa := hy17.step hxa
  clear hxa
  rcases hq with ⟨rfl, hs⟩ | ⟨rfl, hs⟩
  · obtain ⟨s1, s2, s3⟩ := hs.out
    have s1 := hid s1
    have s2 := hid s2
    have s3 := hid (len_of s3)
    clear hs
    go_wp2_with fail
    refine (sub_ok s b wa s3.out hb s1.out vb.out (HT.out.ext hya)).mono ?_
    rintro e wb hpb
    obtain ⟨rfl, hxb⟩ := told_eq (l := a) hpb va.out (by rw [s2.out]; omega)
    clear hpb
    have hyb : Ext w wb := hya.step hxb
    clear hxb hya
    go_wp2_with fail
    refine (awake_any wb (HT.out.ext hyb)).mono ?_
    rintro e w18 ⟨rfl, hx18⟩
    have hy18 : Ext w w18 := hyb.step hx18
    clear hx18 hyb
    go_wp2
    go_ret
    exact ⟨rfl, hy18⟩
  · clear hs
    go_wp2_with fail
    refine (awake_any wa (HT.out.ext hya)).mono ?_
    rintro e w19 ⟨rfl, hx19⟩
    have hy19 : Ext w w19 := hya.step hx19
    clear hx19 hya
    go_wp2
    go_ret
    exact ⟨rfl, hy19⟩
theorem law_NumRing (a b c : List UInt8) (w : World) (ha : a.length ≤ 140737488351232) (hb : b.length ≤ 140737488351232) (hc : c.length ≤ 140737488351232) (ht : Tab w) :
    Calls Tryd.prog 6 #[.string (Str a), .string (Str b), .string (Str c)] w (TruePost w) := by
  cases va : K.validL a with
  | false => exact bad0_NumRing a b c w ha hb hc ht (hid va)
  | true => cases vb : K.validL b with
    | false => exact bad1_NumRing a b c w ha hb hc ht (hid va) (hid vb)
    | true => cases vc : K.validL c with
      | false => exact bad2_NumRing a b c w ha hb hc ht (hid va) (hid vb) (hid vc)
      | true => exact ok_NumRing a b c w ha hb hc ht (hid va) (hid vb) (hid vc)
end Go.Proofs.YtdbaemadphhhcaaDoor
