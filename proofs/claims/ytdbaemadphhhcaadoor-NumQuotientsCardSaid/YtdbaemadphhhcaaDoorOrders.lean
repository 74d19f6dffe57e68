/- the law NumOrders -/
import Derived.Test.YtdbaemadphhhcaaDoorVal
namespace Go.Proofs.YtdbaemadphhhcaaDoor
open Go.RowKit
theorem compare_at {x y : List UInt8} {s : Int} (w : World) (hs : Hid (sgnI (K.numL x) (K.numL y) = s)) (h1 : x.length ≤ 140737488351232) (h2 : y.length ≤ 140737488351232) (v1 : K.validL x = true) (v2 : K.validL y = true) :
    Calls Tryd.prog 14 #[.string (Str x), .string (Str y)] w (fun e w' => e = .returned (.tuple #[.int .i64 s, .int .i64 0]) ∧ Ext w w') := by
  rw [← hs.out]; exact compare_ok x y w h1 h2 v1 v2
theorem compare_zero {x : List UInt8} {s : Int} (w : World) (hs : Hid (sgnI (K.numL x) 0 = s)) (h1 : x.length ≤ 140737488351232) (v1 : K.validL x = true) :
    Calls Tryd.prog 14 #[.string (Str x), .string ⟨#[48]⟩] w (fun e w' => e = .returned (.tuple #[.int .i64 s, .int .i64 0]) ∧ Ext w w') :=
  compare_at (y := [48]) w hs h1 (by simp) v1 (by decide +kernel)
theorem sgn_sub (a b : Int) : sgnI (a - b) 0 = sgnI a b := by unfold sgnI; repeat' split <;> omega
theorem sgn_add (a b c : Int) : sgnI (a + c) (b + c) = sgnI a b := by unfold sgnI; repeat' split <;> omega
theorem sgn_neg (a b : Int) : sgnI b a = - sgnI a b := by unfold sgnI; repeat' split <;> omega
theorem sgn_eq (a b : Int) : sgnI a b = 0 ↔ a = b := by unfold sgnI; repeat' split <;> omega
theorem Val.nz {x : List UInt8} {m : Int} (h : Val x m) (hx : ¬ x = []) : K.validL x = true ∧ K.numL x = m := h.resolve_left hx
theorem not_nil {x : List UInt8} (h : ¬ x = []) : (Str x).toList.isEmpty = false := by rw [Str_toList]; simpa using h
set_option maxRecDepth 100000 in
theorem bad0_NumOrders (a b c : List UInt8) (w : World) (ha : a.length ≤ 140737488351232) (hb : b.length ≤ 140737488351232) (hc : c.length ≤ 140737488351232) (ht : Tab w) (va : Hid (K.validL a = false)) :
    Calls Tryd.prog 8 #[.string (Str a), .string (Str b), .string (Str c)] w (TruePost w) := by
  have HT := hid ht
  go_enter Tryd.func8, Tryd.ntmps8
  go_wp2_with fail
  refine (rvalid_at a w va ha).mono ?_
  rintro e wz ⟨rfl, rfl⟩
  go_wp2_with fail
  refine (awake_any w HT.out).mono ?_
  rintro e w1 ⟨rfl, hx1⟩
  have hy1 : Ext w w1 := hx1
  clear hx1
  go_wp2
  go_ret
  exact ⟨rfl, hy1⟩
set_option maxRecDepth 100000 in
theorem bad1_NumOrders (a b c : List UInt8) (w : World) (ha : a.length ≤ 140737488351232) (hb : b.length ≤ 140737488351232) (hc : c.length ≤ 140737488351232) (ht : Tab w) (va : Hid (K.validL a = true)) (vb : Hid (K.validL b = false)) :
    Calls Tryd.prog 8 #[.string (Str a), .string (Str b), .string (Str c)] w (TruePost w) := by
  have HT := hid ht
  go_enter Tryd.func8, Tryd.ntmps8
  go_wp2_with fail
  refine (rvalid_at a w va ha).mono ?_
  rintro e wz ⟨rfl, rfl⟩
  go_wp2_with fail
  refine (rvalid_at b w vb hb).mono ?_
  rintro e wz ⟨rfl, rfl⟩
  go_wp2_with fail
  refine (awake_any w HT.out).mono ?_
  rintro e w1 ⟨rfl, hx1⟩
  have hy1 : Ext w w1 := hx1
  clear hx1
  go_wp2
  go_ret
  exact ⟨rfl, hy1⟩
set_option maxRecDepth 100000 in
theorem bad2_NumOrders (a b c : List UInt8) (w : World) (ha : a.length ≤ 140737488351232) (hb : b.length ≤ 140737488351232) (hc : c.length ≤ 140737488351232) (ht : Tab w) (va : Hid (K.validL a = true)) (vb : Hid (K.validL b = true)) (vc : Hid (K.validL c = false)) :
    Calls Tryd.prog 8 #[.string (Str a), .string (Str b), .string (Str c)] w (TruePost w) := by
  have HT := hid ht
  go_enter Tryd.func8, Tryd.ntmps8
  go_wp2_with fail
  refine (rvalid_at a w va ha).mono ?_
  rintro e wz ⟨rfl, rfl⟩
  go_wp2_with fail
  refine (rvalid_at b w vb hb).mono ?_
  rintro e wz ⟨rfl, rfl⟩
  go_wp2_with fail
  refine (rvalid_at c w vc hc).mono ?_
  rintro e wz ⟨rfl, rfl⟩
  go_wp2_with fail
  refine (awake_any w HT.out).mono ?_
  rintro e w1 ⟨rfl, hx1⟩
  have hy1 : Ext w w1 := hx1
  clear hx1
  go_wp2
  go_ret
  exact ⟨rfl, hy1⟩
set_option maxRecDepth 100000 in
set_option maxHeartbeats 4000000 in
theorem okL_NumOrders (a b c : List UInt8) (w : World) (ha : a.length ≤ 140737488351232) (hc : c.length ≤ 140737488351232) (ht : Tab w) (va : Hid (K.validL a = true)) (vc : Hid (K.validL c = true)) (hb : b.length ≤ 140737488351232) (vb : Hid (K.validL b = true)) (hne : ((Str a).toList == (Str b).toList) = false)
    (hs : Hid (sgnI (K.numL a) (K.numL b) = -1)) (hs2 : Hid (sgnI (K.numL b) (K.numL a) = 1)) :
    Calls Tryd.prog 8 #[.string (Str a), .string (Str b), .string (Str c)] w (TruePost w) := by
  have hne2 : (Str a).toList ≠ (Str b).toList := by simpa using hne
  have hne3 : ¬ Str a = Str b := fun e => hne2 (congrArg ByteArray.toList e)
  clear hne2
  have HT := hid ht
  obtain ⟨ac, eac⟩ : ∃ z, sL a c = z := ⟨_, rfl⟩
  have Vac := (Val.of va.out).sum (Val.of vc.out)
  have lac := sL_len a c
  rw [eac] at Vac lac
  have qac := hid eac
  have lac := hid (len_of lac)
  have Vac := hid Vac
  clear eac
  obtain ⟨bc, ebc⟩ : ∃ z, sL b c = z := ⟨_, rfl⟩
  have Vbc := (Val.of vb.out).sum (Val.of vc.out)
  have lbc := sL_len b c
  rw [ebc] at Vbc lbc
  have qbc := hid ebc
  have lbc := hid (len_of lbc)
  have Vbc := hid Vbc
  clear ebc
  go_enter Tryd.func8, Tryd.ntmps8
  go_wp2_with fail
  refine (rvalid_at a w va ha).mono ?_
  rintro e wz ⟨rfl, rfl⟩
  go_wp2_with fail
  refine (rvalid_at b w vb hb).mono ?_
  rintro e wz ⟨rfl, rfl⟩
  go_wp2_with fail
  refine (rvalid_at c w vc hc).mono ?_
  rintro e wz ⟨rfl, rfl⟩
  go_wp2_with fail
  refine (compare_at w hs ha hb va.out vb.out).mono ?_
  rintro e w1 ⟨rfl, hx1⟩
  have hy1 : Ext w w1 := hx1
  clear hx1
  go_wp2_with fail
  refine (compare_at w1 hs2 hb ha vb.out va.out).mono ?_
  rintro e w2 ⟨rfl, hx2⟩
  have hy2 : Ext w w2 := hy1.step hx2
  clear hx2 hy1
  go_wp2_with fail
  refine (sub_ok a b w2 ha hb va.out vb.out (HT.out.ext hy2)).mono ?_
  rintro e wa hpa
  obtain ⟨d, hq, hxa⟩ := told_post hpa
  clear hpa
  have hya : Ext w wa := hy2.step hxa
  clear hxa hy2
  rcases hq with ⟨rfl, hd⟩ | ⟨rfl, hd⟩
  · obtain ⟨s1, s2, s3⟩ := hd.out
    have s1 := hid s1
    have s3 := hid (len_of s3)
    have s4 := hid ((congrArg (sgnI · 0) s2).trans ((sgn_sub _ _).trans hs.out))
    clear hd s2
    go_wp2_with fail
    refine (compare_zero wa s4 s3.out s1.out).mono ?_
    rintro e w3 ⟨rfl, hx3⟩
    have hy3 : Ext w w3 := hya.step hx3
    clear hx3 hya
    go_wp2_with fail
    refine (sum_at w3 qac ha hc (HT.out.ext hy3)).mono ?_
    rintro e w4 ⟨rfl, hx4⟩
    have hy4 : Ext w w4 := hy3.step hx4
    clear hx4 hy3
    go_wp2_with fail
    refine (sum_at w4 qbc hb hc (HT.out.ext hy4)).mono ?_
    rintro e w5 ⟨rfl, hx5⟩
    have hy5 : Ext w w5 := hy4.step hx5
    clear hx5 hy4
    by_cases na : ac = []
    · subst na
      have e0 : Str [] = ⟨#[]⟩ := rfl
      go_wp2_with fail
      refine (awake_any w5 (HT.out.ext hy5)).mono ?_
      rintro e w6 ⟨rfl, hx6⟩
      have hy6 : Ext w w6 := hy5.step hx6
      clear hx6 hy5
      go_wp2
      go_ret
      exact ⟨rfl, hy6⟩
    · by_cases nb : bc = []
      · subst nb
        have e0 : Str [] = ⟨#[]⟩ := rfl
        have na' := not_nil na
        clear na
        go_wp2_with fail
        refine (awake_any w5 (HT.out.ext hy5)).mono ?_
        rintro e w7 ⟨rfl, hx7⟩
        have hy7 : Ext w w7 := hy5.step hx7
        clear hx7 hy5
        go_wp2
        go_ret
        exact ⟨rfl, hy7⟩
      · have na' := not_nil na
        have nb' := not_nil nb
        have pa := hid (Vac.out.nz na)
        have pb := hid (Vbc.out.nz nb)
        have q := hid ((congr (congrArg sgnI pa.out.2) pb.out.2).trans ((sgn_add _ _ _).trans hs.out))
        clear na nb
        go_wp2_with fail
        refine (compare_at w5 q lac.out lbc.out pa.out.1 pb.out.1).mono ?_
        rintro e w8 ⟨rfl, hx8⟩
        have hy8 : Ext w w8 := hy5.step hx8
        clear hx8 hy5
        go_wp2_with fail
        refine (awake_any w8 (HT.out.ext hy8)).mono ?_
        rintro e w9 ⟨rfl, hx9⟩
        have hy9 : Ext w w9 := hy8.step hx9
        clear hx9 hy8
        go_wp2
        go_ret
        exact ⟨rfl, hy9⟩
  · clear hd
    go_wp2_with fail
    refine (sum_at wa qac ha hc (HT.out.ext hya)).mono ?_
    rintro e w10 ⟨rfl, hx10⟩
    have hy10 : Ext w w10 := hya.step hx10
    clear hx10 hya
    go_wp2_with fail
    refine (sum_at w10 qbc hb hc (HT.out.ext hy10)).mono ?_
    rintro e w11 ⟨rfl, hx11⟩
    have hy11 : Ext w w11 := hy10.step hx11
    clear hx11 hy10
    by_cases na : ac = []
    · subst na
      have e0 : Str [] = ⟨#[]⟩ := rfl
      go_wp2_with fail
      refine (awake_any w11 (HT.out.ext hy11)).mono ?_
      rintro e w12 ⟨rfl, hx12⟩
      have hy12 : Ext w w12 := hy11.step hx12
      clear hx12 hy11
      go_wp2
      go_ret
      exact ⟨rfl, hy12⟩
    · by_cases nb : bc = []
      · subst nb
        have e0 : Str [] = ⟨#[]⟩ := rfl
        have na' := not_nil na
        clear na
        go_wp2_with fail
        refine (awake_any w11 (HT.out.ext hy11)).mono ?_
        rintro e w13 ⟨rfl, hx13⟩
        have hy13 : Ext w w13 := hy11.step hx13
        clear hx13 hy11
        go_wp2
        go_ret
        exact ⟨rfl, hy13⟩
      · have na' := not_nil na
        have nb' := not_nil nb
        have pa := hid (Vac.out.nz na)
        have pb := hid (Vbc.out.nz nb)
        have q := hid ((congr (congrArg sgnI pa.out.2) pb.out.2).trans ((sgn_add _ _ _).trans hs.out))
        clear na nb
        go_wp2_with fail
        refine (compare_at w11 q lac.out lbc.out pa.out.1 pb.out.1).mono ?_
        rintro e w14 ⟨rfl, hx14⟩
        have hy14 : Ext w w14 := hy11.step hx14
        clear hx14 hy11
        go_wp2_with fail
        refine (awake_any w14 (HT.out.ext hy14)).mono ?_
        rintro e w15 ⟨rfl, hx15⟩
        have hy15 : Ext w w15 := hy14.step hx15
        clear hx15 hy14
        go_wp2
        go_ret
        exact ⟨rfl, hy15⟩
set_option maxRecDepth 100000 in
set_option maxHeartbeats 4000000 in
theorem okG_NumOrders (a b c : List UInt8) (w : World) (ha : a.length ≤ 140737488351232) (hc : c.length ≤ 140737488351232) (ht : Tab w) (va : Hid (K.validL a = true)) (vc : Hid (K.validL c = true)) (hb : b.length ≤ 140737488351232) (vb : Hid (K.validL b = true)) (hne : ((Str a).toList == (Str b).toList) = false)
    (hs : Hid (sgnI (K.numL a) (K.numL b) = 1)) (hs2 : Hid (sgnI (K.numL b) (K.numL a) = -1)) :
    Calls Tryd.prog 8 #[.string (Str a), .string (Str b), .string (Str c)] w (TruePost w) := by
  have hne2 : (Str a).toList ≠ (Str b).toList := by simpa using hne
  have hne3 : ¬ Str a = Str b := fun e => hne2 (congrArg ByteArray.toList e)
  clear hne2
  have HT := hid ht
  obtain ⟨ac, eac⟩ : ∃ z, sL a c = z := ⟨_, rfl⟩
  have Vac := (Val.of va.out).sum (Val.of vc.out)
  have lac := sL_len a c
  rw [eac] at Vac lac
  have qac := hid eac
  have lac := hid (len_of lac)
  have Vac := hid Vac
  clear eac
  obtain ⟨bc, ebc⟩ : ∃ z, sL b c = z := ⟨_, rfl⟩
  have Vbc := (Val.of vb.out).sum (Val.of vc.out)
  have lbc := sL_len b c
  rw [ebc] at Vbc lbc
  have qbc := hid ebc
  have lbc := hid (len_of lbc)
  have Vbc := hid Vbc
  clear ebc
  go_enter Tryd.func8, Tryd.ntmps8
  go_wp2_with fail
  refine (rvalid_at a w va ha).mono ?_
  rintro e wz ⟨rfl, rfl⟩
  go_wp2_with fail
  refine (rvalid_at b w vb hb).mono ?_
  rintro e wz ⟨rfl, rfl⟩
  go_wp2_with fail
  refine (rvalid_at c w vc hc).mono ?_
  rintro e wz ⟨rfl, rfl⟩
  go_wp2_with fail
  refine (compare_at w hs ha hb va.out vb.out).mono ?_
  rintro e w1 ⟨rfl, hx1⟩
  have hy1 : Ext w w1 := hx1
  clear hx1
  go_wp2_with fail
  refine (compare_at w1 hs2 hb ha vb.out va.out).mono ?_
  rintro e w2 ⟨rfl, hx2⟩
  have hy2 : Ext w w2 := hy1.step hx2
  clear hx2 hy1
  go_wp2_with fail
  refine (sub_ok a b w2 ha hb va.out vb.out (HT.out.ext hy2)).mono ?_
  rintro e wa hpa
  obtain ⟨d, hq, hxa⟩ := told_post hpa
  clear hpa
  have hya : Ext w wa := hy2.step hxa
  clear hxa hy2
  rcases hq with ⟨rfl, hd⟩ | ⟨rfl, hd⟩
  · obtain ⟨s1, s2, s3⟩ := hd.out
    have s1 := hid s1
    have s3 := hid (len_of s3)
    have s4 := hid ((congrArg (sgnI · 0) s2).trans ((sgn_sub _ _).trans hs.out))
    clear hd s2
    go_wp2_with fail
    refine (compare_zero wa s4 s3.out s1.out).mono ?_
    rintro e w3 ⟨rfl, hx3⟩
    have hy3 : Ext w w3 := hya.step hx3
    clear hx3 hya
    go_wp2_with fail
    refine (sum_at w3 qac ha hc (HT.out.ext hy3)).mono ?_
    rintro e w4 ⟨rfl, hx4⟩
    have hy4 : Ext w w4 := hy3.step hx4
    clear hx4 hy3
    go_wp2_with fail
    refine (sum_at w4 qbc hb hc (HT.out.ext hy4)).mono ?_
    rintro e w5 ⟨rfl, hx5⟩
    have hy5 : Ext w w5 := hy4.step hx5
    clear hx5 hy4
    by_cases na : ac = []
    · subst na
      have e0 : Str [] = ⟨#[]⟩ := rfl
      go_wp2_with fail
      refine (awake_any w5 (HT.out.ext hy5)).mono ?_
      rintro e w6 ⟨rfl, hx6⟩
      have hy6 : Ext w w6 := hy5.step hx6
      clear hx6 hy5
      go_wp2
      go_ret
      exact ⟨rfl, hy6⟩
    · by_cases nb : bc = []
      · subst nb
        have e0 : Str [] = ⟨#[]⟩ := rfl
        have na' := not_nil na
        clear na
        go_wp2_with fail
        refine (awake_any w5 (HT.out.ext hy5)).mono ?_
        rintro e w7 ⟨rfl, hx7⟩
        have hy7 : Ext w w7 := hy5.step hx7
        clear hx7 hy5
        go_wp2
        go_ret
        exact ⟨rfl, hy7⟩
      · have na' := not_nil na
        have nb' := not_nil nb
        have pa := hid (Vac.out.nz na)
        have pb := hid (Vbc.out.nz nb)
        have q := hid ((congr (congrArg sgnI pa.out.2) pb.out.2).trans ((sgn_add _ _ _).trans hs.out))
        clear na nb
        go_wp2_with fail
        refine (compare_at w5 q lac.out lbc.out pa.out.1 pb.out.1).mono ?_
        rintro e w8 ⟨rfl, hx8⟩
        have hy8 : Ext w w8 := hy5.step hx8
        clear hx8 hy5
        go_wp2_with fail
        refine (awake_any w8 (HT.out.ext hy8)).mono ?_
        rintro e w9 ⟨rfl, hx9⟩
        have hy9 : Ext w w9 := hy8.step hx9
        clear hx9 hy8
        go_wp2
        go_ret
        exact ⟨rfl, hy9⟩
  · clear hd
    go_wp2_with fail
    refine (sum_at wa qac ha hc (HT.out.ext hya)).mono ?_
    rintro e w10 ⟨rfl, hx10⟩
    have hy10 : Ext w w10 := hya.step hx10
    clear hx10 hya
    go_wp2_with fail
    refine (sum_at w10 qbc hb hc (HT.out.ext hy10)).mono ?_
    rintro e w11 ⟨rfl, hx11⟩
    have hy11 : Ext w w11 := hy10.step hx11
    clear hx11 hy10
    by_cases na : ac = []
    · subst na
      have e0 : Str [] = ⟨#[]⟩ := rfl
      go_wp2_with fail
      refine (awake_any w11 (HT.out.ext hy11)).mono ?_
      rintro e w12 ⟨rfl, hx12⟩
      have hy12 : Ext w w12 := hy11.step hx12
      clear hx12 hy11
      go_wp2
      go_ret
      exact ⟨rfl, hy12⟩
    · by_cases nb : bc = []
      · subst nb
        have e0 : Str [] = ⟨#[]⟩ := rfl
        have na' := not_nil na
        clear na
        go_wp2_with fail
        refine (awake_any w11 (HT.out.ext hy11)).mono ?_
        rintro e w13 ⟨rfl, hx13⟩
        have hy13 : Ext w w13 := hy11.step hx13
        clear hx13 hy11
        go_wp2
        go_ret
        exact ⟨rfl, hy13⟩
      · have na' := not_nil na
        have nb' := not_nil nb
        have pa := hid (Vac.out.nz na)
        have pb := hid (Vbc.out.nz nb)
        have q := hid ((congr (congrArg sgnI pa.out.2) pb.out.2).trans ((sgn_add _ _ _).trans hs.out))
        clear na nb
        go_wp2_with fail
        refine (compare_at w11 q lac.out lbc.out pa.out.1 pb.out.1).mono ?_
        rintro e w14 ⟨rfl, hx14⟩
        have hy14 : Ext w w14 := hy11.step hx14
        clear hx14 hy11
        go_wp2_with fail
        refine (awake_any w14 (HT.out.ext hy14)).mono ?_
        rintro e w15 ⟨rfl, hx15⟩
        have hy15 : Ext w w15 := hy14.step hx15
        clear hx15 hy14
        go_wp2
        go_ret
        exact ⟨rfl, hy15⟩
set_option maxRecDepth 100000 in
set_option maxHeartbeats 4000000 in
theorem okE_NumOrders (a c : List UInt8) (w : World) (ha : a.length ≤ 140737488351232) (hc : c.length ≤ 140737488351232) (ht : Tab w) (va : Hid (K.validL a = true)) (vc : Hid (K.validL c = true)) 
    (hs : Hid (sgnI (K.numL a) (K.numL a) = 0)) (hs2 : Hid (sgnI (K.numL a) (K.numL a) = 0)) :
    Calls Tryd.prog 8 #[.string (Str a), .string (Str a), .string (Str c)] w (TruePost w) := by
  have HT := hid ht
  obtain ⟨ac, eac⟩ : ∃ z, sL a c = z := ⟨_, rfl⟩
  have Vac := (Val.of va.out).sum (Val.of vc.out)
  have lac := sL_len a c
  rw [eac] at Vac lac
  have qac := hid eac
  have lac := hid (len_of lac)
  have Vac := hid Vac
  clear eac
  obtain ⟨bc, ebc⟩ : ∃ z, sL a c = z := ⟨_, rfl⟩
  have Vbc := (Val.of va.out).sum (Val.of vc.out)
  have lbc := sL_len a c
  rw [ebc] at Vbc lbc
  have qbc := hid ebc
  have lbc := hid (len_of lbc)
  have Vbc := hid Vbc
  clear ebc
  go_enter Tryd.func8, Tryd.ntmps8
  go_wp2_with fail
  refine (rvalid_at a w va ha).mono ?_
  rintro e wz ⟨rfl, rfl⟩
  go_wp2_with fail
  refine (rvalid_at a w va ha).mono ?_
  rintro e wz ⟨rfl, rfl⟩
  go_wp2_with fail
  refine (rvalid_at c w vc hc).mono ?_
  rintro e wz ⟨rfl, rfl⟩
  go_wp2_with fail
  refine (compare_at w hs ha ha va.out va.out).mono ?_
  rintro e w1 ⟨rfl, hx1⟩
  have hy1 : Ext w w1 := hx1
  clear hx1
  go_wp2_with fail
  refine (compare_at w1 hs2 ha ha va.out va.out).mono ?_
  rintro e w2 ⟨rfl, hx2⟩
  have hy2 : Ext w w2 := hy1.step hx2
  clear hx2 hy1
  go_wp2_with fail
  refine (sub_ok a a w2 ha ha va.out va.out (HT.out.ext hy2)).mono ?_
  rintro e wa hpa
  obtain ⟨d, hq, hxa⟩ := told_post hpa
  clear hpa
  have hya : Ext w wa := hy2.step hxa
  clear hxa hy2
  rcases hq with ⟨rfl, hd⟩ | ⟨rfl, hd⟩
  · obtain ⟨s1, s2, s3⟩ := hd.out
    have s1 := hid s1
    have s3 := hid (len_of s3)
    have s4 := hid ((congrArg (sgnI · 0) s2).trans ((sgn_sub _ _).trans hs.out))
    clear hd s2
    go_wp2_with fail
    refine (compare_zero wa s4 s3.out s1.out).mono ?_
    rintro e w3 ⟨rfl, hx3⟩
    have hy3 : Ext w w3 := hya.step hx3
    clear hx3 hya
    go_wp2_with fail
    refine (sum_at w3 qac ha hc (HT.out.ext hy3)).mono ?_
    rintro e w4 ⟨rfl, hx4⟩
    have hy4 : Ext w w4 := hy3.step hx4
    clear hx4 hy3
    go_wp2_with fail
    refine (sum_at w4 qbc ha hc (HT.out.ext hy4)).mono ?_
    rintro e w5 ⟨rfl, hx5⟩
    have hy5 : Ext w w5 := hy4.step hx5
    clear hx5 hy4
    by_cases na : ac = []
    · subst na
      have e0 : Str [] = ⟨#[]⟩ := rfl
      go_wp2_with fail
      refine (awake_any w5 (HT.out.ext hy5)).mono ?_
      rintro e w6 ⟨rfl, hx6⟩
      have hy6 : Ext w w6 := hy5.step hx6
      clear hx6 hy5
      go_wp2
      go_ret
      exact ⟨rfl, hy6⟩
    · by_cases nb : bc = []
      · subst nb
        have e0 : Str [] = ⟨#[]⟩ := rfl
        have na' := not_nil na
        clear na
        go_wp2_with fail
        refine (awake_any w5 (HT.out.ext hy5)).mono ?_
        rintro e w7 ⟨rfl, hx7⟩
        have hy7 : Ext w w7 := hy5.step hx7
        clear hx7 hy5
        go_wp2
        go_ret
        exact ⟨rfl, hy7⟩
      · have na' := not_nil na
        have nb' := not_nil nb
        have pa := hid (Vac.out.nz na)
        have pb := hid (Vbc.out.nz nb)
        have q := hid ((congr (congrArg sgnI pa.out.2) pb.out.2).trans ((sgn_add _ _ _).trans hs.out))
        clear na nb
        go_wp2_with fail
        refine (compare_at w5 q lac.out lbc.out pa.out.1 pb.out.1).mono ?_
        rintro e w8 ⟨rfl, hx8⟩
        have hy8 : Ext w w8 := hy5.step hx8
        clear hx8 hy5
        go_wp2_with fail
        refine (awake_any w8 (HT.out.ext hy8)).mono ?_
        rintro e w9 ⟨rfl, hx9⟩
        have hy9 : Ext w w9 := hy8.step hx9
        clear hx9 hy8
        go_wp2
        go_ret
        exact ⟨rfl, hy9⟩
  · clear hd
    go_wp2_with fail
    refine (sum_at wa qac ha hc (HT.out.ext hya)).mono ?_
    rintro e w10 ⟨rfl, hx10⟩
    have hy10 : Ext w w10 := hya.step hx10
    clear hx10 hya
    go_wp2_with fail
    refine (sum_at w10 qbc ha hc (HT.out.ext hy10)).mono ?_
    rintro e w11 ⟨rfl, hx11⟩
    have hy11 : Ext w w11 := hy10.step hx11
    clear hx11 hy10
    by_cases na : ac = []
    · subst na
      have e0 : Str [] = ⟨#[]⟩ := rfl
      go_wp2_with fail
      refine (awake_any w11 (HT.out.ext hy11)).mono ?_
      rintro e w12 ⟨rfl, hx12⟩
      have hy12 : Ext w w12 := hy11.step hx12
      clear hx12 hy11
      go_wp2
      go_ret
      exact ⟨rfl, hy12⟩
    · by_cases nb : bc = []
      · subst nb
        have e0 : Str [] = ⟨#[]⟩ := rfl
        have na' := not_nil na
        clear na
        go_wp2_with fail
        refine (awake_any w11 (HT.out.ext hy11)).mono ?_
        rintro e w13 ⟨rfl, hx13⟩
        have hy13 : Ext w w13 := hy11.step hx13
        clear hx13 hy11
        go_wp2
        go_ret
        exact ⟨rfl, hy13⟩
      · have na' := not_nil na
        have nb' := not_nil nb
        have pa := hid (Vac.out.nz na)
        have pb := hid (Vbc.out.nz nb)
        have q := hid ((congr (congrArg sgnI pa.out.2) pb.out.2).trans ((sgn_add _ _ _).trans hs.out))
        clear na nb
        go_wp2_with fail
        refine (compare_at w11 q lac.out lbc.out pa.out.1 pb.out.1).mono ?_
        rintro e w14 ⟨rfl, hx14⟩
        have hy14 : Ext w w14 := hy11.step hx14
        clear hx14 hy11
        go_wp2_with fail
        refine (awake_any w14 (HT.out.ext hy14)).mono ?_
        rintro e w15 ⟨rfl, hx15⟩
        have hy15 : Ext w w15 := hy14.step hx15
        clear hx15 hy14
        go_wp2
        go_ret
        exact ⟨rfl, hy15⟩
theorem law_NumOrders (a b c : List UInt8) (w : World) (ha : a.length ≤ 140737488351232) (hb : b.length ≤ 140737488351232) (hc : c.length ≤ 140737488351232) (ht : Tab w) :
    Calls Tryd.prog 8 #[.string (Str a), .string (Str b), .string (Str c)] w (TruePost w) := by
  cases va : K.validL a with
  | false => exact bad0_NumOrders a b c w ha hb hc ht (hid va)
  | true => cases vb : K.validL b with
    | false => exact bad1_NumOrders a b c w ha hb hc ht (hid va) (hid vb)
    | true => cases vc : K.validL c with
      | false => exact bad2_NumOrders a b c w ha hb hc ht (hid va) (hid vb) (hid vc)
      | true =>
        have hne : K.numL a ≠ K.numL b → ((Str a).toList == (Str b).toList) = false := fun h => by
          rw [Str_toList, Str_toList]; simp; intro e; exact h (by rw [e])
        rcases Int.lt_trichotomy (K.numL a) (K.numL b) with h | h | h
        · exact okL_NumOrders a b c w ha hc ht (hid va) (hid vc) hb (hid vb) (hne (by omega)) (hid (by unfold sgnI; rw [if_pos h])) (hid (by unfold sgnI; rw [if_neg (by omega), if_pos h]))
        · obtain rfl := same_num va vb h
          exact okE_NumOrders a c w ha hc ht (hid va) (hid vc) (hid ((sgn_eq _ _).2 rfl)) (hid ((sgn_eq _ _).2 rfl))
        · exact okG_NumOrders a b c w ha hc ht (hid va) (hid vc) hb (hid vb) (hne (by omega)) (hid (by unfold sgnI; rw [if_neg (by omega), if_pos h])) (hid (by unfold sgnI; rw [if_pos h]))
end Go.Proofs.YtdbaemadphhhcaaDoor
