/- Joined texts: the reference's Of at 1, and Part; the reference's guess. -/
import Derived.Test.YtoilkfohhhidpaaDoorJCNumDivides12
import Derived.Deep.Cut
/- the reference's Of at 1, and Part -/
namespace Go.Proofs.YtoilkfohhhidpaaDoor
open Go.RowKit
theorem rsign_at0 {v : Value} {n s : Int} (w : World) (h : RefV w v n) (hs : Hid (sgn0 n = s)) :
    Calls Tryd.prog 24 #[v] w (fun e w' => e = .returned (.int .i64 s) ∧ Ext w w') := by
  rw [← hs.out]; exact rsign_any v n w h
theorem of_one (w : World) : Calls Tryd.prog 63 #[.int .i64 1] w (RefPost 1 w) := of_nat 1 w (by omega)
theorem row_facts {w : World} {g : Nat} {t : TypeId} {a b : Value} (h : Row w g t [a, b]) : w.cell? ⟨g, 0, none⟩ = some a ∧ w.cell? ⟨g, 1, none⟩ = some b ∧ w.frozen? ⟨g, 0, none⟩ = false ∧ w.frozen? ⟨g, 1, none⟩ = false :=
  ⟨by rw [h.cell]; rfl, by rw [h.cell]; rfl, h.free 0, h.free 1⟩
/-- a number and a small one -/
def NumInt (q r : Int) (w : World) (e : Ending) (w' : World) : Prop := ∃ v, e = .returned (.tuple #[v, .int .i64 r]) ∧ RefV w' v q ∧ Ext w w'
theorem part_step {d x Q r X s : Nat} (h : d * Q + r = X) (hs : s = r * 1000000000 + x) : d * (s / d + 1000000000 * Q) + s % d = x + 1000000000 * X := by
  have h1 := Nat.div_add_mod s d
  rw [Nat.mul_add, ← h, Nat.mul_add, ← Nat.mul_assoc, Nat.mul_comm d 1000000000, Nat.mul_assoc]
  omega
theorem drop_set {l : List Nat} {j v : Nat} (h : j < l.length) : (l.set j v).drop j = v :: l.drop (j + 1) := by
  rw [List.drop_set, if_neg (Nat.lt_irrefl j), Nat.sub_self]
  rw [List.drop_eq_getElem_cons h]; rfl
theorem NumInt.stored {w w3 : World} {q r : Int} {b : Bool} {A : Option Addr} {k c H : Nat} {t : TypeId} (r1 : Row w3 H t [.bool false, .slice none 0 0]) (hw : Ext w w3) (hH : w.heap.size ≤ H) (hv : RefV w3 (.agg #[.bool b, .slice A k c]) q) :
    NumInt q r w (.returned (.tuple #[.agg #[.bool b, .slice A k c], .int .i64 r])) ((w3.setCell ⟨H, 0, none⟩ (.bool b)).setCell ⟨H, 1, none⟩ (.slice A k c)) := by
  obtain ⟨A', k', c', xs, b', e, h1, h2, h3, h4, h5, h6⟩ := hv
  cases e
  exact ⟨_, rfl, ⟨_, _, _, xs, _, rfl, h1, h2, h3, RefV.two h4 r1, h5, h6⟩, (hw.set' (by show _ ≤ H; omega) _).set' (by show _ ≤ H; omega) _⟩
set_option maxRecDepth 100000 in
set_option maxHeartbeats 3200000 in
theorem rpart_any (va : Value) (m : Int) (d : Nat) (w : World) (ha : RefV w va m) (la : m.natAbs ≤ BIG) (hd : 1 ≤ d) (hd2 : d ≤ 2147483647) :
    Calls Tryd.prog 28 #[va, .int .i64 (d : Int)] w (NumInt (m / d) (m % d) w) := by
  obtain ⟨A, n, ca, xs, na, rfl, HNA, hla, hca, hra, hLa, hva⟩ := ha
  have l1 := len_of_big hLa (by omega)
  have hn : n ≤ 1000 := by omega
  have HA := hid hra
  have LA := hid hla
  have HX := hid hLa
  have VA := hid hva
  have hmk := fun w => mkInts n (n : Int) rfl (by omega) w
  have hW2 : Ext w ((w.alloc (.cells #[.bool na, .slice A n ca] 31)).alloc (.cells #[.bool false, .slice none 0 0] 31)) := ((Ext.rfl' w).alloc' _).alloc' _
  have hk : ∀ w', Ext ((w.alloc (.cells #[.bool na, .slice A n ca] 31)).alloc (.cells #[.bool false, .slice none 0 0] 31)) w' →
      (w'.cell? ⟨w.heap.size, 0, none⟩ = some (.bool na) ∧ w'.cell? ⟨w.heap.size, 1, none⟩ = some (.slice A n ca)) ∧ Row w' (w.heap.size + 1) 31 [.bool false, .slice none 0 0] := by
    intro w' e
    have h1 := two_facts (W := w) (H := w.heap.size) (t := 31) (a := .bool na) (b := .slice A n ca) (Ext.step ((Ext.rfl' _).alloc' _) e) rfl
    have h2 := two_facts (W := (w.alloc (.cells #[.bool na, .slice A n ca] 31))) (H := w.heap.size + 1) (t := 31) (a := .bool false) (b := .slice none 0 0) e (by simp)
    exact ⟨⟨h1.1, h1.2.1⟩, h2.2.2.2.2.2⟩
  have hmade := Row.made ((w.alloc (.cells #[.bool na, .slice A n ca] 31)).alloc (.cells #[.bool false, .slice none 0 0] 31)) 3 (.int .i64 0) n
  obtain ⟨W2, hW2e⟩ : ∃ W2, ((w.alloc (.cells #[.bool na, .slice A n ca] 31)).alloc (.cells #[.bool false, .slice none 0 0] 31)) = W2 := ⟨_, rfl⟩
  have hsz : W2.heap.size = w.heap.size + 1 + 1 := by rw [← hW2e]; simp
  rw [hW2e] at hW2 hmade
  rw [hW2e] at hk
  rw [hsz, I64s_zeros] at hmade
  have HK := hid hk
  have HM := hid hmade
  have HSZ := hid hsz
  have HW2 := hid hW2
  have HE := hid hW2e
  clear hra hla hLa hva hW2 hk hmade hsz hW2e
  go_enter Tryd.func28, Tryd.ntmps28
  go_wp2
  rw [HE.out]
  go_loopw [7, 8, 9] (fun rz iz _ wr => ∃ (k r : Nat) (q : Int) (Os : List Nat), k ≤ n ∧ r < d ∧ rz = .int .i64 (r : Int) ∧ iz = .int .i64 q ∧ Hid (q = (k : Int) - 1) ∧ Row wr (w.heap.size + 1 + 1) 3 (I64s Os) ∧ Hid (Os.length = n) ∧ Hid (∀ x ∈ Os, x < 1000000000) ∧
      Hid (d * K.lv (Os.drop k) + r = K.lv (xs.drop k)) ∧ Ext W2 wr) (fun _ iz _ _ => (intOf iz + 1).toNat)
  case atStart => exact ⟨n, 0, (n : Int) - 1, List.replicate n 0, by omega, by omega, rfl, rfl, hid rfl, HM.out, hid (by simp), hid (by simp), hid (by rw [List.drop_of_length_le (by simp), List.drop_of_length_le (by rw [LA.out]; omega)]; simp [K.lv]), (Ext.rfl' _).alloc' _⟩
  case round =>
    obtain ⟨k, r, q, Os, hkn, hr, rfl, rfl, HQ, hrow, HL, HB9, HV, hex⟩ := hrel
    rcases Nat.eq_zero_or_pos k with h0 | h0
    · subst h0
      obtain rfl : q = -1 := by have := HQ.out; omega
      obtain ⟨⟨k0, k1⟩, -⟩ := HK.out _ hex
      have HRD := hid hrow.rd0
      have HVV : Hid (d * K.lv Os + r = m.natAbs) := hid (by have e := HV.out; rwa [List.drop_zero, List.drop_zero, VA.out] at e)
      clear hrow HV HQ
      go_wp2_with fail
      refine (rtrim_any false _ n n Os _ HRD.out HL.out (by omega) (by omega)).mono ?_
      rintro e w4 ⟨k4, b4, hk4, rfl, hb4, hcut, hx4⟩
      obtain rfl : b4 = false := by rw [hb4.out]; rfl
      have hx4' := hex.step hx4
      have hqv : K.lv Os = m.natAbs / d ∧ r = m.natAbs % d := by
        have e := HVV.out
        have h1 : m.natAbs / d = K.lv Os := by
          rw [← e, Nat.mul_add_div (by omega), Nat.div_eq_of_lt hr]; rfl
        have h2 : m.natAbs % d = r := by rw [← e, Nat.mul_add_mod, Nat.mod_eq_of_lt hr]
        exact ⟨h1.symm, h2.symm⟩
      have hQ : RefV w4 (.agg #[.bool false, .slice (some ⟨w.heap.size + 1 + 1, 0, none⟩) k4 n]) ((m.natAbs / d : Nat) : Int) := by
        refine ⟨_, k4, n, Os.take k4, false, rfl, hid ?_, by rw [List.length_take]; omega, by rw [HL.out] at hk4; omega, ?_, hcut.lim HB9.out, by rw [hcut.lv, hqv.1]; rfl⟩
        · symm; exact decide_eq_false (by omega)
        · rw [show I64s (Os.take k4) = (I64s Os).take k4 from List.map_take ..]
          exact (HRD.out.ext hx4).take k4
      have hQ2 := hQ.ext ((Ext.rfl' w4).alloc' (.cells #[.bool false, .slice (some ⟨w.heap.size + 1 + 1, 0, none⟩) k4 n] 31))
      have hx5 : Ext W2 (w4.alloc (.cells #[.bool false, .slice (some ⟨w.heap.size + 1 + 1, 0, none⟩) k4 n] 31)) := hx4'.alloc' _
      have hbox : ∀ w', Ext (w4.alloc (.cells #[.bool false, .slice (some ⟨w.heap.size + 1 + 1, 0, none⟩) k4 n] 31)) w' → w'.cell? ⟨w4.heap.size, 0, none⟩ = some (.bool false) ∧ w'.cell? ⟨w4.heap.size, 1, none⟩ = some (.slice (some ⟨w.heap.size + 1 + 1, 0, none⟩) k4 n) := fun w' e => by
        have := two_facts e rfl
        exact ⟨this.1, this.2.1⟩
      have hlt : w.heap.size + 1 < w4.heap.size := ((HK.out _ hx4').2).lt
      obtain ⟨W5, hW5⟩ : ∃ W5, w4.alloc (.cells #[.bool false, .slice (some ⟨w.heap.size + 1 + 1, 0, none⟩) k4 n] 31) = W5 := ⟨_, rfl⟩
      rw [hW5] at hQ2 hx5
      rw [hW5] at hbox
      have HW5 := hid hW5
      have HQ2 := hid hQ2
      have HX5 := hid hx5
      have HBOX := hid hbox
      have HQV := hid hqv
      clear hQ hQ2 hx5 hbox hx4 hx4' hqv hcut HVV HRD hmk k0 k1 hW5
      go_upto_region 10 with fail
      rw [HW5.out]
      obtain ⟨⟨j0, j1⟩, hrr⟩ := HK.out _ HX5.out
      obtain ⟨g0, g1, g2, g3⟩ := row_facts hrr
      obtain ⟨b0, b1⟩ := HBOX.out _ (Ext.rfl' _)
      have HRR := hid hrr
      clear hrr
      cases na with
      | false =>
        have hm : 0 ≤ m := by have := HNA.out; simpa using this.symm
        have hfin : NumInt (m / d) (m % d) w (.returned (.tuple #[.agg #[.bool false, .slice (some ⟨w.heap.size + 1 + 1, 0, none⟩) k4 n], .int .i64 (r : Int)])) ((W5.setCell ⟨w.heap.size + 1, 0, none⟩ (.bool false)).setCell ⟨w.heap.size + 1, 1, none⟩ (.slice (some ⟨w.heap.size + 1 + 1, 0, none⟩) k4 n)) := by
          have e1 : m / d = ((m.natAbs / d : Nat) : Int) := by rw [Int.natCast_ediv]; congr 1; omega
          have e2 : m % d = (r : Int) := by rw [HQV.out.2, Int.natCast_emod]; congr 1; omega
          rw [e1, e2]
          exact NumInt.stored HRR.out (HW2.out.step HX5.out) (by omega) HQ2.out
        have HF := hid hfin
        clear hfin hm
        go_wp2
        refine bodyPost_ret (v := .tuple #[.agg #[.bool false, .slice (some ⟨w.heap.size + 1 + 1, 0, none⟩) k4 n], .int .i64 (r : Int)]) (by simp [results, Tryd.results28, go_sem, g0, g1]) rfl HF.out
      | true =>
        have hm : m < 0 := by have := HNA.out; simpa using this.symm
        have hqB : m.natAbs / d ≤ BIG := Nat.le_trans (Nat.div_le_self _ _) la
        by_cases hr0 : r = 0
        · subst hr0
          have hv := div_neg (n := (d : Int)) hm (by omega) (by rw [Int.natAbs_natCast]; exact HQV.out.2.symm)
          rw [Int.natAbs_natCast] at hv
          have HVD := hid hv
          clear hv hm
          go_wp2_with fail
          refine (rminus_any _ _ _ HQ2.out).mono ?_
          rintro e w6 ⟨v6, rfl, hv6, hx6⟩
          rw [← HVD.out.1] at hv6
          have HV6 := hid hv6
          obtain ⟨A6, k6, c6, xs6, n6, rfl, -⟩ := hv6
          have hx56 := HX5.out.step hx6
          have hr6 := (HK.out _ hx56).2
          have hfin := NumInt.stored (r := m % d) hr6 (HW2.out.step hx56) (by omega) HV6.out
          rw [HVD.out.2] at hfin
          have HF := hid hfin
          obtain ⟨g0, g1, g2, g3⟩ := row_facts hr6
          clear hfin hr6 hx56 hx6
          go_wp2
          refine bodyPost_ret (v := .tuple #[.agg #[.bool n6, .slice A6 k6 c6], .int .i64 0]) (by simp [results, Tryd.results28, go_sem, g0, g1]) rfl ?_
          rw [← HVD.out.2] at HF ⊢
          exact HF.out
        · have hr1 : 0 < r := by omega
          have hv := div_neg' (n := (d : Int)) hm (by omega) (by rw [Int.natAbs_natCast, ← HQV.out.2]; exact hr1)
          rw [Int.natAbs_natCast, ← HQV.out.2] at hv
          have HVD := hid hv
          have hcur : Ext W5 W5 := Ext.rfl' _
          have hone : (1 : Int).natAbs ≤ BIG := by unfold BIG; rw [show (1000 : Nat) = 999 + 1 from rfl, zeros_succ, K.lv]; omega
          have hq2 : (((m.natAbs / d : Nat) : Int)).natAbs ≤ BIG := by rw [Int.natAbs_natCast]; exact hqB
          have HONE := hid hone
          have HQB := hid hq2
          have hr2 : r ≤ d := by omega
          have n1 : ¬ (w.heap.size + 1 = w4.heap.size) := by omega
          have n3 : ¬ (w4.heap.size = w.heap.size + 1) := by omega
          clear hv hm hr0 hone hq2 hqB
          have hwr : IntKind.i64.wrap ((d : Int) - (r : Int)) = (d : Int) - (r : Int) := IntWalk.i64_in _ (by omega)
          go_wp2_with fail
          go_region_held3 (fun w' => w'.cell? ⟨w4.heap.size, 0, none⟩ = some (.bool false) ∧ w'.cell? ⟨w4.heap.size, 1, none⟩ = some (.slice (some ⟨w.heap.size + 1 + 1, 0, none⟩) k4 n))
            (first | go_keep | exact HBOX.out _ hcur)
            (first
              | (go_at_call 63; refine (of_one _).mono ?_; rintro e w6 ⟨v6, rfl, hv6, hx⟩; have hcur := Ext.step hcur (by first | exact hx | exact Ext.undrew hx); have HV6 := hid hv6; obtain ⟨A6, k6, c6, xs6, n6, rfl, -⟩ := hv6)
              | (go_at_call 17; refine (radd_any _ _ _ _ _ (HQ2.out.ext ?_) (HV6.out.ext ?_) HQB.out HONE.out).mono ?_; (first | exact hcur | exact hcur.drew'); (first | exact Ext.rfl' _ | exact (Ext.rfl' _).drew'); rintro e w7 ⟨v7, rfl, hv7, hx⟩; have hcur := Ext.step hcur (by first | exact hx | exact Ext.undrew hx); have HV7 := hid hv7; obtain ⟨A7, k7, c7, xs7, n7, rfl, -⟩ := hv7)
              | (go_at_call 56; refine (rminus_any _ _ _ (HV7.out.ext ?_)).mono ?_; (first | exact Ext.rfl' _ | exact (Ext.rfl' _).drew'); rintro e w8 ⟨v8, rfl, hv8, hx⟩; have hcur := Ext.step hcur (by first | exact hx | exact Ext.undrew hx); have HV8 := hid hv8; obtain ⟨A8, k8, c8, xs8, n8, rfl, -⟩ := hv8; obtain ⟨g0, g1, g2, g3⟩ := row_facts (HK.out _ (HX5.out.step hcur)).2))
          all_goals
            have hx58 := HX5.out.step hcur
            have hr6 := (HK.out _ hx58).2
            have hv9 := HV8.out
            rw [show -(((m.natAbs / d : Nat) : Int) + 1) = m / d by rw [HVD.out.1]; omega] at hv9
            have hfin := NumInt.stored (r := m % d) hr6 (HW2.out.step hx58) (by omega) hv9
            rw [HVD.out.2, Int.ofNat_sub hr2] at hfin
            have HF := hid hfin
            clear hfin hr6 hx58 hv9
            go_wp2
            refine bodyPost_ret (v := .tuple #[.agg #[.bool n8, .slice A8 k8 c8], .int .i64 ((d : Int) - (r : Int))]) (by simp [results, Tryd.results28, go_sem, g0, g1]) rfl ?_
            rw [← Int.ofNat_sub hr2, ← HVD.out.2] at HF ⊢
            exact HF.out
    · obtain ⟨j, rfl⟩ : ∃ j, k = j + 1 := ⟨k - 1, by omega⟩
      obtain rfl : q = (j : Int) := by have := HQ.out; omega
      have hjn : j < n := by omega
      obtain ⟨⟨k0, k1⟩, -⟩ := HK.out _ hex
      obtain ⟨ba, oa, x, eA, exx, hba, hx⟩ := ((HA.out.ext HW2.out).ext hex).at_ (k := j) (by rw [LA.out]; exact hjn)
      subst eA
      have gx : x < 1000000000 := HX.out.1 x (mem_at exx)
      have hfree := hrow.free j
      have hcell : wr.cell? ⟨w.heap.size + 1 + 1, j, none⟩ = some (.int .i64 ((Os.getD j 0 : Nat) : Int)) := by
        rw [hrow.cell]; exact I64s_at (at_of_getD (by rw [HL.out]; exact hjn))
      obtain ⟨o, ho⟩ : ∃ o, Os.getD j 0 = o := ⟨_, rfl⟩
      rw [ho] at hcell
      obtain ⟨s, hs⟩ : ∃ s, r * 1000000000 + x = s := ⟨_, rfl⟩
      have hsd : s / d < 1000000000 := by
        rw [Nat.div_lt_iff_lt_mul (by omega)]
        have : (r + 1) * 1000000000 ≤ d * 1000000000 := Nat.mul_le_mul_right _ (by omega)
        rw [Nat.mul_comm d] at this
        omega
      have hsm : s % d < d := Nat.mod_lt _ (by omega)
      have hnew := I64s_put hrow j (s / d)
      have HNV : Hid (d * K.lv ((Os.set j (s / d)).drop j) + s % d = K.lv (xs.drop j)) := hid (by
        rw [drop_set (by rw [HL.out]; exact hjn), drop_at exx, K.lv, K.lv]
        exact part_step HV.out hs.symm)
      have HNL : Hid ((Os.set j (s / d)).length = n) := hid (by rw [List.length_set]; exact HL.out)
      have HNB : Hid (∀ z ∈ Os.set j (s / d), z < 1000000000) := hid (set_lt HB9.out hsd)
      have hsi : (r : Int) * 1000000000 + (x : Int) = (s : Int) := by omega
      have hex' := hex.set' (p := ⟨w.heap.size + 1 + 1, j, none⟩) (by show W2.heap.size ≤ w.heap.size + 1 + 1; rw [HSZ.out]; exact Nat.le_refl _) (.int .i64 ((s / d : Nat) : Int))
      have hev : ((r : Int) * 1000000000 + (x : Int)) / (d : Int) = ((s / d : Nat) : Int) := by rw [hsi]; rfl
      have her : Hid (Value.int .i64 (((r : Int) * 1000000000 + (x : Int)) % (d : Int)) = .int .i64 ((s % d : Nat) : Int)) := hid (by rw [hsi]; rfl)
      rw [← hev] at hnew hex'
      have HNR := hid hnew
      have HEX := hid hex'
      have hsb : s ≤ 2147483647999999999 := by omega
      clear ho hs hnew exx HQ hba h0 HV HB9 hsi hev hex'
      go_wp2
      go_roundw
      case rel => exact ⟨j, s % d, (j : Int) - 1, Os.set j (s / d), by omega, hsm, her.out, rfl, hid rfl, HNR.out, HNL, HNB, HNV, HEX.out⟩
      case measure => simp [intOf]
end Go.Proofs.YtoilkfohhhidpaaDoor
/- the reference's guess -/
namespace Go.Proofs.YtoilkfohhhidpaaDoor
open Go.RowKit
/-- a guess: at least 1, and not too many -/
def RGuess (a b : Nat) (w : World) (e : Ending) (w' : World) : Prop := ∃ (v : Value) (g : Nat), e = .returned v ∧ RefV w' v (g : Int) ∧ 1 ≤ g ∧ g * b ≤ a ∧ Ext w w'
/-- digits of a quotient behind zeros -/
def GInv (s q : Nat) (j p : Nat) (zs : List Nat) : Prop := zs.length = s + j ∧ K.lv zs + 1000000000 ^ (s + j) * p = 1000000000 ^ s * q ∧ (∀ z ∈ zs, z < 1000000000) ∧ j ≤ 3 ∧ 1000000000 ^ j * p ≤ q
theorem GInv.start (s q : Nat) : GInv s q 0 q (List.replicate s 0) := ⟨by simp, by rw [K.lv_zeros]; simp, by simp, by omega, by simp⟩
theorem GInv.step {s q j p : Nat} {zs : List Nat} (h : GInv s q j p zs) (hp : 0 < p) (hq : q < 1000000000000000000000000000) : GInv s q (j + 1) (p / 1000000000) (zs ++ [p % 1000000000]) ∧ j < 3 := by
  obtain ⟨h1, h2, h3, h4, h5⟩ := h
  have hm := Nat.div_add_mod p 1000000000
  have hj : j < 3 := by
    rcases Nat.lt_or_ge j 3 with h | h
    · exact h
    · obtain rfl : j = 3 := by omega
      have : 1000000000 ^ 3 * 1 ≤ 1000000000 ^ 3 * p := Nat.mul_le_mul_left _ hp
      have e : (1000000000 : Nat) ^ 3 = 1000000000000000000000000000 := rfl
      rw [e] at this h5
      omega
  refine ⟨⟨by simp [h1]; omega, ?_, ?_, by omega, ?_⟩, hj⟩
  · rw [lv_snoc, h1, ← h2, show s + (j + 1) = s + j + 1 by omega, Nat.pow_succ, Nat.mul_assoc, Nat.add_assoc, ← Nat.mul_add]
    congr 2
    omega
  · intro z hz
    rcases List.mem_append.1 hz with h | h
    · exact h3 z h
    · obtain rfl : z = p % 1000000000 := by simpa using h
      omega
  · rw [Nat.pow_succ, Nat.mul_assoc]
    exact Nat.le_trans (Nat.mul_le_mul_left _ (by omega)) h5
set_option maxRecDepth 100000 in
set_option maxHeartbeats 3200000 in
theorem rguess_wide (A B : Option Addr) (ca cb jb : Nat) (s z : Nat) (x y q P R : Nat) (na nb : Bool) (xs ys : List Nat) (w : World) (ha : Rd w A (I64s xs)) (hb : Rd w B (I64s ys)) (la : xs.length = jb + (s + 1) + 1) (lb : ys.length = jb + 1)
    (hx : xs[jb + (s + 1)]? = some x) (hy : ys[jb]? = some y) (gx : x < 1000000000) (gy : y < 1000000000) (hb1 : jb + (s + 1) ≤ 1000) (hz : xs[jb + s]? = some z) (gz : z < 1000000000) (h1 : x ≤ y) (hq : q = max ((x * 1000000000 + z) / (y + 1)) 1) (hres : Hid (1000000000 ^ s * q * P ≤ R)) :
    Calls Tryd.prog 62 #[.agg #[.bool na, .slice A (jb + (s + 1) + 1 : Nat) ca], .agg #[.bool nb, .slice B (jb + 1 : Nat) cb]] w (RGuess R P w) := by
  obtain ⟨i0, hi, hz0, hz1, hz2⟩ := info_parts infoI
  have hW3 : Ext w (((w.alloc (.cells #[.bool na, .slice A (jb + (s + 1) + 1 : Nat) ca] 31)).alloc (.cells #[.bool nb, .slice B (jb + 1 : Nat) cb] 31)).alloc (.cells #[.bool false, .slice none 0 0] 31)) := (((Ext.rfl' w).alloc' _).alloc' _).alloc' _
  have hk : ∀ w', Ext (((w.alloc (.cells #[.bool na, .slice A (jb + (s + 1) + 1 : Nat) ca] 31)).alloc (.cells #[.bool nb, .slice B (jb + 1 : Nat) cb] 31)).alloc (.cells #[.bool false, .slice none 0 0] 31)) w' →
      (w'.cell? ⟨w.heap.size, 0, none⟩ = some (.bool na) ∧ w'.cell? ⟨w.heap.size, 1, none⟩ = some (.slice A (jb + (s + 1) + 1 : Nat) ca) ∧ w'.cell? ⟨w.heap.size + 1, 0, none⟩ = some (.bool nb) ∧ w'.cell? ⟨w.heap.size + 1, 1, none⟩ = some (.slice B (jb + 1 : Nat) cb)) ∧ Row w' (w.heap.size + 1 + 1) 31 [.bool false, .slice none 0 0] := by
    intro w' e
    have h1 := two_facts (W := w) (H := w.heap.size) (t := 31) (a := .bool na) (b := .slice A (jb + (s + 1) + 1 : Nat) ca) (Ext.step (((Ext.rfl' _).alloc' _).alloc' _) e) rfl
    have h2 := two_facts (W := (w.alloc (.cells #[.bool na, .slice A (jb + (s + 1) + 1 : Nat) ca] 31))) (H := w.heap.size + 1) (t := 31) (a := .bool nb) (b := .slice B (jb + 1 : Nat) cb) (Ext.step ((Ext.rfl' _).alloc' _) e) (by simp)
    have h3 := two_facts (H := w.heap.size + 1 + 1) e (by simp)
    exact ⟨⟨h1.1, h1.2.1, h2.1, h2.2.1⟩, h3.2.2.2.2.2⟩
  obtain ⟨W3, hW3e⟩ : ∃ W3, (((w.alloc (.cells #[.bool na, .slice A (jb + (s + 1) + 1 : Nat) ca] 31)).alloc (.cells #[.bool nb, .slice B (jb + 1 : Nat) cb] 31)).alloc (.cells #[.bool false, .slice none 0 0] 31)) = W3 := ⟨_, rfl⟩
  have hsz : W3.heap.size = w.heap.size + 1 + 1 + 1 := by rw [← hW3e]; simp
  rw [hW3e] at hW3
  rw [hW3e] at hk
  have ha3 := ha.ext hW3
  obtain ⟨bb, ob, y', eB, ey, hbb, hyc⟩ := (hb.ext hW3).at_ (k := jb) (by omega)
  rw [hy] at ey
  cases ey
  obtain ⟨ba, oa, x', eA, ex, hba, hxc⟩ := ha3.at_ (k := jb + (s + 1)) (by omega)
  rw [hx] at ex
  cases ex
  obtain ⟨ba2, oa2, z', eA2, ez, hba2, hzc⟩ := ha3.at_ (k := jb + s) (by omega)
  rw [hz] at ez
  cases ez
  rw [eA] at eA2
  cases eA2
  subst eA
  clear hz hba2
  subst eB
  have HK := hid hk
  have HSZ := hid hsz
  have HW3 := hid hW3
  have HE := hid hW3e
  obtain ⟨⟨k0, k1, k2, k3⟩, -⟩ := hk _ (Ext.rfl' _)
  clear hx hy la lb ha hb hba hbb ha3 hW3 hk hsz hW3e
  have hmk := fun w => mkInts s (s : Int) rfl (by omega) w
  have hsh : (jb : Int) + ((s : Int) + 1) + 1 - ((jb : Int) + 1) = (s : Int) + 1 := by omega
  have hsh2 : (s : Int) + 1 - 1 = (s : Int) := by omega
  have hin : (jb : Int) + ((s : Int) + 1) + 1 - 2 = (jb : Int) + (s : Int) := by omega
  have hqi : max (((x : Int) * 1000000000 + (z : Int)) / ((y : Int) + 1)) (1 : Int) = (q : Int) := by
    have e : ((((x * 1000000000 + z) / (y + 1) : Nat)) : Int) = ((x : Int) * 1000000000 + (z : Int)) / ((y : Int) + 1) := by rw [Int.natCast_ediv]; simp
    rw [← e, hq]
    rcases Nat.le_total ((x * 1000000000 + z) / (y + 1)) 1 with h | h
    · rw [Nat.max_eq_right h, Int.max_eq_right (by omega)]; rfl
    · rw [Nat.max_eq_left h, Int.max_eq_left (by omega)]
  have hq1 : 1 ≤ q := by rw [hq]; exact Nat.le_max_right _ _
  have hq2 : q ≤ 1000000000000000000 := by
    rw [hq]; exact Nat.max_le.2 ⟨Nat.le_trans (Nat.div_le_self _ _) (by omega), by omega⟩
  have HQ2 := hid (show q < 1000000000000000000000000000 by omega)
  have HWX := hid hq
  clear hq

  go_enter Tryd.func62, Tryd.ntmps62
  go_upto_region 1 with fail
  rw [HE.out]
  go_upto_region 8 with fail
  have QQ := hid hqi
  clear hqi hsh HWX hsh2 hin
  have hown0 := World.ownsRow_lit (base := w.heap.size + 1 + 1 + 1) (e := 3) (size := 1) W3 (madeCells #[.int .i64 0] s) s (by rw [HSZ.out]; exact Nat.le_refl _) (by unfold maxLen; omega) (by rw [made_replicate]; simp)
  rw [HSZ.out, made_replicate, show (List.replicate s (Value.int .i64 0)).toArray.toList = I64s (List.replicate s 0) by rw [← I64s_zeros]] at hown0
  have hW4 : Ext W3 (W3.alloc (.cells (List.replicate s (Value.int .i64 0)).toArray 3)) := (Ext.rfl' W3).alloc' _
  have hgi := GInv.start s q
  have HGI := hid hgi
  have HOWN0 := hid hown0
  have HW4 := hid hW4
  have hmk2 : ∀ w, (Instr.makeSlice 29 (.int .i64 s) (.int .i64 s)).run Tryd.prog w = .ok (.slice (some ⟨w.heap.size, 0, none⟩) s s) (w.alloc (.cells (List.replicate s (Value.int .i64 0)).toArray 3)) := fun w => by rw [← made_replicate]; exact hmk w
  have HSZ2 := HSZ.out
  clear hgi hown0 hW4 hmk k0 k1 k2 k3 hyc hxc hzc
  go_wp2_with fail
  go_loopw [8, 9] (fun pz v wr => ∃ (j p : Nat) (zs : List Nat) (A : Option Addr) (c : Nat), v = .slice A (s + j : Nat) c ∧ pz = .int .i64 (p : Int) ∧ p ≤ q ∧ j ≤ 3 ∧ wr.ownsRow (w.heap.size + 1 + 1 + 1) 3 1 (.slice A (s + j : Nat) c) (s + j) (I64s zs) ∧ Ext W3 wr ∧ w.heap.size + 1 + 1 + 1 ≤ wr.heap.size ∧ Hid (GInv s q j p zs)) (fun pz _ _ => (intOf pz).toNat)
  case atStart => exact ⟨0, q, List.replicate s 0, _, _, rfl, rfl, Nat.le_refl _, by omega, HOWN0.out, HW4.out, Nat.le_trans (Nat.le_of_eq HSZ2.symm) HW4.out.size, HGI⟩
  case round =>
    obtain ⟨j, p, zs, A, c, rfl, rfl, hpq, hj3, hown, hex, hszr, hinv⟩ := hrel
    have HOWN := hid hown
    clear hown
    by_cases hp : 0 < p
    · have hst := hinv.out.step hp HQ2.out
      have HST := hid hst.1
      have hj : j < 3 := hst.2
      clear hst
      go_wp2_with (at_builtin; refine wpList_append_own _ rfl _ _ 29 rfl (w.heap.size + 1 + 1 + 1) 3 i0 (.int .i64 0) 1 8 Tryd.underlying29 hi hz0 hz1 hz2 rfl (by decide) _ _ _ rfl (HOWN.out.alloc _) ⟨wr.heap.size, 0, none⟩ 1 1 [.int .i64 ((p : Int) % 1000000000)] rfl rfl (cell_one_new _ _ _) (fun u hu => by simp at hu; subst hu; rfl) ?c1 ?c2 ?c3 ?_)
      case c1 => unfold maxLen; omega
      case c2 => omega
      case c3 => first | omega | (simp; omega)
      intro v' w1 hown' hgrow hnil
      obtain ⟨g, cap, sp, rfl, hg, hc1, hc2, hrow1, hvl, hsl⟩ := own_form hown' (by omega)
      have hex' : Ext W3 w1 := (hex.alloc' _).grown hgrow (by simp; omega) (by
        intro k hk
        rw [HSZ.out]
        exact (HOWN.out.lt k hk).1)
      have hsz' : w.heap.size + 1 + 1 + 1 ≤ w1.heap.size := by have := hex'.size; omega
      have HO := hid hown'
      clear hown' hgrow hnil hrow1 hvl hsl hg hc1 hc2
      go_wp2
      go_roundw
      case rel => exact ⟨j + 1, p / 1000000000, zs ++ [p % 1000000000], _, _, rfl, by simp, by omega, by omega, by have h := HO.out; rw [show s + (j + 1) = s + j + 1 by omega]; simpa using h, hex', hsz', HST⟩
      case measure => simp [intOf]; omega
    · obtain rfl : p = 0 := by omega
      have hjc : s + j ≤ c := by
        rcases HOWN.out.2 with ⟨h, h0⟩ | ⟨g, cap, cur, h, hg, hh, hc, _⟩
        · injection h with h1 h2 h3; omega
        · injection h with h1 h2 h3; omega
      have hgz := hinv.out
      have hrd := Rd.of_own HOWN.out
      have HRD := hid hrd
      have HGZ := hid hgz
      clear hrd hgz hinv
      go_wp2_with fail
      refine (rtrim_any false A c (s + j) zs _ HRD.out HGZ.out.1 (by omega) hjc).mono ?_
      rintro e w4 ⟨k4, b4, hk4, rfl, hb4, hcut, hx4⟩
      obtain rfl : b4 = false := by rw [hb4.out]; rfl
      have hx4' := hex.step hx4
      have hval : K.lv zs = 1000000000 ^ s * q := by
        have := HGZ.out.2.1
        simpa using this
      have hQ : RefV w4 (.agg #[.bool false, .slice A k4 c]) ((K.lv zs : Nat) : Int) := by
        refine ⟨_, k4, c, zs.take k4, false, rfl, hid ?_, by rw [List.length_take]; omega, by rw [HGZ.out.1] at hk4; omega, ?_, hcut.lim HGZ.out.2.2.1, by rw [hcut.lv]; rfl⟩
        · symm; exact decide_eq_false (by omega)
        · rw [show I64s (zs.take k4) = (I64s zs).take k4 from List.map_take ..]
          exact (HRD.out.ext hx4).take k4
      have hrr := (HK.out _ hx4').2
      have hfin : RGuess R P w (.returned (.agg #[.bool false, .slice A k4 c])) ((w4.setCell ⟨w.heap.size + 1 + 1, 0, none⟩ (.bool false)).setCell ⟨w.heap.size + 1 + 1, 1, none⟩ (.slice A k4 c)) := by
        have hh := NumInt.stored (r := 0) hrr (HW3.out.step hx4') (by omega) hQ
        obtain ⟨v, e1, e2, e3⟩ := hh
        cases e1
        refine ⟨_, K.lv zs, rfl, e2, ?_, by rw [hval]; exact hres.out, e3⟩
        rw [hval]
        exact Nat.mul_pos (Nat.pow_pos (by omega)) (by omega)
      have HF := hid hfin
      obtain ⟨g0, g1, g2, g3⟩ := row_facts hrr
      clear hfin hrr hQ hval hcut
      go_wp2
      refine bodyPost_ret (v := .agg #[.bool false, .slice A k4 c]) (by simp [results, Tryd.results62, go_sem, g0, g1]) rfl HF.out
set_option maxRecDepth 100000 in
set_option maxHeartbeats 3200000 in
theorem rguess_flat (A B : Option Addr) (ca cb jb : Nat) (s : Nat) (x y q P R : Nat) (na nb : Bool) (xs ys : List Nat) (w : World) (ha : Rd w A (I64s xs)) (hb : Rd w B (I64s ys)) (la : xs.length = jb + s + 1) (lb : ys.length = jb + 1)
    (hx : xs[jb + s]? = some x) (hy : ys[jb]? = some y) (gx : x < 1000000000) (gy : y < 1000000000) (hb1 : jb + s ≤ 1000)  (h1 : x ≤ y) (h2 : ¬ 0 < s) (hq : q = max (x / (y + 1)) 1) (hres : Hid (1000000000 ^ s * q * P ≤ R)) :
    Calls Tryd.prog 62 #[.agg #[.bool na, .slice A (jb + s + 1 : Nat) ca], .agg #[.bool nb, .slice B (jb + 1 : Nat) cb]] w (RGuess R P w) := by
  obtain ⟨i0, hi, hz0, hz1, hz2⟩ := info_parts infoI
  have hW3 : Ext w (((w.alloc (.cells #[.bool na, .slice A (jb + s + 1 : Nat) ca] 31)).alloc (.cells #[.bool nb, .slice B (jb + 1 : Nat) cb] 31)).alloc (.cells #[.bool false, .slice none 0 0] 31)) := (((Ext.rfl' w).alloc' _).alloc' _).alloc' _
  have hk : ∀ w', Ext (((w.alloc (.cells #[.bool na, .slice A (jb + s + 1 : Nat) ca] 31)).alloc (.cells #[.bool nb, .slice B (jb + 1 : Nat) cb] 31)).alloc (.cells #[.bool false, .slice none 0 0] 31)) w' →
      (w'.cell? ⟨w.heap.size, 0, none⟩ = some (.bool na) ∧ w'.cell? ⟨w.heap.size, 1, none⟩ = some (.slice A (jb + s + 1 : Nat) ca) ∧ w'.cell? ⟨w.heap.size + 1, 0, none⟩ = some (.bool nb) ∧ w'.cell? ⟨w.heap.size + 1, 1, none⟩ = some (.slice B (jb + 1 : Nat) cb)) ∧ Row w' (w.heap.size + 1 + 1) 31 [.bool false, .slice none 0 0] := by
    intro w' e
    have h1 := two_facts (W := w) (H := w.heap.size) (t := 31) (a := .bool na) (b := .slice A (jb + s + 1 : Nat) ca) (Ext.step (((Ext.rfl' _).alloc' _).alloc' _) e) rfl
    have h2 := two_facts (W := (w.alloc (.cells #[.bool na, .slice A (jb + s + 1 : Nat) ca] 31))) (H := w.heap.size + 1) (t := 31) (a := .bool nb) (b := .slice B (jb + 1 : Nat) cb) (Ext.step ((Ext.rfl' _).alloc' _) e) (by simp)
    have h3 := two_facts (H := w.heap.size + 1 + 1) e (by simp)
    exact ⟨⟨h1.1, h1.2.1, h2.1, h2.2.1⟩, h3.2.2.2.2.2⟩
  obtain ⟨W3, hW3e⟩ : ∃ W3, (((w.alloc (.cells #[.bool na, .slice A (jb + s + 1 : Nat) ca] 31)).alloc (.cells #[.bool nb, .slice B (jb + 1 : Nat) cb] 31)).alloc (.cells #[.bool false, .slice none 0 0] 31)) = W3 := ⟨_, rfl⟩
  have hsz : W3.heap.size = w.heap.size + 1 + 1 + 1 := by rw [← hW3e]; simp
  rw [hW3e] at hW3
  rw [hW3e] at hk
  have ha3 := ha.ext hW3
  obtain ⟨bb, ob, y', eB, ey, hbb, hyc⟩ := (hb.ext hW3).at_ (k := jb) (by omega)
  rw [hy] at ey
  cases ey
  obtain ⟨ba, oa, x', eA, ex, hba, hxc⟩ := ha3.at_ (k := jb + s) (by omega)
  rw [hx] at ex
  cases ex
  subst eA
  subst eB
  have HK := hid hk
  have HSZ := hid hsz
  have HW3 := hid hW3
  have HE := hid hW3e
  obtain ⟨⟨k0, k1, k2, k3⟩, -⟩ := hk _ (Ext.rfl' _)
  clear hx hy la lb ha hb hba hbb ha3 hW3 hk hsz hW3e
  have hmk := fun w => mkInts s (s : Int) rfl (by omega) w
  have hsh : (jb : Int) + ((s : Int)) + 1 - ((jb : Int) + 1) = (s : Int) := by omega
  have hqi : max ((x : Int) / ((y : Int) + 1)) (1 : Int) = (q : Int) := by
    have e : (((x / (y + 1) : Nat)) : Int) = (x : Int) / ((y : Int) + 1) := by rw [Int.natCast_ediv]; simp
    rw [← e, hq]
    rcases Nat.le_total (x / (y + 1)) 1 with h | h
    · rw [Nat.max_eq_right h, Int.max_eq_right (by omega)]; rfl
    · rw [Nat.max_eq_left h, Int.max_eq_left (by omega)]
  have hq1 : 1 ≤ q := by rw [hq]; exact Nat.le_max_right _ _
  have hq2 : q ≤ 1000000000000000000 := by
    rw [hq]; exact Nat.max_le.2 ⟨Nat.le_trans (Nat.div_le_self _ _) (by omega), by omega⟩
  have HQ2 := hid (show q < 1000000000000000000000000000 by omega)
  have HWX := hid hq
  clear hq
  have hwx : wrap64 ((x : Int) / ((y : Int) + 1)) = (x : Int) / ((y : Int) + 1) := IntWalk.wrap64_in _ ⟨by have := Int.ediv_nonneg (a := (x : Int)) (b := (y : Int) + 1) (by omega) (by omega); omega, by have := Int.ediv_le_self (b := (y : Int) + 1) (show (0 : Int) ≤ (x : Int) by omega); omega⟩
  go_enter Tryd.func62, Tryd.ntmps62
  go_upto_region 1 with fail
  rw [HE.out]
  go_upto_region 8 with fail
  have QQ := hid hqi
  clear hqi hsh HWX hwx
  have hown0 := World.ownsRow_lit (base := w.heap.size + 1 + 1 + 1) (e := 3) (size := 1) W3 (madeCells #[.int .i64 0] s) s (by rw [HSZ.out]; exact Nat.le_refl _) (by unfold maxLen; omega) (by rw [made_replicate]; simp)
  rw [HSZ.out, made_replicate, show (List.replicate s (Value.int .i64 0)).toArray.toList = I64s (List.replicate s 0) by rw [← I64s_zeros]] at hown0
  have hW4 : Ext W3 (W3.alloc (.cells (List.replicate s (Value.int .i64 0)).toArray 3)) := (Ext.rfl' W3).alloc' _
  have hgi := GInv.start s q
  have HGI := hid hgi
  have HOWN0 := hid hown0
  have HW4 := hid hW4
  have hmk2 : ∀ w, (Instr.makeSlice 29 (.int .i64 s) (.int .i64 s)).run Tryd.prog w = .ok (.slice (some ⟨w.heap.size, 0, none⟩) s s) (w.alloc (.cells (List.replicate s (Value.int .i64 0)).toArray 3)) := fun w => by rw [← made_replicate]; exact hmk w
  have HSZ2 := HSZ.out
  clear hgi hown0 hW4 hmk k0 k1 k2 k3 hyc hxc
  go_wp2_with fail
  go_loopw [8, 9] (fun pz v wr => ∃ (j p : Nat) (zs : List Nat) (A : Option Addr) (c : Nat), v = .slice A (s + j : Nat) c ∧ pz = .int .i64 (p : Int) ∧ p ≤ q ∧ j ≤ 3 ∧ wr.ownsRow (w.heap.size + 1 + 1 + 1) 3 1 (.slice A (s + j : Nat) c) (s + j) (I64s zs) ∧ Ext W3 wr ∧ w.heap.size + 1 + 1 + 1 ≤ wr.heap.size ∧ Hid (GInv s q j p zs)) (fun pz _ _ => (intOf pz).toNat)
  case atStart => exact ⟨0, q, List.replicate s 0, _, _, rfl, rfl, Nat.le_refl _, by omega, HOWN0.out, HW4.out, Nat.le_trans (Nat.le_of_eq HSZ2.symm) HW4.out.size, HGI⟩
  case round =>
    obtain ⟨j, p, zs, A, c, rfl, rfl, hpq, hj3, hown, hex, hszr, hinv⟩ := hrel
    have HOWN := hid hown
    clear hown
    by_cases hp : 0 < p
    · have hst := hinv.out.step hp HQ2.out
      have HST := hid hst.1
      have hj : j < 3 := hst.2
      clear hst
      go_wp2_with (at_builtin; refine wpList_append_own _ rfl _ _ 29 rfl (w.heap.size + 1 + 1 + 1) 3 i0 (.int .i64 0) 1 8 Tryd.underlying29 hi hz0 hz1 hz2 rfl (by decide) _ _ _ rfl (HOWN.out.alloc _) ⟨wr.heap.size, 0, none⟩ 1 1 [.int .i64 ((p : Int) % 1000000000)] rfl rfl (cell_one_new _ _ _) (fun u hu => by simp at hu; subst hu; rfl) ?c1 ?c2 ?c3 ?_)
      case c1 => unfold maxLen; omega
      case c2 => omega
      case c3 => first | omega | (simp; omega)
      intro v' w1 hown' hgrow hnil
      obtain ⟨g, cap, sp, rfl, hg, hc1, hc2, hrow1, hvl, hsl⟩ := own_form hown' (by omega)
      have hex' : Ext W3 w1 := (hex.alloc' _).grown hgrow (by simp; omega) (by
        intro k hk
        rw [HSZ.out]
        exact (HOWN.out.lt k hk).1)
      have hsz' : w.heap.size + 1 + 1 + 1 ≤ w1.heap.size := by have := hex'.size; omega
      have HO := hid hown'
      clear hown' hgrow hnil hrow1 hvl hsl hg hc1 hc2
      go_wp2
      go_roundw
      case rel => exact ⟨j + 1, p / 1000000000, zs ++ [p % 1000000000], _, _, rfl, by simp, by omega, by omega, by have h := HO.out; rw [show s + (j + 1) = s + j + 1 by omega]; simpa using h, hex', hsz', HST⟩
      case measure => simp [intOf]; omega
    · obtain rfl : p = 0 := by omega
      have hjc : s + j ≤ c := by
        rcases HOWN.out.2 with ⟨h, h0⟩ | ⟨g, cap, cur, h, hg, hh, hc, _⟩
        · injection h with h1 h2 h3; omega
        · injection h with h1 h2 h3; omega
      have hgz := hinv.out
      have hrd := Rd.of_own HOWN.out
      have HRD := hid hrd
      have HGZ := hid hgz
      clear hrd hgz hinv
      go_wp2_with fail
      refine (rtrim_any false A c (s + j) zs _ HRD.out HGZ.out.1 (by omega) hjc).mono ?_
      rintro e w4 ⟨k4, b4, hk4, rfl, hb4, hcut, hx4⟩
      obtain rfl : b4 = false := by rw [hb4.out]; rfl
      have hx4' := hex.step hx4
      have hval : K.lv zs = 1000000000 ^ s * q := by
        have := HGZ.out.2.1
        simpa using this
      have hQ : RefV w4 (.agg #[.bool false, .slice A k4 c]) ((K.lv zs : Nat) : Int) := by
        refine ⟨_, k4, c, zs.take k4, false, rfl, hid ?_, by rw [List.length_take]; omega, by rw [HGZ.out.1] at hk4; omega, ?_, hcut.lim HGZ.out.2.2.1, by rw [hcut.lv]; rfl⟩
        · symm; exact decide_eq_false (by omega)
        · rw [show I64s (zs.take k4) = (I64s zs).take k4 from List.map_take ..]
          exact (HRD.out.ext hx4).take k4
      have hrr := (HK.out _ hx4').2
      have hfin : RGuess R P w (.returned (.agg #[.bool false, .slice A k4 c])) ((w4.setCell ⟨w.heap.size + 1 + 1, 0, none⟩ (.bool false)).setCell ⟨w.heap.size + 1 + 1, 1, none⟩ (.slice A k4 c)) := by
        have hh := NumInt.stored (r := 0) hrr (HW3.out.step hx4') (by omega) hQ
        obtain ⟨v, e1, e2, e3⟩ := hh
        cases e1
        refine ⟨_, K.lv zs, rfl, e2, ?_, by rw [hval]; exact hres.out, e3⟩
        rw [hval]
        exact Nat.mul_pos (Nat.pow_pos (by omega)) (by omega)
      have HF := hid hfin
      obtain ⟨g0, g1, g2, g3⟩ := row_facts hrr
      clear hfin hrr hQ hval hcut
      go_wp2
      refine bodyPost_ret (v := .agg #[.bool false, .slice A k4 c]) (by simp [results, Tryd.results62, go_sem, g0, g1]) rfl HF.out
set_option maxRecDepth 100000 in
set_option maxHeartbeats 3200000 in
theorem rguess_more (A B : Option Addr) (ca cb jb : Nat) (s : Nat) (x y q P R : Nat) (na nb : Bool) (xs ys : List Nat) (w : World) (ha : Rd w A (I64s xs)) (hb : Rd w B (I64s ys)) (la : xs.length = jb + s + 1) (lb : ys.length = jb + 1)
    (hx : xs[jb + s]? = some x) (hy : ys[jb]? = some y) (gx : x < 1000000000) (gy : y < 1000000000) (hb1 : jb + s ≤ 1000)  (h1 : ¬ x ≤ y) (hq : q = max (x / (y + 1)) 1) (hres : Hid (1000000000 ^ s * q * P ≤ R)) :
    Calls Tryd.prog 62 #[.agg #[.bool na, .slice A (jb + s + 1 : Nat) ca], .agg #[.bool nb, .slice B (jb + 1 : Nat) cb]] w (RGuess R P w) := by
  obtain ⟨i0, hi, hz0, hz1, hz2⟩ := info_parts infoI
  have hW3 : Ext w (((w.alloc (.cells #[.bool na, .slice A (jb + s + 1 : Nat) ca] 31)).alloc (.cells #[.bool nb, .slice B (jb + 1 : Nat) cb] 31)).alloc (.cells #[.bool false, .slice none 0 0] 31)) := (((Ext.rfl' w).alloc' _).alloc' _).alloc' _
  have hk : ∀ w', Ext (((w.alloc (.cells #[.bool na, .slice A (jb + s + 1 : Nat) ca] 31)).alloc (.cells #[.bool nb, .slice B (jb + 1 : Nat) cb] 31)).alloc (.cells #[.bool false, .slice none 0 0] 31)) w' →
      (w'.cell? ⟨w.heap.size, 0, none⟩ = some (.bool na) ∧ w'.cell? ⟨w.heap.size, 1, none⟩ = some (.slice A (jb + s + 1 : Nat) ca) ∧ w'.cell? ⟨w.heap.size + 1, 0, none⟩ = some (.bool nb) ∧ w'.cell? ⟨w.heap.size + 1, 1, none⟩ = some (.slice B (jb + 1 : Nat) cb)) ∧ Row w' (w.heap.size + 1 + 1) 31 [.bool false, .slice none 0 0] := by
    intro w' e
    have h1 := two_facts (W := w) (H := w.heap.size) (t := 31) (a := .bool na) (b := .slice A (jb + s + 1 : Nat) ca) (Ext.step (((Ext.rfl' _).alloc' _).alloc' _) e) rfl
    have h2 := two_facts (W := (w.alloc (.cells #[.bool na, .slice A (jb + s + 1 : Nat) ca] 31))) (H := w.heap.size + 1) (t := 31) (a := .bool nb) (b := .slice B (jb + 1 : Nat) cb) (Ext.step ((Ext.rfl' _).alloc' _) e) (by simp)
    have h3 := two_facts (H := w.heap.size + 1 + 1) e (by simp)
    exact ⟨⟨h1.1, h1.2.1, h2.1, h2.2.1⟩, h3.2.2.2.2.2⟩
  obtain ⟨W3, hW3e⟩ : ∃ W3, (((w.alloc (.cells #[.bool na, .slice A (jb + s + 1 : Nat) ca] 31)).alloc (.cells #[.bool nb, .slice B (jb + 1 : Nat) cb] 31)).alloc (.cells #[.bool false, .slice none 0 0] 31)) = W3 := ⟨_, rfl⟩
  have hsz : W3.heap.size = w.heap.size + 1 + 1 + 1 := by rw [← hW3e]; simp
  rw [hW3e] at hW3
  rw [hW3e] at hk
  have ha3 := ha.ext hW3
  obtain ⟨bb, ob, y', eB, ey, hbb, hyc⟩ := (hb.ext hW3).at_ (k := jb) (by omega)
  rw [hy] at ey
  cases ey
  obtain ⟨ba, oa, x', eA, ex, hba, hxc⟩ := ha3.at_ (k := jb + s) (by omega)
  rw [hx] at ex
  cases ex
  subst eA
  subst eB
  have HK := hid hk
  have HSZ := hid hsz
  have HW3 := hid hW3
  have HE := hid hW3e
  obtain ⟨⟨k0, k1, k2, k3⟩, -⟩ := hk _ (Ext.rfl' _)
  clear hx hy la lb ha hb hba hbb ha3 hW3 hk hsz hW3e
  have hmk := fun w => mkInts s (s : Int) rfl (by omega) w
  have hsh : (jb : Int) + ((s : Int)) + 1 - ((jb : Int) + 1) = (s : Int) := by omega
  have hqi : max ((x : Int) / ((y : Int) + 1)) (1 : Int) = (q : Int) := by
    have e : (((x / (y + 1) : Nat)) : Int) = (x : Int) / ((y : Int) + 1) := by rw [Int.natCast_ediv]; simp
    rw [← e, hq]
    rcases Nat.le_total (x / (y + 1)) 1 with h | h
    · rw [Nat.max_eq_right h, Int.max_eq_right (by omega)]; rfl
    · rw [Nat.max_eq_left h, Int.max_eq_left (by omega)]
  have hq1 : 1 ≤ q := by rw [hq]; exact Nat.le_max_right _ _
  have hq2 : q ≤ 1000000000000000000 := by
    rw [hq]; exact Nat.max_le.2 ⟨Nat.le_trans (Nat.div_le_self _ _) (by omega), by omega⟩
  have HQ2 := hid (show q < 1000000000000000000000000000 by omega)
  have HWX := hid hq
  clear hq
  have hwx : wrap64 ((x : Int) / ((y : Int) + 1)) = (x : Int) / ((y : Int) + 1) := IntWalk.wrap64_in _ ⟨by have := Int.ediv_nonneg (a := (x : Int)) (b := (y : Int) + 1) (by omega) (by omega); omega, by have := Int.ediv_le_self (b := (y : Int) + 1) (show (0 : Int) ≤ (x : Int) by omega); omega⟩
  go_enter Tryd.func62, Tryd.ntmps62
  go_upto_region 1 with fail
  rw [HE.out]
  go_upto_region 8 with fail
  have QQ := hid hqi
  clear hqi hsh HWX hwx
  have hown0 := World.ownsRow_lit (base := w.heap.size + 1 + 1 + 1) (e := 3) (size := 1) W3 (madeCells #[.int .i64 0] s) s (by rw [HSZ.out]; exact Nat.le_refl _) (by unfold maxLen; omega) (by rw [made_replicate]; simp)
  rw [HSZ.out, made_replicate, show (List.replicate s (Value.int .i64 0)).toArray.toList = I64s (List.replicate s 0) by rw [← I64s_zeros]] at hown0
  have hW4 : Ext W3 (W3.alloc (.cells (List.replicate s (Value.int .i64 0)).toArray 3)) := (Ext.rfl' W3).alloc' _
  have hgi := GInv.start s q
  have HGI := hid hgi
  have HOWN0 := hid hown0
  have HW4 := hid hW4
  have hmk2 : ∀ w, (Instr.makeSlice 29 (.int .i64 s) (.int .i64 s)).run Tryd.prog w = .ok (.slice (some ⟨w.heap.size, 0, none⟩) s s) (w.alloc (.cells (List.replicate s (Value.int .i64 0)).toArray 3)) := fun w => by rw [← made_replicate]; exact hmk w
  have HSZ2 := HSZ.out
  clear hgi hown0 hW4 hmk k0 k1 k2 k3 hyc hxc
  go_wp2_with fail
  go_loopw [8, 9] (fun pz v wr => ∃ (j p : Nat) (zs : List Nat) (A : Option Addr) (c : Nat), v = .slice A (s + j : Nat) c ∧ pz = .int .i64 (p : Int) ∧ p ≤ q ∧ j ≤ 3 ∧ wr.ownsRow (w.heap.size + 1 + 1 + 1) 3 1 (.slice A (s + j : Nat) c) (s + j) (I64s zs) ∧ Ext W3 wr ∧ w.heap.size + 1 + 1 + 1 ≤ wr.heap.size ∧ Hid (GInv s q j p zs)) (fun pz _ _ => (intOf pz).toNat)
  case atStart => exact ⟨0, q, List.replicate s 0, _, _, rfl, rfl, Nat.le_refl _, by omega, HOWN0.out, HW4.out, Nat.le_trans (Nat.le_of_eq HSZ2.symm) HW4.out.size, HGI⟩
  case round =>
    obtain ⟨j, p, zs, A, c, rfl, rfl, hpq, hj3, hown, hex, hszr, hinv⟩ := hrel
    have HOWN := hid hown
    clear hown
    by_cases hp : 0 < p
    · have hst := hinv.out.step hp HQ2.out
      have HST := hid hst.1
      have hj : j < 3 := hst.2
      clear hst
      go_wp2_with (at_builtin; refine wpList_append_own _ rfl _ _ 29 rfl (w.heap.size + 1 + 1 + 1) 3 i0 (.int .i64 0) 1 8 Tryd.underlying29 hi hz0 hz1 hz2 rfl (by decide) _ _ _ rfl (HOWN.out.alloc _) ⟨wr.heap.size, 0, none⟩ 1 1 [.int .i64 ((p : Int) % 1000000000)] rfl rfl (cell_one_new _ _ _) (fun u hu => by simp at hu; subst hu; rfl) ?c1 ?c2 ?c3 ?_)
      case c1 => unfold maxLen; omega
      case c2 => omega
      case c3 => first | omega | (simp; omega)
      intro v' w1 hown' hgrow hnil
      obtain ⟨g, cap, sp, rfl, hg, hc1, hc2, hrow1, hvl, hsl⟩ := own_form hown' (by omega)
      have hex' : Ext W3 w1 := (hex.alloc' _).grown hgrow (by simp; omega) (by
        intro k hk
        rw [HSZ.out]
        exact (HOWN.out.lt k hk).1)
      have hsz' : w.heap.size + 1 + 1 + 1 ≤ w1.heap.size := by have := hex'.size; omega
      have HO := hid hown'
      clear hown' hgrow hnil hrow1 hvl hsl hg hc1 hc2
      go_wp2
      go_roundw
      case rel => exact ⟨j + 1, p / 1000000000, zs ++ [p % 1000000000], _, _, rfl, by simp, by omega, by omega, by have h := HO.out; rw [show s + (j + 1) = s + j + 1 by omega]; simpa using h, hex', hsz', HST⟩
      case measure => simp [intOf]; omega
    · obtain rfl : p = 0 := by omega
      have hjc : s + j ≤ c := by
        rcases HOWN.out.2 with ⟨h, h0⟩ | ⟨g, cap, cur, h, hg, hh, hc, _⟩
        · injection h with h1 h2 h3; omega
        · injection h with h1 h2 h3; omega
      have hgz := hinv.out
      have hrd := Rd.of_own HOWN.out
      have HRD := hid hrd
      have HGZ := hid hgz
      clear hrd hgz hinv
      go_wp2_with fail
      refine (rtrim_any false A c (s + j) zs _ HRD.out HGZ.out.1 (by omega) hjc).mono ?_
      rintro e w4 ⟨k4, b4, hk4, rfl, hb4, hcut, hx4⟩
      obtain rfl : b4 = false := by rw [hb4.out]; rfl
      have hx4' := hex.step hx4
      have hval : K.lv zs = 1000000000 ^ s * q := by
        have := HGZ.out.2.1
        simpa using this
      have hQ : RefV w4 (.agg #[.bool false, .slice A k4 c]) ((K.lv zs : Nat) : Int) := by
        refine ⟨_, k4, c, zs.take k4, false, rfl, hid ?_, by rw [List.length_take]; omega, by rw [HGZ.out.1] at hk4; omega, ?_, hcut.lim HGZ.out.2.2.1, by rw [hcut.lv]; rfl⟩
        · symm; exact decide_eq_false (by omega)
        · rw [show I64s (zs.take k4) = (I64s zs).take k4 from List.map_take ..]
          exact (HRD.out.ext hx4).take k4
      have hrr := (HK.out _ hx4').2
      have hfin : RGuess R P w (.returned (.agg #[.bool false, .slice A k4 c])) ((w4.setCell ⟨w.heap.size + 1 + 1, 0, none⟩ (.bool false)).setCell ⟨w.heap.size + 1 + 1, 1, none⟩ (.slice A k4 c)) := by
        have hh := NumInt.stored (r := 0) hrr (HW3.out.step hx4') (by omega) hQ
        obtain ⟨v, e1, e2, e3⟩ := hh
        cases e1
        refine ⟨_, K.lv zs, rfl, e2, ?_, by rw [hval]; exact hres.out, e3⟩
        rw [hval]
        exact Nat.mul_pos (Nat.pow_pos (by omega)) (by omega)
      have HF := hid hfin
      obtain ⟨g0, g1, g2, g3⟩ := row_facts hrr
      clear hfin hrr hQ hval hcut
      go_wp2
      refine bodyPost_ret (v := .agg #[.bool false, .slice A k4 c]) (by simp [results, Tryd.results62, go_sem, g0, g1]) rfl HF.out
end Go.Proofs.YtoilkfohhhidpaaDoor
