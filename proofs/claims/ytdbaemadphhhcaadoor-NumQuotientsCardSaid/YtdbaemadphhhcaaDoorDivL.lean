/- (natural).divideLong -/
import Derived.Test.YtdbaemadphhhcaaDoorGuess
import Derived.Test.YtdbaemadphhhcaaDoorTake
namespace Go.Proofs.YtdbaemadphhhcaaDoor
open Go.RowKit
def ScaleP (s : List Nat) (m : Nat) (w : World) (e : Ending) (w' : World) : Prop := ∃ g, e = .returned (.slice (some ⟨g, 0, none⟩) m m) ∧ w.heap.size ≤ g ∧ Row w' g 76 (U64s s) ∧ Ext w w'
theorem scaled_q (A : Option Addr) (ca n l m : Nat) (lq mq : Int) (xs : List Nat) (w : World) (ha : Rd w A (U64s xs)) (ln : xs.length = n) (hn : n ≤ 1001) (hm : m ≤ 1001) (bx : ∀ x ∈ xs, x < 1000000000) (hl : l < 1000000000) (hlq : lq = l) (hmq : mq = m) :
    Calls Tryd.prog 87 #[.slice A n ca, .int .u64 lq, .int .i64 mq] w (ScaleP (scl xs l m 0) m w) := by
  subst hlq hmq
  refine (scaled_l A ca n l m xs w ha ln hn hm bx hl).mono ?_
  rintro e w' ⟨g, he, h1, h2, h3⟩
  rw [scl_len] at he
  exact ⟨g, he, h1, h2, h3⟩
def DivLPost (q r : Nat) (w : World) (e : Ending) (w' : World) : Prop := ∃ v1 v2, e = .returned (.tuple #[v1, v2]) ∧ NatV w' v1 q ∧ NatV w' v2 r ∧ Ext w w'

/-- what holds at the head of the long division's loop: k digits are still to come -/
def LongInv (S ys : List Nat) (N n g gv gq : Nat) (w : World) (k : Nat) (wr : World) : Prop :=
  ∃ rl ql : List Nat, Row wr g 76 (U64s (S.take k ++ rl ++ List.replicate (N + 1 - k - n) 0)) ∧ rl.length = n ∧ (∀ x ∈ rl, x < 1000000000) ∧ K.lv rl < K.lv ys ∧
    Row wr gq 76 (U64s (List.replicate k 0 ++ ql)) ∧ ql.length = N - n + 1 - k ∧ (∀ x ∈ ql, x < 1000000000) ∧ K.lv (S.drop k) = K.lv ql * K.lv ys + K.lv rl ∧ Row wr gv 76 (U64s ys) ∧ Ext w wr

set_option maxRecDepth 100000 in
set_option maxHeartbeats 3200000 in
theorem divL_l (A B : Option Addr) (ca cb N m t : Nat) (xs ys : List Nat) (w : World) (ha : Rd w A (U64s xs)) (hb : Rd w B (U64s ys)) (ln : xs.length = N) (lm : ys.length = m + 2) (hN : N ≤ 1000) (hmN : m + 2 ≤ N)
    (bx : ∀ x ∈ xs, x < 1000000000) (by_ : ∀ y ∈ ys, y < 1000000000) (ht : ys[m + 1]? = some t) (ht0 : 0 < t) :
    Calls Tryd.prog 80 #[.slice A N ca, .slice B (m + 2) cb] w (DivLPost (K.lv xs / K.lv ys) (K.lv xs % K.lv ys) w) := by
  obtain ⟨b2, o2, t', eB, et, hb2, hyc⟩ := hb.at_ (k := m + 1) (by omega)
  obtain rfl : t' = t := by rw [ht] at et; injection et with et; exact et.symm
  subst eB
  have htB := by_ t' (mem_at ht)
  obtain ⟨hs0, hsB, hst, hsm⟩ := scale_top htB ht0
  have LN := hid ln
  have LM := hid lm
  have BX := hid bx
  have BY := hid by_
  have HT := hid ht
  have HST := hid hst
  have HSM := hid hsm
  have hd0 : ¬ (t' : Int) + 1 = 0 := by omega
  clear bx by_ ln lm ht et hst hsm
  obtain ⟨s, hs⟩ : ∃ s, 1000000000 / (t' + 1) = s := ⟨_, rfl⟩
  have hsq : (1000000000 : Int) / ((t' : Int) + 1) = s := by rw [← hs]; simp
  rw [hs] at hs0 hsB
  have HS := hid hs
  have HSQ := hid hsq
  clear hs hsq
  go_enter Tryd.func80, Tryd.ntmps80
  go_wp2_with fail
  refine (scaled_q A ca N s (N + 1) _ _ xs w ha LN.out (by omega) (by omega) BX.out hsB HSQ.out (by omega)).mono ?_
  rintro e w1 ⟨g, rfl, hg, hrow1, hx1⟩
  go_wp2_with fail
  refine (scaled_q _ cb (m + 2) s (m + 2) _ _ ys w1 (hb.ext hx1) LM.out (by omega) (by omega) BY.out hsB HSQ.out (by omega)).mono ?_
  rintro e w2 ⟨gv, rfl, hgv, hrow2, hx2⟩
  have hglt := hrow1.lt
  have hgvlt := hrow2.lt
  have hmk := fun w => mkNat (N - (m + 2) + 1) ((N : Int) - ((m : Int) + 2) + 1) (by omega) (by omega) w
  obtain ⟨hS, hY, hdr, y0, v2, v1, hYs, hy0, hYm, hYm1, hv1⟩ := scale_facts LN.out LM.out hmN BX.out BY.out HT.out ht0 HS.out
  have hSl := scl_len (N + 1) xs s 0
  have hSb := scl_lt (N + 1) xs s 0
  have hYl := scl_len (m + 2) ys s 0
  have hYb := scl_lt (m + 2) ys s 0
  generalize scl xs s (N + 1) 0 = S at *
  generalize scl ys s (m + 2) 0 = Y at *
  have FS := hid hS
  have FY := hid hY
  have FD := hid hdr
  have FYs := hid hYs
  have Fy0 := hid hy0
  have FYm := hid hYm
  have FYm1 := hid hYm1
  have FSl := hid hSl
  have FSb := hid hSb
  have FYl := hid hYl
  have FYb := hid hYb
  have FV1 := hid hv1
  clear hS hY hdr hYs hy0 hYm hYm1 hSl hSb hYl hYb hv1 ha hb hyc
  go_wp2_with fail
  go_loopw [10] (fun i wr => ∃ q : Int, -1 ≤ q ∧ q ≤ ((N - (m + 2) : Nat) : Int) ∧ i = .int .i64 q ∧ LongInv S Y N (m + 2) g gv w2.heap.size w (q + 1).toNat wr) (fun i _ => (intOf i + 1).toNat)
  case atStart =>
    refine ⟨((N - (m + 2) : Nat) : Int), by omega, by omega, rfl, S.drop (N - (m + 2) + 1), [], ?_, ?_, ?_, ?_, ?_, ?_, by simp, ?_, hrow2.alloc _, (hx1.step hx2).alloc' _⟩
    · rw [show (((N - (m + 2) : Nat) : Int) + 1).toNat = N - (m + 2) + 1 by omega, List.take_append_drop, show N + 1 - (N - (m + 2) + 1) - (m + 2) = 0 by omega]
      rw [List.replicate_zero, List.append_nil]
      exact (hrow1.ext hx2).alloc _
    · rw [List.length_drop, FSl.out]; omega
    · exact fun x hx => FSb.out x (List.mem_of_mem_drop hx)
    · exact FD.out
    · rw [show (((N - (m + 2) : Nat) : Int) + 1).toNat = N - (m + 2) + 1 by omega, List.append_nil, ← U64s_zeros]
      exact Row.made w2 _ _ _
    · simp
    · rw [show (((N - (m + 2) : Nat) : Int) + 1).toNat = N - (m + 2) + 1 by omega]; simp [K.lv]
  case round =>
    obtain ⟨q, hq1, hq2, rfl, hI⟩ := hrel
    clear hmk
    by_cases hq : 0 ≤ q
    · obtain ⟨j, rfl⟩ := Int.eq_ofNat_of_zero_le hq
      rw [show ((j : Int) + 1).toNat = j + 1 by omega] at hI
      obtain ⟨rl, ql, hrow, hrl, hrb, hrV, hqrow, hql, hqb, hval, hyrow, hext⟩ := hI
      obtain ⟨x, ex⟩ : ∃ x, S[j]? = some x := ⟨_, List.getElem?_eq_getElem (by rw [FSl.out]; omega)⟩
      have hxB := FSb.out x (mem_at ex)
      have HEX := hid ex
      obtain ⟨w0, u2, u1, u0, ew, hw0, hu2, hu1, hu0⟩ := split3 (ys := x :: rl) (m := m) (by rw [List.length_cons, hrl])
      have hlo : (S.take j).length = j := by rw [List.length_take, FSl.out]; omega
      have hcells : U64s (S.take (j + 1) ++ rl ++ List.replicate (N + 1 - (j + 1) - (m + 2)) 0) = U64s (S.take j ++ (w0 ++ [u2, u1]) ++ u0 :: List.replicate (N + 1 - (j + 1) - (m + 2)) 0) := by
        rw [List.take_succ_eq_append_getElem (by rw [FSl.out]; omega), show S[j]'(by rw [FSl.out]; omega) = x from (List.getElem?_eq_some_iff.1 ex).2]
        have e2 : S.take j ++ [x] ++ rl = S.take j ++ (w0 ++ [u2, u1]) ++ [u0] := by
          rw [List.append_assoc, List.singleton_append, ew]; simp
        rw [e2]; simp
      rw [hcells] at hrow
      have hwl : (w0 ++ [u2, u1]).length = m + 2 := by simp [hw0]
      have hwb : ∀ z ∈ x :: rl, z < 1000000000 := by
        intro z hz
        rcases List.mem_cons.1 hz with rfl | hz
        · exact hxB
        · exact hrb z hz
      have hwb2 : ∀ z ∈ w0 ++ [u2, u1], z < 1000000000 := fun z hz => hwb z (by rw [ew]; simp at hz ⊢; rcases hz with h | h | h <;> simp [h])
      have b1 : u1 < 1000000000 := hwb2 u1 (by simp)
      have b2 : u2 < 1000000000 := hwb2 u2 (by simp)
      have c0 : wr.cell? ⟨g, j + (m + 2), none⟩ = some (.int .u64 u0) := by rw [hrow.cell]; exact mid_at hlo hwl
      have c1 : wr.cell? ⟨g, j + (m + 1), none⟩ = some (.int .u64 u1) := by
        rw [hrow.cell, show S.take j ++ (w0 ++ [u2, u1]) ++ u0 :: List.replicate (N + 1 - (j + 1) - (m + 2)) 0 = S.take j ++ (w0 ++ [u2]) ++ u1 :: u0 :: List.replicate (N + 1 - (j + 1) - (m + 2)) 0 by simp]
        exact mid_at hlo (by simp [hw0])
      have c2 : wr.cell? ⟨g, j + m, none⟩ = some (.int .u64 u2) := by
        rw [hrow.cell, show S.take j ++ (w0 ++ [u2, u1]) ++ u0 :: List.replicate (N + 1 - (j + 1) - (m + 2)) 0 = S.take j ++ w0 ++ u2 :: u1 :: u0 :: List.replicate (N + 1 - (j + 1) - (m + 2)) 0 by simp]
        exact mid_at hlo hw0
      have d1 : wr.cell? ⟨gv, m + 1, none⟩ = some (.int .u64 v1) := by rw [hyrow.cell]; exact U64s_at FYm1.out
      have d2 : wr.cell? ⟨gv, m, none⟩ = some (.int .u64 v2) := by rw [hyrow.cell]; exact U64s_at FYm.out
      have bv1 := FYb.out v1 (mem_at FYm1.out)
      have bv2 := FYb.out v2 (mem_at FYm.out)
      have hlw0 : K.lv w0 < 1000000000 ^ m := by
        have := K.lv_lt w0 (fun z hz => hwb2 z (List.mem_append_left _ hz))
        rwa [hw0] at this
      have hly0 : K.lv y0 < 1000000000 ^ m := by
        have := K.lv_lt y0 (fun z hz => FYb.out z (by rw [FYs.out]; exact List.mem_append_left _ hz))
        rwa [Fy0.out] at this
      have eV : K.lv Y = K.lv y0 + 1000000000 ^ m * (v2 + 1000000000 * v1) := by rw [FYs.out, K.lv_append, Fy0.out]; simp [K.lv]
      have eU : K.lv (x :: rl) = K.lv w0 + 1000000000 ^ m * (u2 + 1000000000 * (u1 + 1000000000 * u0)) := by rw [ew, K.lv_append, hw0]; simp [K.lv]
      have eU2 : K.lv (x :: rl) = x + 1000000000 * K.lv rl := rfl
      have eUw : K.lv (w0 ++ [u2, u1]) + 1000000000 ^ Y.length * u0 = K.lv (x :: rl) := by
        rw [eU, K.lv_append, hw0, FYl.out, Nat.pow_add, Nat.mul_assoc, Nat.add_assoc, ← Nat.mul_add]
        simp only [K.lv]
        congr 2
        omega
      obtain ⟨U, hU⟩ : ∃ U, K.lv (x :: rl) = U := ⟨_, rfl⟩
      rw [hU] at eU eU2 eUw
      have hUV : U < 1000000000 * K.lv Y := by omega
      obtain ⟨kn1, kn2, kn3, kn4, kn5⟩ := knuth hly0 hlw0 bv2 b1 b2 FV1.out eV eU hUV
      have hVpos : 0 < K.lv Y := by omega
      have hdm : K.lv (w0 ++ [u2, u1]) + 1000000000 ^ Y.length * u0 = U / K.lv Y * K.lv Y + U % K.lv Y := by
        rw [eUw, Nat.mul_comm]; exact (Nat.div_add_mod U _).symm
      have hmodlt := Nat.mod_lt U hVpos
      have HQB9 := hid kn3
      have HVP := hid hVpos
      have HU := hid eU2
      have HLO := hid hlo
      have HWL := hid hwl
      have HWB := hid hwb2
      have HDM := hid hdm
      have HML := hid hmodlt
      have HK5 := hid kn5
      have HQL := hid hql
      have hqcell : wr.cell? ⟨w2.heap.size, j, none⟩ = some (.int .u64 0) := by
        rw [hqrow.cell, List.replicate_succ', List.append_assoc]
        exact U64s_mid0 (by simp)
      have hqfree := hqrow.free j
      have hqlt := hqrow.lt
      rw [List.replicate_succ', List.append_assoc, List.singleton_append] at hqrow
      have hjN : j ≤ 1000 := by omega
      clear hw0 hu0 hu1 hu2 ew hcells hlo hwl hwb hwb2 hlw0 hly0 eV eU eU2 eUw hU hUV hVpos hdm hmodlt ex hql
      go_wp2_with fail
      rw [show j + (m + 2) + 1 - j = m + 3 by omega]
      refine (guess_l g j gv m _ _ u0 u1 u2 v1 v2 (U / K.lv Y) wr (by omega) c0 c1 c2 d1 d2 kn1 b1 b2 bv1 bv2 FV1.out kn2 kn3 kn4).mono ?_
      rintro e w3 ⟨l, left, rfl, hw3, he, hql2, hlB, hexit⟩
      have hle := HK5.out l left he hlB hexit
      have hrow3 := hrow.ext hw3.ext
      have hyrow3 := hyrow.ext hw3.ext
      have hqrow3 := hqrow.ext hw3.ext
      have hext3 := hext.step hw3.ext
      clear he hexit HK5 kn1 kn2 kn3 kn4 kn5 c0 c1 c2 d1 d2
      go_wp2_with fail
      refine (take_l g j gv (m + 2) _ _ u0 l (S.take j) (w0 ++ [u2, u1]) (List.replicate (N + 1 - (j + 1) - (m + 2)) 0) Y w3 hrow3 hyrow3 (by omega) HLO.out HWL.out FYl.out (by omega) (by omega) hlB HWB.out FYb.out).mono ?_
      rintro e w4 ⟨rfl, hrow4, hon4⟩
      have hyrow4 := hyrow3.only hon4 (by omega)
      have hqrow4 := hqrow3.only hon4 (by omega)
      have hext4 := hext3.only hon4 (by omega)
      by_cases hlq : l = U / K.lv Y
      · have hex := step_exact (l := l) (by rw [HWL.out, FYl.out]) HWB.out FYb.out HDM.out HML.out hlq
        rw [decide_eq_false (by omega)]
        have HR := hid hex.2
        have HQC := hid hqrow4
        have hqc : w4.cell? ⟨w2.heap.size, j, none⟩ = some (.int .u64 0) := by rw [hqrow4.cell]; exact U64s_mid0 (by simp)
        have hqf := hqrow4.free j
        have HLQ := hid hlq
        clear hex hqrow4 hqrow3 hqrow hqcell hlq
        go_wp2
        go_roundw
        case rel =>
          refine ⟨(j : Int) - 1, by omega, by omega, rfl, ?_⟩
          rw [show ((j : Int) - 1 + 1).toNat = j by omega]
          refine ⟨tkl (w0 ++ [u2, u1]) Y l 0, l :: ql, ?_, ?_, ?_, by rw [HR.out]; exact Nat.mod_lt _ HVP.out, ?_, by rw [List.length_cons, HQL.out]; omega, ?_, ?_, ?_, ?_⟩
          · have h1 := (hrow4).far (p := ⟨w2.heap.size, j, none⟩) (by show g ≠ w2.heap.size; omega) (.int .u64 (l : Int))
            rw [List.append_assoc] at h1 ⊢
            rw [show N + 1 - j - (m + 2) = N + 1 - (j + 1) - (m + 2) + 1 by omega, zeros_succ]
            exact h1
          · rw [tkl_len _ _ _ _ (by rw [HWL.out, FYl.out]), FYl.out]
          · exact tkl_lt _ _ _ _ HWB.out
          · have h1 := Row.step0 (k := j) HQC.out (by simp) l
            simpa using h1
          · intro z hz
            rcases List.mem_cons.1 hz with rfl | hz
            · rw [HLQ.out]; exact HQB9.out
            · exact hqb z hz
          · rw [HR.out, drop_at HEX.out, K.lv, K.lv, HLQ.out]
            exact long_step hval U HU.out
          · exact (hyrow4).far (by show gv ≠ w2.heap.size; omega) _
          · exact (hext4).set' (by show w.heap.size ≤ w2.heap.size; exact Nat.le_trans (hx1.step hx2).size (Nat.le_refl _)) _
        case measure => simp [intOf]
      · have hlq1 : l = U / K.lv Y + 1 := by omega
        have hov := step_over (l := l) (by rw [HWL.out, FYl.out]) HWB.out FYb.out HDM.out HML.out hlq1
        rw [decide_eq_true hov.1]
        have HR := hid hov.2
        have hl1 : 1 ≤ l := by rw [hlq1]; exact Nat.le_add_left 1 _
        have HLQ := hid hlq1
        clear hov hlq hqcell hlq1
        go_wp2_with fail
        refine (put_l g j gv (m + 2) (m + 3) _ _ (S.take j) (tkl (w0 ++ [u2, u1]) Y l 0) (0 :: List.replicate (N + 1 - (j + 1) - (m + 2)) 0) Y w4 hrow4 hyrow4 (by omega) HLO.out (by rw [tkl_len _ _ _ _ (by rw [HWL.out, FYl.out]), FYl.out]) FYl.out (by omega) (by omega) (by omega) (tkl_lt _ _ _ _ HWB.out) FYb.out).mono ?_
        rintro e w5 ⟨rfl, hrow5, hon5⟩
        have hyrow5 := hyrow4.only hon5 (by omega)
        have hqrow5 := hqrow4.only hon5 (by omega)
        have hext5 := hext4.only hon5 (by omega)
        have HQC := hid hqrow5
        have hqc : w5.cell? ⟨w2.heap.size, j, none⟩ = some (.int .u64 0) := by rw [hqrow5.cell]; exact U64s_mid0 (by simp)
        have hqf := hqrow5.free j
        clear hqrow5 hqrow4 hqrow3 hqrow
        go_wp2
        go_roundw
        case rel =>
          have hlv : (l : Int) - 1 = ((U / K.lv Y : Nat) : Int) := by rw [HLQ.out, Int.natCast_add]; exact Int.add_sub_cancel _ _
          rw [hlv]
          refine ⟨(j : Int) - 1, by omega, by omega, rfl, ?_⟩
          rw [show ((j : Int) - 1 + 1).toNat = j by omega]
          refine ⟨pbl (tkl (w0 ++ [u2, u1]) Y l 0) Y 0, (U / K.lv Y) :: ql, ?_, ?_, ?_, by rw [HR.out]; exact Nat.mod_lt _ HVP.out, ?_, by rw [List.length_cons, HQL.out]; omega, ?_, ?_, ?_, ?_⟩
          · have h1 := (hrow5).far (p := ⟨w2.heap.size, j, none⟩) (by show g ≠ w2.heap.size; omega) (.int .u64 ((U / K.lv Y : Nat) : Int))
            rw [List.append_assoc] at h1 ⊢
            rw [show N + 1 - j - (m + 2) = N + 1 - (j + 1) - (m + 2) + 1 by omega, zeros_succ]
            exact h1
          · rw [pbl_len _ _ _ (by rw [tkl_len _ _ _ _ (by rw [HWL.out, FYl.out])]), FYl.out]
          · exact pbl_lt _ _ _
          · have h1 := Row.step0 (k := j) HQC.out (by simp) (U / K.lv Y)
            simpa using h1
          · intro z hz
            rcases List.mem_cons.1 hz with rfl | hz
            · exact HQB9.out
            · exact hqb z hz
          · rw [HR.out, drop_at HEX.out, K.lv, K.lv]
            exact long_step hval U HU.out
          · exact (hyrow5).far (by show gv ≠ w2.heap.size; omega) _
          · exact (hext5).set' (by show w.heap.size ≤ w2.heap.size; exact Nat.le_trans (hx1.step hx2).size (Nat.le_refl _)) _
        case measure => simp [intOf]
    · rw [show (q + 1).toNat = 0 by omega] at hI
      obtain ⟨rl, ql, hrow, hrl, hrb, hrV, hqrow, hql, hqb, hval, hyrow, hext⟩ := hI
      simp only [List.take_zero, List.nil_append, List.replicate_zero, List.drop_zero, Nat.sub_zero] at hrow hqrow hql hval
      have hdm := div_of hval hrV
      rw [FS.out, FY.out, Nat.mul_div_mul_right _ _ hs0, Nat.mul_mod_mul_right] at hdm
      have hlen : (rl ++ List.replicate (N + 1 - (m + 2)) 0).length = N + 1 := by rw [List.length_append, hrl, List.length_replicate]; omega
      have hlvr : K.lv (rl ++ List.replicate (N + 1 - (m + 2)) 0) = K.lv rl := by rw [K.lv_append, K.lv_zeros]; omega
      have hlb : ∀ z ∈ rl ++ List.replicate (N + 1 - (m + 2)) 0, z < 1000000000 := by
        intro z hz
        rcases List.mem_append.1 hz with h | h
        · exact hrb z h
        · have := List.eq_of_mem_replicate h; omega
      generalize rl ++ List.replicate (N + 1 - (m + 2)) 0 = R at *
      have HDM := hid hdm
      have HLEN := hid hlen
      have HLV := hid hlvr
      have HQL := hid hql
      clear hdm hlen hlvr hval hql hrl hyrow hrow1 hrow2
      go_wp2_with fail
      refine (trimmed _ (N + 1) (N + 1) R _ hrow.rd0 HLEN.out (by omega) (Nat.le_refl _)).mono ?_
      rintro e w3 ⟨k, hk, rfl, hcut, hw3⟩
      have hk2 : k ≤ N + 1 := by rw [← HLEN.out]; exact hk
      have hrd3 : Rd w3 (some ⟨g, 0, none⟩) (U64s (R.take k)) := by
        have h0 := (hrow.rd0).take k
        rw [show (U64s R).take k = U64s (R.take k) by simp [U64s]] at h0
        exact h0.drew hw3
      have hq3 := hqrow.ext hw3.ext
      have hlim := hcut.lim hlb
      have hlv3 := hcut.lv
      have hkl : (R.take k).length = k := by rw [List.length_take]; omega
      have HKL := hid hkl
      have HL3 := hid hlv3
      clear hlv3 hkl hk hcut hlb hrow
      have hlimB := hlim.1
      go_wp2_with fail
      rw [HSQ.out]
      refine (divS_l _ (N + 1) k s (R.take k) w3 hrd3 HKL.out (by omega) hlimB hs0 (by omega)).mono ?_
      rintro e w4 ⟨v4, rfl, hv4, hx4⟩
      rw [HL3.out, HLV.out] at *
      have hq4 := hq3.ext hx4
      go_wp2_with fail
      refine (trimmed _ (N - (m + 2) + 1) (N - (m + 2) + 1) ql _ hq4.rd0 (by rw [HQL.out]) (by omega) (Nat.le_refl _)).mono ?_
      intro e w5 hp
      have hx5 := (hext.step hw3.ext).step hx4
      have hs5 : SumPost (K.lv ql) w e w5 := SumPost.of_trim hq4 hx5 hqb rfl e w5 (by rw [HQL.out]; exact hp)
      have hd5 : Drew w4 w5 := by obtain ⟨_, _, _, _, h⟩ := hp; exact h
      obtain ⟨v5, rfl, hv5, hx6⟩ := hs5
      go_wp2
      go_ret2
      refine ⟨v5, v4, rfl, ?_, ?_, hx6⟩
      · rw [HDM.out.1]; exact hv5
      · have h := hv4.ext hd5.ext
        rwa [← HDM.out.2, Nat.mul_div_cancel _ hs0] at h
end Go.Proofs.YtdbaemadphhhcaaDoor
