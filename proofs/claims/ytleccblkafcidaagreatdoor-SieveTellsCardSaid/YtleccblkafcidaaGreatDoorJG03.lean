/- Joined texts: (natural).divideLong; (natural).divide; numbers with a sign; Contracts of the library, laid over this dump's numbers.; appendLimb, (natural).digits, (number).text; (natural).digits, (number).text, num.write; (number).plus, (number).minus. -/
import Derived.Test.YtleccblkafcidaaGreatDoorJG02
import Derived.Test.YtleccblkafcidaaGreatDoorJG01
import Derived.Deep.RegionHeld3
import Derived.Shelf.Small.Bits
import Derived.Shelf.Small.Wraps
import Derived.Shelf.Strconv.Itoa0
import Derived.Shelf.Strconv.Itoa1
import Derived.Shelf.LaysM
import Derived.Shelf.Strconv.Itoa2
import Derived.Shelf.Strconv.AppendUint10
import Derived.Shelf.Strconv.AppendInt10
import Derived.Shelf.Strings.Prefix
import Derived.Ground.SlsfProg
import Derived.Shelf.SlSortCmp.Insertion
import Derived.Shelf.SlSortCmp.SiftDown1
import Derived.Shelf.SlSortCmp.HeapSort1
import Derived.Shelf.SlSortCmp.Insertion1
import Derived.Shelf.SlSortCmp.Median1
import Derived.Shelf.SlSortCmp.Pivot1
import Derived.Shelf.SlSortCmp.ReverseRange1
import Derived.Shelf.SlSortCmp.PartitionEqual1
import Derived.Test.YtleccblkafcidaaGreatDoorProg
import Derived.Lib.AppendStr
import Derived.Laws.BytesArg
set_option linter.unusedSimpArgs false
set_option linter.unusedVariables false
/- (natural).divideLong -/
namespace Go.Proofs.YtleccblkafcidaaGreatDoor
open Go.RowKit
def ScaleP (s : List Nat) (m : Nat) (w : World) (e : Ending) (w' : World) : Prop := ∃ g, e = .returned (.slice (some ⟨g, 0, none⟩) m m) ∧ w.heap.size ≤ g ∧ Row w' g 160 (U64s s) ∧ Ext w w'
theorem scaled_q (A : Option Addr) (ca n l m : Nat) (lq mq : Int) (xs : List Nat) (w : World) (ha : Rd w A (U64s xs)) (ln : xs.length = n) (hn : n ≤ 1001) (hm : m ≤ 1001) (bx : ∀ x ∈ xs, x < 1000000000) (hl : l < 1000000000) (hlq : lq = l) (hmq : mq = m) :
    Calls Tryz.prog 239 #[.slice A n ca, .int .u64 lq, .int .i64 mq] w (ScaleP (scl xs l m 0) m w) := by
  subst hlq hmq
  refine (scaled_l A ca n l m xs w ha ln hn hm bx hl).mono ?_
  rintro e w' ⟨g, he, h1, h2, h3⟩
  rw [scl_len] at he
  exact ⟨g, he, h1, h2, h3⟩
def DivLPost (q r : Nat) (w : World) (e : Ending) (w' : World) : Prop := ∃ v1 v2, e = .returned (.tuple #[v1, v2]) ∧ NatV w' v1 q ∧ NatV w' v2 r ∧ Ext w w'

/-- what holds at the head of the long division's loop: k digits are still to come -/
def LongInv (S ys : List Nat) (N n g gv gq : Nat) (w : World) (k : Nat) (wr : World) : Prop :=
  ∃ rl ql : List Nat, Row wr g 160 (U64s (S.take k ++ rl ++ List.replicate (N + 1 - k - n) 0)) ∧ rl.length = n ∧ (∀ x ∈ rl, x < 1000000000) ∧ K.lv rl < K.lv ys ∧
    Row wr gq 160 (U64s (List.replicate k 0 ++ ql)) ∧ ql.length = N - n + 1 - k ∧ (∀ x ∈ ql, x < 1000000000) ∧ K.lv (S.drop k) = K.lv ql * K.lv ys + K.lv rl ∧ Row wr gv 160 (U64s ys) ∧ Ext w wr

set_option maxRecDepth 100000 in
set_option maxHeartbeats 3200000 in
theorem divL_l (A B : Option Addr) (ca cb N m t : Nat) (xs ys : List Nat) (w : World) (ha : Rd w A (U64s xs)) (hb : Rd w B (U64s ys)) (ln : xs.length = N) (lm : ys.length = m + 2) (hN : N ≤ 1000) (hmN : m + 2 ≤ N)
    (bx : ∀ x ∈ xs, x < 1000000000) (by_ : ∀ y ∈ ys, y < 1000000000) (ht : ys[m + 1]? = some t) (ht0 : 0 < t) :
    Calls Tryz.prog 225 #[.slice A N ca, .slice B (m + 2) cb] w (DivLPost (K.lv xs / K.lv ys) (K.lv xs % K.lv ys) w) := by
  obtain ⟨b2, o2, t', eB, et, hb2, hyc⟩ := hb.at_ (k := m + 1) (by omega)
  obtain rfl : t' = t := by rw [ht] at et; injection et with et; exact et.symm
  subst eB
  have htB := by_ t' (mem_at ht)
  obtain ⟨hs0, hsB, hst, hsm⟩ := scale_top htB ht0
  have LN := hid ln
  have LM := hid lm
  have BX := hid bx
  have BY := hid by_
  have HT := hid ht
  have HST := hid hst
  have HSM := hid hsm
  have hd0 : ¬ (t' : Int) + 1 = 0 := by omega
  clear bx by_ ln lm ht et hst hsm
  obtain ⟨s, hs⟩ : ∃ s, 1000000000 / (t' + 1) = s := ⟨_, rfl⟩
  have hsq : (1000000000 : Int) / ((t' : Int) + 1) = s := by rw [← hs]; simp
  rw [hs] at hs0 hsB
  have HS := hid hs
  have HSQ := hid hsq
  clear hs hsq
  go_enter Tryz.func225, Tryz.ntmps225
  go_wp2_with fail
  refine (scaled_q A ca N s (N + 1) _ _ xs w ha LN.out (by omega) (by omega) BX.out hsB HSQ.out (by omega)).mono ?_
  rintro e w1 ⟨g, rfl, hg, hrow1, hx1⟩
  go_wp2_with fail
  refine (scaled_q _ cb (m + 2) s (m + 2) _ _ ys w1 (hb.ext hx1) LM.out (by omega) (by omega) BY.out hsB HSQ.out (by omega)).mono ?_
  rintro e w2 ⟨gv, rfl, hgv, hrow2, hx2⟩
  have hglt := hrow1.lt
  have hgvlt := hrow2.lt
  have hmk := fun w => mkNat (N - (m + 2) + 1) ((N : Int) - ((m : Int) + 2) + 1) (by omega) (by omega) w
  obtain ⟨hS, hY, hdr, y0, v2, v1, hYs, hy0, hYm, hYm1, hv1⟩ := scale_facts LN.out LM.out hmN BX.out BY.out HT.out ht0 HS.out
  have hSl := scl_len (N + 1) xs s 0
  have hSb := scl_lt (N + 1) xs s 0
  have hYl := scl_len (m + 2) ys s 0
  have hYb := scl_lt (m + 2) ys s 0
  generalize scl xs s (N + 1) 0 = S at *
  generalize scl ys s (m + 2) 0 = Y at *
  have FS := hid hS
  have FY := hid hY
  have FD := hid hdr
  have FYs := hid hYs
  have Fy0 := hid hy0
  have FYm := hid hYm
  have FYm1 := hid hYm1
  have FSl := hid hSl
  have FSb := hid hSb
  have FYl := hid hYl
  have FYb := hid hYb
  have FV1 := hid hv1
  clear hS hY hdr hYs hy0 hYm hYm1 hSl hSb hYl hYb hv1 ha hb hyc
  go_wp2_with fail
  go_loopw [10] (fun i wr => ∃ q : Int, -1 ≤ q ∧ q ≤ ((N - (m + 2) : Nat) : Int) ∧ i = .int .i64 q ∧ LongInv S Y N (m + 2) g gv w2.heap.size w (q + 1).toNat wr) (fun i _ => (intOf i + 1).toNat)
  case atStart =>
    refine ⟨((N - (m + 2) : Nat) : Int), by omega, by omega, rfl, S.drop (N - (m + 2) + 1), [], ?_, ?_, ?_, ?_, ?_, ?_, by simp, ?_, hrow2.alloc _, (hx1.step hx2).alloc' _⟩
    · rw [show (((N - (m + 2) : Nat) : Int) + 1).toNat = N - (m + 2) + 1 by omega, List.take_append_drop, show N + 1 - (N - (m + 2) + 1) - (m + 2) = 0 by omega]
      rw [List.replicate_zero, List.append_nil]
      exact (hrow1.ext hx2).alloc _
    · rw [List.length_drop, FSl.out]; omega
    · exact fun x hx => FSb.out x (List.mem_of_mem_drop hx)
    · exact FD.out
    · rw [show (((N - (m + 2) : Nat) : Int) + 1).toNat = N - (m + 2) + 1 by omega, List.append_nil, ← U64s_zeros]
      exact Row.made w2 _ _ _
    · simp
    · rw [show (((N - (m + 2) : Nat) : Int) + 1).toNat = N - (m + 2) + 1 by omega]; simp [K.lv]
  case round =>
    obtain ⟨q, hq1, hq2, rfl, hI⟩ := hrel
    clear hmk
    by_cases hq : 0 ≤ q
    · obtain ⟨j, rfl⟩ := Int.eq_ofNat_of_zero_le hq
      rw [show ((j : Int) + 1).toNat = j + 1 by omega] at hI
      obtain ⟨rl, ql, hrow, hrl, hrb, hrV, hqrow, hql, hqb, hval, hyrow, hext⟩ := hI
      obtain ⟨x, ex⟩ : ∃ x, S[j]? = some x := ⟨_, List.getElem?_eq_getElem (by rw [FSl.out]; omega)⟩
      have hxB := FSb.out x (mem_at ex)
      have HEX := hid ex
      obtain ⟨w0, u2, u1, u0, ew, hw0, hu2, hu1, hu0⟩ := split3 (ys := x :: rl) (m := m) (by rw [List.length_cons, hrl])
      have hlo : (S.take j).length = j := by rw [List.length_take, FSl.out]; omega
      have hcells : U64s (S.take (j + 1) ++ rl ++ List.replicate (N + 1 - (j + 1) - (m + 2)) 0) = U64s (S.take j ++ (w0 ++ [u2, u1]) ++ u0 :: List.replicate (N + 1 - (j + 1) - (m + 2)) 0) := by
        rw [List.take_succ_eq_append_getElem (by rw [FSl.out]; omega), show S[j]'(by rw [FSl.out]; omega) = x from (List.getElem?_eq_some_iff.1 ex).2]
        have e2 : S.take j ++ [x] ++ rl = S.take j ++ (w0 ++ [u2, u1]) ++ [u0] := by
          rw [List.append_assoc, List.singleton_append, ew]; simp
        rw [e2]; simp
      rw [hcells] at hrow
      have hwl : (w0 ++ [u2, u1]).length = m + 2 := by simp [hw0]
      have hwb : ∀ z ∈ x :: rl, z < 1000000000 := by
        intro z hz
        rcases List.mem_cons.1 hz with rfl | hz
        · exact hxB
        · exact hrb z hz
      have hwb2 : ∀ z ∈ w0 ++ [u2, u1], z < 1000000000 := fun z hz => hwb z (by rw [ew]; simp at hz ⊢; rcases hz with h | h | h <;> simp [h])
      have b1 : u1 < 1000000000 := hwb2 u1 (by simp)
      have b2 : u2 < 1000000000 := hwb2 u2 (by simp)
      have c0 : wr.cell? ⟨g, j + (m + 2), none⟩ = some (.int .u64 u0) := by rw [hrow.cell]; exact mid_at hlo hwl
      have c1 : wr.cell? ⟨g, j + (m + 1), none⟩ = some (.int .u64 u1) := by
        rw [hrow.cell, show S.take j ++ (w0 ++ [u2, u1]) ++ u0 :: List.replicate (N + 1 - (j + 1) - (m + 2)) 0 = S.take j ++ (w0 ++ [u2]) ++ u1 :: u0 :: List.replicate (N + 1 - (j + 1) - (m + 2)) 0 by simp]
        exact mid_at hlo (by simp [hw0])
      have c2 : wr.cell? ⟨g, j + m, none⟩ = some (.int .u64 u2) := by
        rw [hrow.cell, show S.take j ++ (w0 ++ [u2, u1]) ++ u0 :: List.replicate (N + 1 - (j + 1) - (m + 2)) 0 = S.take j ++ w0 ++ u2 :: u1 :: u0 :: List.replicate (N + 1 - (j + 1) - (m + 2)) 0 by simp]
        exact mid_at hlo hw0
      have d1 : wr.cell? ⟨gv, m + 1, none⟩ = some (.int .u64 v1) := by rw [hyrow.cell]; exact U64s_at FYm1.out
      have d2 : wr.cell? ⟨gv, m, none⟩ = some (.int .u64 v2) := by rw [hyrow.cell]; exact U64s_at FYm.out
      have bv1 := FYb.out v1 (mem_at FYm1.out)
      have bv2 := FYb.out v2 (mem_at FYm.out)
      have hlw0 : K.lv w0 < 1000000000 ^ m := by
        have := K.lv_lt w0 (fun z hz => hwb2 z (List.mem_append_left _ hz))
        rwa [hw0] at this
      have hly0 : K.lv y0 < 1000000000 ^ m := by
        have := K.lv_lt y0 (fun z hz => FYb.out z (by rw [FYs.out]; exact List.mem_append_left _ hz))
        rwa [Fy0.out] at this
      have eV : K.lv Y = K.lv y0 + 1000000000 ^ m * (v2 + 1000000000 * v1) := by rw [FYs.out, K.lv_append, Fy0.out]; simp [K.lv]
      have eU : K.lv (x :: rl) = K.lv w0 + 1000000000 ^ m * (u2 + 1000000000 * (u1 + 1000000000 * u0)) := by rw [ew, K.lv_append, hw0]; simp [K.lv]
      have eU2 : K.lv (x :: rl) = x + 1000000000 * K.lv rl := rfl
      have eUw : K.lv (w0 ++ [u2, u1]) + 1000000000 ^ Y.length * u0 = K.lv (x :: rl) := by
        rw [eU, K.lv_append, hw0, FYl.out, Nat.pow_add, Nat.mul_assoc, Nat.add_assoc, ← Nat.mul_add]
        simp only [K.lv]
        congr 2
        omega
      obtain ⟨U, hU⟩ : ∃ U, K.lv (x :: rl) = U := ⟨_, rfl⟩
      rw [hU] at eU eU2 eUw
      have hUV : U < 1000000000 * K.lv Y := by omega
      obtain ⟨kn1, kn2, kn3, kn4, kn5⟩ := knuth hly0 hlw0 bv2 b1 b2 FV1.out eV eU hUV
      have hVpos : 0 < K.lv Y := by omega
      have hdm : K.lv (w0 ++ [u2, u1]) + 1000000000 ^ Y.length * u0 = U / K.lv Y * K.lv Y + U % K.lv Y := by
        rw [eUw, Nat.mul_comm]; exact (Nat.div_add_mod U _).symm
      have hmodlt := Nat.mod_lt U hVpos
      have HQB9 := hid kn3
      have HVP := hid hVpos
      have HU := hid eU2
      have HLO := hid hlo
      have HWL := hid hwl
      have HWB := hid hwb2
      have HDM := hid hdm
      have HML := hid hmodlt
      have HK5 := hid kn5
      have HQL := hid hql
      have hqcell : wr.cell? ⟨w2.heap.size, j, none⟩ = some (.int .u64 0) := by
        rw [hqrow.cell, List.replicate_succ', List.append_assoc]
        exact U64s_mid0 (by simp)
      have hqfree := hqrow.free j
      have hqlt := hqrow.lt
      rw [List.replicate_succ', List.append_assoc, List.singleton_append] at hqrow
      have hjN : j ≤ 1000 := by omega
      clear hw0 hu0 hu1 hu2 ew hcells hlo hwl hwb hwb2 hlw0 hly0 eV eU eU2 eUw hU hUV hVpos hdm hmodlt ex hql
      go_wp2_with fail
      rw [show j + (m + 2) + 1 - j = m + 3 by omega]
      refine (guess_l g j gv m _ _ u0 u1 u2 v1 v2 (U / K.lv Y) wr (by omega) c0 c1 c2 d1 d2 kn1 b1 b2 bv1 bv2 FV1.out kn2 kn3 kn4).mono ?_
      rintro e w3 ⟨l, left, rfl, hw3, he, hql2, hlB, hexit⟩
      have hle := HK5.out l left he hlB hexit
      have hrow3 := hrow.ext hw3.ext
      have hyrow3 := hyrow.ext hw3.ext
      have hqrow3 := hqrow.ext hw3.ext
      have hext3 := hext.step hw3.ext
      clear he hexit HK5 kn1 kn2 kn3 kn4 kn5 c0 c1 c2 d1 d2
      go_wp2_with fail
      refine (take_l g j gv (m + 2) _ _ u0 l (S.take j) (w0 ++ [u2, u1]) (List.replicate (N + 1 - (j + 1) - (m + 2)) 0) Y w3 hrow3 hyrow3 (by omega) HLO.out HWL.out FYl.out (by omega) (by omega) hlB HWB.out FYb.out).mono ?_
      rintro e w4 ⟨rfl, hrow4, hon4⟩
      have hyrow4 := hyrow3.only hon4 (by omega)
      have hqrow4 := hqrow3.only hon4 (by omega)
      have hext4 := hext3.only hon4 (by omega)
      by_cases hlq : l = U / K.lv Y
      · have hex := step_exact (l := l) (by rw [HWL.out, FYl.out]) HWB.out FYb.out HDM.out HML.out hlq
        rw [decide_eq_false (by omega)]
        have HR := hid hex.2
        have HQC := hid hqrow4
        have hqc : w4.cell? ⟨w2.heap.size, j, none⟩ = some (.int .u64 0) := by rw [hqrow4.cell]; exact U64s_mid0 (by simp)
        have hqf := hqrow4.free j
        have HLQ := hid hlq
        clear hex hqrow4 hqrow3 hqrow hqcell hlq
        go_wp2
        go_roundw
        case rel =>
          refine ⟨(j : Int) - 1, by omega, by omega, rfl, ?_⟩
          rw [show ((j : Int) - 1 + 1).toNat = j by omega]
          refine ⟨tkl (w0 ++ [u2, u1]) Y l 0, l :: ql, ?_, ?_, ?_, by rw [HR.out]; exact Nat.mod_lt _ HVP.out, ?_, by rw [List.length_cons, HQL.out]; omega, ?_, ?_, ?_, ?_⟩
          · have h1 := (hrow4).far (p := ⟨w2.heap.size, j, none⟩) (by show g ≠ w2.heap.size; omega) (.int .u64 (l : Int))
            rw [List.append_assoc] at h1 ⊢
            rw [show N + 1 - j - (m + 2) = N + 1 - (j + 1) - (m + 2) + 1 by omega, zeros_succ]
            exact h1
          · rw [tkl_len _ _ _ _ (by rw [HWL.out, FYl.out]), FYl.out]
          · exact tkl_lt _ _ _ _ HWB.out
          · have h1 := Row.step0 (k := j) HQC.out (by simp) l
            simpa using h1
          · intro z hz
            rcases List.mem_cons.1 hz with rfl | hz
            · rw [HLQ.out]; exact HQB9.out
            · exact hqb z hz
          · rw [HR.out, drop_at HEX.out, K.lv, K.lv, HLQ.out]
            exact long_step hval U HU.out
          · exact (hyrow4).far (by show gv ≠ w2.heap.size; omega) _
          · exact (hext4).set' (by show w.heap.size ≤ w2.heap.size; exact Nat.le_trans (hx1.step hx2).size (Nat.le_refl _)) _
        case measure => simp [intOf]
      · have hlq1 : l = U / K.lv Y + 1 := by omega
        have hov := step_over (l := l) (by rw [HWL.out, FYl.out]) HWB.out FYb.out HDM.out HML.out hlq1
        rw [decide_eq_true hov.1]
        have HR := hid hov.2
        have hl1 : 1 ≤ l := by rw [hlq1]; exact Nat.le_add_left 1 _
        have HLQ := hid hlq1
        clear hov hlq hqcell hlq1
        go_wp2_with fail
        refine (put_l g j gv (m + 2) (m + 3) _ _ (S.take j) (tkl (w0 ++ [u2, u1]) Y l 0) (0 :: List.replicate (N + 1 - (j + 1) - (m + 2)) 0) Y w4 hrow4 hyrow4 (by omega) HLO.out (by rw [tkl_len _ _ _ _ (by rw [HWL.out, FYl.out]), FYl.out]) FYl.out (by omega) (by omega) (by omega) (tkl_lt _ _ _ _ HWB.out) FYb.out).mono ?_
        rintro e w5 ⟨rfl, hrow5, hon5⟩
        have hyrow5 := hyrow4.only hon5 (by omega)
        have hqrow5 := hqrow4.only hon5 (by omega)
        have hext5 := hext4.only hon5 (by omega)
        have HQC := hid hqrow5
        have hqc : w5.cell? ⟨w2.heap.size, j, none⟩ = some (.int .u64 0) := by rw [hqrow5.cell]; exact U64s_mid0 (by simp)
        have hqf := hqrow5.free j
        clear hqrow5 hqrow4 hqrow3 hqrow
        go_wp2
        go_roundw
        case rel =>
          have hlv : (l : Int) - 1 = ((U / K.lv Y : Nat) : Int) := by rw [HLQ.out, Int.natCast_add]; exact Int.add_sub_cancel _ _
          rw [hlv]
          refine ⟨(j : Int) - 1, by omega, by omega, rfl, ?_⟩
          rw [show ((j : Int) - 1 + 1).toNat = j by omega]
          refine ⟨pbl (tkl (w0 ++ [u2, u1]) Y l 0) Y 0, (U / K.lv Y) :: ql, ?_, ?_, ?_, by rw [HR.out]; exact Nat.mod_lt _ HVP.out, ?_, by rw [List.length_cons, HQL.out]; omega, ?_, ?_, ?_, ?_⟩
          · have h1 := (hrow5).far (p := ⟨w2.heap.size, j, none⟩) (by show g ≠ w2.heap.size; omega) (.int .u64 ((U / K.lv Y : Nat) : Int))
            rw [List.append_assoc] at h1 ⊢
            rw [show N + 1 - j - (m + 2) = N + 1 - (j + 1) - (m + 2) + 1 by omega, zeros_succ]
            exact h1
          · rw [pbl_len _ _ _ (by rw [tkl_len _ _ _ _ (by rw [HWL.out, FYl.out])]), FYl.out]
          · exact pbl_lt _ _ _
          · have h1 := Row.step0 (k := j) HQC.out (by simp) (U / K.lv Y)
            simpa using h1
          · intro z hz
            rcases List.mem_cons.1 hz with rfl | hz
            · exact HQB9.out
            · exact hqb z hz
          · rw [HR.out, drop_at HEX.out, K.lv, K.lv]
            exact long_step hval U HU.out
          · exact (hyrow5).far (by show gv ≠ w2.heap.size; omega) _
          · exact (hext5).set' (by show w.heap.size ≤ w2.heap.size; exact Nat.le_trans (hx1.step hx2).size (Nat.le_refl _)) _
        case measure => simp [intOf]
    · rw [show (q + 1).toNat = 0 by omega] at hI
      obtain ⟨rl, ql, hrow, hrl, hrb, hrV, hqrow, hql, hqb, hval, hyrow, hext⟩ := hI
      simp only [List.take_zero, List.nil_append, List.replicate_zero, List.drop_zero, Nat.sub_zero] at hrow hqrow hql hval
      have hdm := div_of hval hrV
      rw [FS.out, FY.out, Nat.mul_div_mul_right _ _ hs0, Nat.mul_mod_mul_right] at hdm
      have hlen : (rl ++ List.replicate (N + 1 - (m + 2)) 0).length = N + 1 := by rw [List.length_append, hrl, List.length_replicate]; omega
      have hlvr : K.lv (rl ++ List.replicate (N + 1 - (m + 2)) 0) = K.lv rl := by rw [K.lv_append, K.lv_zeros]; omega
      have hlb : ∀ z ∈ rl ++ List.replicate (N + 1 - (m + 2)) 0, z < 1000000000 := by
        intro z hz
        rcases List.mem_append.1 hz with h | h
        · exact hrb z h
        · have := List.eq_of_mem_replicate h; omega
      generalize rl ++ List.replicate (N + 1 - (m + 2)) 0 = R at *
      have HDM := hid hdm
      have HLEN := hid hlen
      have HLV := hid hlvr
      have HQL := hid hql
      clear hdm hlen hlvr hval hql hrl hyrow hrow1 hrow2
      go_wp2_with fail
      refine (trimmed _ (N + 1) (N + 1) R _ hrow.rd0 HLEN.out (by omega) (Nat.le_refl _)).mono ?_
      rintro e w3 ⟨k, hk, rfl, hcut, hw3⟩
      have hk2 : k ≤ N + 1 := by rw [← HLEN.out]; exact hk
      have hrd3 : Rd w3 (some ⟨g, 0, none⟩) (U64s (R.take k)) := by
        have h0 := (hrow.rd0).take k
        rw [show (U64s R).take k = U64s (R.take k) by simp [U64s]] at h0
        exact h0.drew hw3
      have hq3 := hqrow.ext hw3.ext
      have hlim := hcut.lim hlb
      have hlv3 := hcut.lv
      have hkl : (R.take k).length = k := by rw [List.length_take]; omega
      have HKL := hid hkl
      have HL3 := hid hlv3
      clear hlv3 hkl hk hcut hlb hrow
      have hlimB := hlim.1
      go_wp2_with fail
      rw [HSQ.out]
      refine (divS_l _ (N + 1) k s (R.take k) w3 hrd3 HKL.out (by omega) hlimB hs0 (by omega)).mono ?_
      rintro e w4 ⟨v4, rfl, hv4, hx4⟩
      rw [HL3.out, HLV.out] at *
      have hq4 := hq3.ext hx4
      go_wp2_with fail
      refine (trimmed _ (N - (m + 2) + 1) (N - (m + 2) + 1) ql _ hq4.rd0 (by rw [HQL.out]) (by omega) (Nat.le_refl _)).mono ?_
      intro e w5 hp
      have hx5 := (hext.step hw3.ext).step hx4
      have hs5 : SumPost (K.lv ql) w e w5 := SumPost.of_trim hq4 hx5 hqb rfl e w5 (by rw [HQL.out]; exact hp)
      have hd5 : Drew w4 w5 := by obtain ⟨_, _, _, _, h⟩ := hp; exact h
      obtain ⟨v5, rfl, hv5, hx6⟩ := hs5
      go_wp2
      go_ret2
      refine ⟨v5, v4, rfl, ?_, ?_, hx6⟩
      · rw [HDM.out.1]; exact hv5
      · have h := hv4.ext hd5.ext
        rwa [← HDM.out.2, Nat.mul_div_cancel _ hs0] at h
end Go.Proofs.YtleccblkafcidaaGreatDoor
/- (natural).divide -/
namespace Go.Proofs.YtleccblkafcidaaGreatDoor
open Go.RowKit
theorem NatV.zero (w : World) : NatV w (.slice none 0 0) 0 := ⟨none, 0, 0, [], rfl, rfl, Nat.le_refl _, Rd.nil _ _, K.Lim.nil, rfl⟩
set_option maxRecDepth 100000 in
set_option maxHeartbeats 1600000 in
theorem div_any (va vb : Value) (a b : Nat) (w : World) (ha : NatV w va a) (hb : NatV w vb b) (la : a ≤ BIG) (lb : b ≤ BIG) (h0 : 0 < b) :
    Calls Tryz.prog 199 #[va, vb] w (DivLPost (a / b) (a % b) w) := by
  by_cases hab : a < b
  · go_enter Tryz.func199, Tryz.ntmps199
    go_wp2_with fail
    refine (natCmp_any va vb a b w ha hb la lb).mono ?_
    rintro e w1 ⟨rfl, hw1⟩
    rw [show sgn a b = -1 by unfold sgn; rw [if_pos hab]]
    have hq : a / b = 0 := Nat.div_eq_of_lt hab
    have hr : a % b = a := Nat.mod_eq_of_lt hab
    have HQ := hid hq
    have HR := hid hr
    clear hq hr
    go_wp2
    go_ret2
    exact ⟨_, _, rfl, by rw [HQ.out]; exact NatV.zero _, by rw [HR.out]; exact ha.ext hw1.ext, hw1.ext⟩
  · obtain ⟨A, n, ca, xs, hva, h2, h3, h4, h5, h6⟩ := ha
    obtain ⟨B, m, cb, ys, hvb, k2, k3, k4, k5, k6⟩ := hb
    have hn := len_of_big h5 (by omega)
    have hm := len_of_big k5 (by omega)
    have hn' : n ≤ 1000 := by omega
    have hmn : m ≤ n := by
      have := len_of_lt k5 xs.length (by have := K.lv_lt xs h5.1; omega)
      omega
    have hm0 : m ≠ 0 := by
      intro e; subst e
      have : ys = [] := List.eq_nil_of_length_eq_zero k2
      subst this
      simp [K.lv] at k6; omega
    have hcmp := natCmp_any va vb a b w ⟨A, n, ca, xs, hva, h2, h3, h4, h5, h6⟩ ⟨B, m, cb, ys, hvb, k2, k3, k4, k5, k6⟩ la lb
    have hsg : 0 ≤ sgn a b := by unfold sgn; rw [if_neg hab]; split <;> omega
    have HC := hid hcmp
    clear hcmp
    subst hva hvb
    by_cases hm1 : m = 1
    · subst hm1
      obtain ⟨b1, o1, x, eB, ey, hb1, hy⟩ := k4.at_ (k := 0) (by omega)
      subst eB
      have hx : ys = [x] := by
        match ys, k2, ey with
        | [y], _, ey => simp at ey; rw [ey]
      have hbx : b = x := by rw [← k6, hx]; simp [K.lv]
      have hxB := k5.1 x (mem_at ey)
      subst hbx
      have hvA : NatV w (.slice A n ca) a := ⟨A, n, ca, xs, rfl, h2, h3, h4, h5, h6⟩
      clear h2 h6 k2 k6 ey hx k4 k5 k3 hn hm h4 h5 h3 hmn hm0 hn'
      have hU : U64s [a % b] = [.int .u64 ((a : Int) % (b : Int))] := by simp [U64s]
      have HU := hid hU
      have HXB := hid hxB
      clear hU hxB
      go_enter Tryz.func199, Tryz.ntmps199
      go_wp2_with fail
      refine HC.out.mono ?_
      rintro e w1 ⟨rfl, hw1⟩
      have hy1 : w1.cell? ⟨b1, o1 + 0, none⟩ = some (.int .u64 (b : Int)) := by obtain ⟨_, rfl⟩ := hw1; exact hy
      have hy2 : w1.cell? ⟨b1, o1, none⟩ = some (.int .u64 (b : Int)) := hy1
      clear hy1 hy
      go_wp2_with fail
      refine (divS_any _ a b w1 (hvA.ext hw1.ext) la h0 (by have := HXB.out; omega)).mono ?_
      rintro e w2 ⟨v2, rfl, hv2, hx2⟩
      have hmod : a % b < 1000000000 := Nat.lt_trans (Nat.mod_lt _ h0) HXB.out
      have HML := hid hmod
      clear hmod hab la lb
      go_wp2_with fail
      have hrow : Row (w2.alloc (.cells #[.int .u64 ((a : Int) % (b : Int))] 160)) w2.heap.size 160 (U64s [a % b]) := by rw [HU.out]; exact Row.new w2 _ _
      refine (trimmed (some ⟨w2.heap.size, 0, none⟩) 1 1 [a % b] _ (Row.rd0 hrow) rfl (by omega) (by omega)).mono ?_
      rintro e w3 ⟨k, hk, rfl, hcut, hw3⟩
      have hE : Ext w w3 := ((hw1.ext.step hx2).alloc' _).step hw3.ext
      have hv3 : NatV w3 v2 (a / b) := hv2.ext (((Ext.rfl' w2).alloc' _).step hw3.ext)
      have hlim := hcut.lim (by intro z hz; rw [List.mem_singleton.1 hz]; exact HML.out)
      have hlv := hcut.lv
      have hk1 : k ≤ 1 := hk
      have HLV := hid hlv
      have HCU := hid hcut
      clear hlv hcut hk
      go_wp2
      go_ret2
      refine ⟨v2, _, rfl, hv3, ⟨_, k, 1, [a % b].take k, rfl, by rw [List.length_take, List.length_singleton]; omega, hk1, ?_, hlim, by rw [HLV.out]; simp [K.lv]⟩, hE⟩
      have h0 := (Row.rd0 hrow).take k
      rw [show (U64s [a % b]).take k = U64s ([a % b].take k) from (List.map_take ..).symm] at h0
      exact h0.ext hw3.ext
    · obtain ⟨m', rfl⟩ : ∃ m', m = m' + 2 := ⟨m - 2, by omega⟩
      obtain ⟨t, ht⟩ : ∃ t, ys[m' + 1]? = some t := ⟨_, List.getElem?_eq_getElem (by omega)⟩
      have ht0 : 0 < t := by
        have h := k5.2
        rw [List.getLast?_eq_getElem?, k2, show m' + 2 - 1 = m' + 1 by omega, ht] at h
        rcases Nat.eq_zero_or_pos t with e | e
        · subst e; exact absurd rfl h
        · exact e
      have HA := hid h2
      have HV := hid h6
      have HB := hid k2
      have HW := hid k6
      have HT := hid ht
      clear h2 h6 k2 k6 ht
      go_enter Tryz.func199, Tryz.ntmps199
      go_wp2_with fail
      refine HC.out.mono ?_
      rintro e w1 ⟨rfl, hw1⟩
      go_wp2_with fail
      refine (divL_l A B ca cb n m' t xs ys w1 (h4.drew hw1) (k4.drew hw1) HA.out HB.out (by omega) hmn h5.1 k5.1 HT.out ht0).mono ?_
      rintro e w2 ⟨v1, v2, rfl, hv1, hv2, hx2⟩
      rw [HV.out, HW.out] at *
      go_wp2
      go_ret2
      exact ⟨v1, v2, rfl, hv1, hv2, hw1.ext.step hx2⟩
end Go.Proofs.YtleccblkafcidaaGreatDoor
/- numbers with a sign -/
namespace Go.Proofs.YtleccblkafcidaaGreatDoor
open Go.RowKit
/-- an integer in memory -/
def NumV (w : World) (v : Value) (n : Int) : Prop := ∃ sz b, v = .agg #[.bool b, sz] ∧ Hid (b = decide (n < 0)) ∧ NatV w sz n.natAbs
theorem NumV.ext {w w' : World} {v : Value} {n : Int} (h : NumV w v n) (e : Ext w w') : NumV w' v n := by
  obtain ⟨sz, b, h1, hb, h2⟩ := h
  exact ⟨sz, b, h1, hb, h2.ext e⟩
def NumPost (n : Int) (w : World) (e : Ending) (w' : World) : Prop := ∃ v, e = .returned v ∧ NumV w' v n ∧ Ext w w'
theorem NatV.len_zero {w : World} {A : Option Addr} {k c m : Nat} (h : NatV w (.slice A k c) m) : (0 < k) ↔ 0 < m := by
  obtain ⟨A', k', c', xs, hv, hl, _, _, hL, hm⟩ := h
  injection hv with _ hk _
  subst hk hm
  have := hL.zero_iff
  rcases Nat.eq_zero_or_pos k with h0 | h0
  · have : xs = [] := List.eq_nil_of_length_eq_zero (by omega)
    subst this; simp [K.lv]; omega
  · have : xs ≠ [] := by intro e; subst e; simp at hl; omega
    have := hL.pos this
    omega
set_option maxHeartbeats 800000 in
theorem signed_any (neg : Bool) (va : Value) (a : Nat) (w : World) (ha : NatV w va a) (n : Int) (hn : n.natAbs = a) (hs : (neg && decide (0 < a)) = decide (n < 0)) :
    Calls Tryz.prog 202 #[.bool neg, va] w (NumPost n w) := by
  have ha0 := ha
  obtain ⟨A, k, c, xs, rfl, h2, h3, h4, h5, h6⟩ := ha
  have hk := ha0.len_zero
  have HS := hid hs
  have HK := hid hk
  have HN := hid hn
  clear hs hk h2 h3 h4 h5 h6 hn
  have hfin : ∀ w' b, Ext w w' → b = decide (n < 0) → NumPost n w (.returned (.agg #[.bool b, .slice A k c])) w' := fun w' b e hb => ⟨_, rfl, ⟨.slice A k c, b, rfl, hid hb, by rw [HN.out]; exact ha0.ext e⟩, e⟩
  cases neg with
  | false =>
    go_enter Tryz.func202, Tryz.ntmps202
    go_wp2
    refine bodyPost_ret (v := .agg #[.bool false, .slice A k c]) (by simp [results, Tryz.results202, go_sem]) rfl (hfin _ _ ?_ (by rw [← HS.out]; rfl))
    exact (Ext.rfl' w).alloc' _
  | true =>
    by_cases hk0 : 0 < k
    · go_enter Tryz.func202, Tryz.ntmps202
      go_wp2
      refine bodyPost_ret (v := .agg #[.bool true, .slice A k c]) (by simp [results, Tryz.results202, go_sem]) rfl (hfin _ _ ?_ (by rw [← HS.out]; simp [HK.out.1 hk0]))
      exact (Ext.rfl' w).alloc' _
    · have h0 : ¬ 0 < a := fun h => hk0 (HK.out.2 h)
      go_enter Tryz.func202, Tryz.ntmps202
      go_wp2
      refine bodyPost_ret (v := .agg #[.bool false, .slice A k c]) (by simp [results, Tryz.results202, go_sem]) rfl (hfin _ _ ?_ (by rw [← HS.out]; simp [h0]))
      exact (Ext.rfl' w).alloc' _
/-- a block of two cells of the call's own, behind a call -/
theorem two_facts {W w' : World} {a b : Value} {t : TypeId} {H : Nat} (e : Ext (W.alloc (.cells #[a, b] t)) w') (hH : W.heap.size = H) :
    w'.cell? ⟨H, 0, none⟩ = some a ∧ w'.cell? ⟨H, 1, none⟩ = some b ∧ w'.frozen? ⟨H, 0, none⟩ = false ∧ w'.frozen? ⟨H, 1, none⟩ = false ∧ H < w'.heap.size ∧ Row w' H t [a, b] := by
  subst hH
  have h : Row w' W.heap.size t [a, b] := (Row.new W t [a, b]).ext e
  exact ⟨by rw [h.cell]; rfl, by rw [h.cell]; rfl, h.free 0, h.free 1, h.lt, h⟩
theorem NatV.slice {w : World} {v : Value} {n : Nat} (h : NatV w v n) : ∃ A k c, v = .slice A k c := by
  obtain ⟨A, k, c, _, rfl, _⟩ := h
  exact ⟨A, k, c, rfl⟩
/-- a row of numbers stands while a block that holds none is written -/
theorem Rd.two {w : World} {A A1 : Option Addr} {vs : List Value} {H k1 c1 : Nat} {t : TypeId} {x : Bool} {a b : Value} (h : Rd w A vs) (hv : ∀ u ∈ vs, ∃ k q, u = .int k q)
    (r : Row w H t [.bool x, .slice A1 k1 c1]) : Rd ((w.setCell ⟨H, 0, none⟩ a).setCell ⟨H, 1, none⟩ b) A vs := by
  rcases h with h | ⟨b1, o, hA, hb, hc⟩
  · exact .inl h
  · by_cases hH : b1 = H
    · subst hH
      refine .inl ?_
      cases vs with
      | nil => rfl
      | cons u vs =>
        exfalso
        have h0 := hc 0 u rfl
        obtain ⟨k, q, rfl⟩ := hv u (List.mem_cons_self ..)
        rw [r.cell] at h0
        match o, h0 with
        | 0, h0 => simp at h0
        | 1, h0 => simp at h0
        | o + 2, h0 => simp at h0
    · refine .inr ⟨b1, o, hA, by simpa [World.setCell] using hb, fun j u hu => ?_⟩
      rw [World.cell?_of_block (Below.heap_setCell _ _ _ _ (by exact hH)), World.cell?_of_block (Below.heap_setCell _ _ _ _ (by exact hH))]
      exact hc j u hu
theorem NatV.two {w : World} {v : Value} {n : Nat} {A1 : Option Addr} {H k1 c1 : Nat} {t : TypeId} {x : Bool} {a b : Value} (h : NatV w v n) (r : Row w H t [.bool x, .slice A1 k1 c1]) :
    NatV ((w.setCell ⟨H, 0, none⟩ a).setCell ⟨H, 1, none⟩ b) v n := by
  obtain ⟨A, k, c, xs, h1, h2, h3, h4, h5⟩ := h
  exact ⟨A, k, c, xs, h1, h2, h3, h4.two (by intro u hu; obtain ⟨y, _, rfl⟩ := List.mem_map.1 hu; exact ⟨_, _, rfl⟩) r, h5⟩
/-- a number is stored into the result's cells -/
theorem NumPost.stored {w W w3 : World} {n : Int} {A3 : Option Addr} {k3 c3 H : Nat} {t : TypeId} (hx : Ext (W.alloc (.cells #[.bool false, .slice none 0 0] t)) w3) (hW : Ext w W) (hH : W.heap.size = H)
    (hz : NatV w3 (.slice A3 k3 c3) n.natAbs) (b : Bool) (hb : b = decide (n < 0)) :
    NumPost n w (.returned (.agg #[.bool b, .slice A3 k3 c3])) ((w3.setCell ⟨H, 0, none⟩ (.bool b)).setCell ⟨H, 1, none⟩ (.slice A3 k3 c3)) := by
  have r := (two_facts hx hH).2.2.2.2.2
  have hs := hW.size
  refine ⟨_, rfl, ⟨.slice A3 k3 c3, b, rfl, hid hb, hz.two r⟩, ((hW.alloc' _).step hx).set' (by show _ ≤ H; omega) _ |>.set' (by show _ ≤ H; omega) _⟩
set_option maxHeartbeats 800000 in
theorem opposite_any (v : Value) (n : Int) (w : World) (h : NumV w v n) : Calls Tryz.prog 198 #[v] w (NumPost (-n) w) := by
  obtain ⟨sz, b, rfl, hbn, hz⟩ := h
  obtain ⟨A, k, c, rfl⟩ := hz.slice
  go_enter Tryz.func198, Tryz.ntmps198
  go_wp2_with fail
  refine (signed_any (!b) _ n.natAbs _ (hz.ext (((Ext.rfl' w).alloc' _).alloc' _)) (-n) (by omega) (by
    rw [hbn.out, Bool.eq_iff_iff]; simp; omega)).mono ?_
  rintro e w3 ⟨v3, rfl, ⟨sz3, b3, rfl, hb3, hz3⟩, hx3⟩
  obtain ⟨A3, k3, c3', rfl⟩ := hz3.slice
  obtain ⟨c0, c1, f0, f1, hl, _⟩ := two_facts (H := w.heap.size + 1) hx3 (by simp)
  have hfin := NumPost.stored hx3 ((Ext.rfl' w).alloc' _) (H := w.heap.size + 1) (by simp) hz3 b3 hb3.out
  have HF := hid hfin
  clear hfin hz3 hx3
  go_wp2
  refine bodyPost_ret (v := .agg #[.bool b3, .slice A3 k3 c3']) (by simp [results, Tryz.results198, go_sem, c0, c1]) rfl ?_
  exact HF.out
end Go.Proofs.YtleccblkafcidaaGreatDoor
/- Contracts of the library, laid over this dump's numbers. -/
namespace Go.Proofs.YtleccblkafcidaaGreatDoor.Shelf
open Go.Shelf Go.Proofs
def l_lays125_ren : Go.Shelf.Ren := ⟨fun | 125 => 134 | 128 => 174 | 129 => 175 | n => n, fun | 46 => 182 | 3 => 3 | 51 => 222 | 53 => 160 | 4 => 4 | 5 => 5 | 9 => 9 | n => n, fun | n => n⟩
theorem l_lays125 : Go.Proofs.Lays.n125 Tryz.prog l_lays125_ren := {
  mixed := by kernel_rfl
  f125 := Tryz.func134.trans (congrArg some (by kernel_rfl))
  f128 := Tryz.func174.trans (congrArg some (by kernel_rfl))
  f129 := Tryz.func175.trans (congrArg some (by kernel_rfl))
  t3 := Tryz.underlying3
  a3 := Tryz.isAgg3
  z3 := Tryz.sizeOf3
  v3 := Tryz.zeroValue3
  t4 := Tryz.underlying4
  a4 := Tryz.isAgg4
  z4 := Tryz.sizeOf4
  v4 := Tryz.zeroValue4
  t5 := Tryz.underlying5
  a5 := Tryz.isAgg5
  z5 := Tryz.sizeOf5
  v5 := Tryz.zeroValue5
  t9 := Tryz.underlying9
  a9 := Tryz.isAgg9
  z9 := Tryz.sizeOf9
  v9 := Tryz.zeroValue9
  t46 := Tryz.underlying182
  a46 := Tryz.isAgg182
  z46 := Tryz.sizeOf182
  v46 := Tryz.zeroValue182
  t51 := Tryz.underlying222
  a51 := Tryz.isAgg222
  z51 := Tryz.sizeOf222
  v51 := Tryz.zeroValue222
  t53 := Tryz.underlying160
  a53 := Tryz.isAgg160
  z53 := Tryz.sizeOf160
  v53 := Tryz.zeroValue160 }
theorem l_bits_Len (x : Int) (w : World) (h0 : 0 ≤ x) (h1 : x ≤ 18446744073709551615) :
    Calls Tryz.prog 134 #[.int .u64 x] w fun e w' => e = .returned (.int .i64 (Lib.bitLen x.toNat)) ∧ w' = w := Any.bits_Len l_lays125 x w h0 h1
def l_lays103_ren : Go.Shelf.Ren := ⟨fun | 103 => 120 | 210 => 153 | 206 => 193 | n => n, fun | 9 => 9 | 4 => 4 | 24 => 166 | 3 => 3 | n => n, fun | n => n⟩
theorem l_lays103 : Go.Proofs.Lays.n103 Tryz.prog l_lays103_ren := {
  mixed := by kernel_rfl
  f103 := Tryz.func120.trans (congrArg some (by kernel_rfl))
  f206 := Tryz.func193.trans (congrArg some (by kernel_rfl))
  f210 := Tryz.func153.trans (congrArg some (by kernel_rfl))
  t3 := Tryz.underlying3
  a3 := Tryz.isAgg3
  z3 := Tryz.sizeOf3
  v3 := Tryz.zeroValue3
  t4 := Tryz.underlying4
  a4 := Tryz.isAgg4
  z4 := Tryz.sizeOf4
  v4 := Tryz.zeroValue4
  t9 := Tryz.underlying9
  a9 := Tryz.isAgg9
  z9 := Tryz.sizeOf9
  v9 := Tryz.zeroValue9
  t24 := Tryz.underlying166
  a24 := Tryz.isAgg166
  z24 := Tryz.sizeOf166
  v24 := Tryz.zeroValue166 }
open Go.RowKit in
theorem l_strings_CutPrefix (s p : ByteArray) (w : World) :
    Calls Tryz.prog 120 #[.string s, .string p] w fun e w' => e = .returned (.tuple #[.string ⟨(Lib.trimPrefix s.data.toList p.data.toList).toArray⟩, .bool (Lib.hasPrefix s.data.toList p.data.toList)]) ∧ w' = w := Any.strings_CutPrefix l_lays103 s p w
def l_laysM288_ren : Go.Shelf.Ren := ⟨fun | 288 => 243 | 283 => 214 | 284 => 215 | 285 => 216 | 286 => 217 | 129 => 175 | 317 => 232 | 318 => 233 | 319 => 234 | 320 => 235 | 337 => 247 | 338 => 248 | n => n, fun | 37 => 141 | 53 => 160 | 3 => 3 | 4 => 4 | 9 => 9 | 171 => 253 | 0 => 0 | 173 => 255 | 212 => 268 | 51 => 222 | 5 => 5 | 20 => 20 | 213 => 269 | 46 => 182 | 232 => 286 | 233 => 287 | n => n, fun | 17 => 0 | 18 => 1 | 19 => 2 | n => n⟩
theorem l_laysM288 : Go.Proofs.LaysM.n288 Tryz.prog l_laysM288_ren := {
  mixed := by kernel_rfl
  f129 := Tryz.func175.trans (congrArg some (by kernel_rfl))
  f283 := Tryz.func214.trans (congrArg some (by kernel_rfl))
  f284 := Tryz.func215.trans (congrArg some (by kernel_rfl))
  f285 := Tryz.func216.trans (congrArg some (by kernel_rfl))
  f286 := Tryz.func217.trans (congrArg some (by kernel_rfl))
  f288 := Tryz.func243.trans (congrArg some (by kernel_rfl))
  f317 := Tryz.func232.trans (congrArg some (by kernel_rfl))
  f318 := Tryz.func233.trans (congrArg some (by kernel_rfl))
  f319 := Tryz.func234.trans (congrArg some (by kernel_rfl))
  f320 := Tryz.func235.trans (congrArg some (by kernel_rfl))
  f337 := Tryz.func247.trans (congrArg some (by kernel_rfl))
  f338 := Tryz.func248.trans (congrArg some (by kernel_rfl))
  t0 := Tryz.underlying0
  a0 := Tryz.isAgg0
  z0 := Tryz.sizeOf0
  v0 := Tryz.zeroValue0
  t3 := Tryz.underlying3
  a3 := Tryz.isAgg3
  z3 := Tryz.sizeOf3
  v3 := Tryz.zeroValue3
  t4 := Tryz.underlying4
  a4 := Tryz.isAgg4
  z4 := Tryz.sizeOf4
  v4 := Tryz.zeroValue4
  t5 := Tryz.underlying5
  a5 := Tryz.isAgg5
  z5 := Tryz.sizeOf5
  v5 := Tryz.zeroValue5
  t9 := Tryz.underlying9
  a9 := Tryz.isAgg9
  z9 := Tryz.sizeOf9
  v9 := Tryz.zeroValue9
  t20 := Tryz.underlying20
  a20 := Tryz.isAgg20
  z20 := Tryz.sizeOf20
  v20 := Tryz.zeroValue20
  t37 := Tryz.underlying141
  a37 := Tryz.isAgg141
  z37 := Tryz.sizeOf141
  v37 := Tryz.zeroValue141
  t46 := Tryz.underlying182
  a46 := Tryz.isAgg182
  z46 := Tryz.sizeOf182
  v46 := Tryz.zeroValue182
  t51 := Tryz.underlying222
  a51 := Tryz.isAgg222
  z51 := Tryz.sizeOf222
  v51 := Tryz.zeroValue222
  t53 := Tryz.underlying160
  a53 := Tryz.isAgg160
  z53 := Tryz.sizeOf160
  v53 := Tryz.zeroValue160
  t171 := Tryz.underlying253
  a171 := Tryz.isAgg253
  z171 := Tryz.sizeOf253
  v171 := Tryz.zeroValue253
  t173 := Tryz.underlying255
  a173 := Tryz.isAgg255
  z173 := Tryz.sizeOf255
  v173 := Tryz.zeroValue255
  t212 := Tryz.underlying268
  a212 := Tryz.isAgg268
  z212 := Tryz.sizeOf268
  v212 := Tryz.zeroValue268
  t213 := Tryz.underlying269
  a213 := Tryz.isAgg269
  z213 := Tryz.sizeOf269
  t232 := Tryz.underlying286
  a232 := Tryz.isAgg286
  z232 := Tryz.sizeOf286
  v232 := Tryz.zeroValue286
  t233 := Tryz.underlying287
  a233 := Tryz.isAgg287
  z233 := Tryz.sizeOf287
  v233 := Tryz.zeroValue287
  g17 := by kernel_rfl
  g18 := by kernel_rfl
  g19 := by kernel_rfl
  i0 := by kernel_rfl
  i3 := by kernel_rfl
  i4 := by kernel_rfl
  i5 := by kernel_rfl
  i9 := by kernel_rfl
  i20 := by kernel_rfl
  i37 := by kernel_rfl
  i46 := by kernel_rfl
  i51 := by kernel_rfl
  i53 := by kernel_rfl
  i171 := by kernel_rfl
  i173 := by kernel_rfl
  i212 := by kernel_rfl
  i232 := by kernel_rfl
  i233 := by kernel_rfl
  m17 := by kernel_rfl
  m18 := by kernel_rfl
  m19 := by kernel_rfl }
open Go.RowKit Go.Sort Go.Lib in
theorem l_internal_strconv_AppendUint_10 (B n u : Nat) (hu64 : u < 18446744073709551616) (sv : Value) (xs : List Value) (w : World) (hown : w.ownsRow B 5 1 sv n xs) (hBw : B ≤ w.heap.size) (hlim : n + 20 ≤ 140737488355328) (htab : Lib.TabIs Tryz.prog w "internal/strconv.uint64pow10" .u64 Lib.pow10Tab) :
    Calls Tryz.prog 243 #[sv, .int .u64 u, .int .i64 10] w fun e w' => ∃ v', e = .returned v' ∧ w'.ownsRow B 5 1 v' (n + (Lib.decDigits u).length) (xs ++ Lib.byteCells (Lib.decDigits u)) ∧ Below B w w' ∧ Lib.OthersKept 5 none w w' := Any.internal_strconv_AppendUint_10 l_laysM288 B n u hu64 sv xs w hown hBw hlim htab
def l_lays101_ren : Go.Shelf.Ren := ⟨fun | 101 => 115 | 208 => 142 | 206 => 193 | n => n, fun | 9 => 9 | 4 => 4 | 3 => 3 | n => n, fun | n => n⟩
theorem l_lays101 : Go.Proofs.Lays.n101 Tryz.prog l_lays101_ren := {
  mixed := by kernel_rfl
  f101 := Tryz.func115.trans (congrArg some (by kernel_rfl))
  f206 := Tryz.func193.trans (congrArg some (by kernel_rfl))
  f208 := Tryz.func142.trans (congrArg some (by kernel_rfl))
  t3 := Tryz.underlying3
  a3 := Tryz.isAgg3
  z3 := Tryz.sizeOf3
  v3 := Tryz.zeroValue3
  t4 := Tryz.underlying4
  a4 := Tryz.isAgg4
  z4 := Tryz.sizeOf4
  v4 := Tryz.zeroValue4
  t9 := Tryz.underlying9
  a9 := Tryz.isAgg9
  z9 := Tryz.sizeOf9
  v9 := Tryz.zeroValue9 }
open Go.RowKit Go.Lib in
theorem l_strings_TrimPrefix (s p : ByteArray) (w : World) :
    Calls Tryz.prog 115 #[.string s, .string p] w fun e w' => e = .returned (.string ⟨(Lib.trimPrefix s.data.toList p.data.toList).toArray⟩) ∧ w' = w := Any.strings_TrimPrefix l_lays101 s p w
end Go.Proofs.YtleccblkafcidaaGreatDoor.Shelf
/- appendLimb, (natural).digits, (number).text -/
namespace Go.Proofs.YtleccblkafcidaaGreatDoor
open Go.RowKit
abbrev Bytes (l : List UInt8) : List Value := l.map fun b => Value.int .u8 (b.toNat : Int)
/-- the last k decimal digits -/
def pad : Nat → Nat → List UInt8
  | 0, _ => []
  | k + 1, x => pad k (x / 10) ++ [K.chr (x % 10)]
theorem pad_len : ∀ k x, (pad k x).length = k
  | 0, _ => rfl
  | k + 1, x => by simp [pad, pad_len k]
theorem pad_zero : ∀ k, pad k 0 = List.replicate k 48
  | 0 => rfl
  | k + 1 => by rw [pad, Nat.zero_div, pad_zero k, List.replicate_succ']; rfl
theorem dgs_pad : ∀ (k x y : Nat), x < 10 ^ k → 0 < y → K.dgs (x + 10 ^ k * y) = K.dgs y ++ pad k x
  | 0, x, y, h, _ => by
    have : x = 0 := by simpa using h
    subst this; simp [pad]
  | k + 1, x, y, h, hy => by
    have hp : 10 ^ (k + 1) * y = 10 * (10 ^ k * y) := by rw [Nat.pow_succ, Nat.mul_comm (10 ^ k) 10, Nat.mul_assoc]
    have h1 : 0 < 10 ^ k * y := Nat.mul_pos (Nat.pow_pos (by omega)) hy
    rw [Nat.pow_succ] at h
    rw [K.dgs_big (by omega), hp, show (x + 10 * (10 ^ k * y)) / 10 = x / 10 + 10 ^ k * y by omega, show (x + 10 * (10 ^ k * y)) % 10 = x % 10 by omega,
      dgs_pad k (x / 10) y (by omega) hy, pad, List.append_assoc]
theorem dgs_limb (x y : Nat) (h : x < 1000000000) (hy : 0 < y) : K.dgs (x + 1000000000 * y) = K.dgs y ++ pad 9 x := dgs_pad 9 x y h hy
theorem decDigits_dgs (n : Nat) : Lib.decDigits n = K.dgs n := by
  induction n using Nat.strongRecOn with
  | ind n ih =>
    by_cases h : n < 10
    · rw [K.dgs_small h, Lib.decDigits, dif_pos h]; rfl
    · rw [K.dgs_big h, Lib.decDigits, dif_neg h, ih _ (by omega)]; rfl
/-- the table that printing reads -/
def Tab (w : World) : Prop := Lib.TabIs Tryz.prog w "internal/strconv.uint64pow10" .u64 Lib.pow10Tab
theorem Tab.ext {w w' : World} (h : Tab w) (e : Ext w w') : Tab w' := by
  have hg : Tryz.prog.globalNamed "internal/strconv.uint64pow10" = some 0 := by kernel_rfl
  refine var?_below e hg ?_ h
  rcases Nat.lt_or_ge 0 w.heap.size with hl | hl
  · exact hl
  · exfalso
    unfold Tab Lib.TabIs World.var? at h
    rw [hg, Option.bind_some, Array.getElem?_eq_none hl] at h
    cases h
/-- what an owned row of bytes is: a block, its spare behind it -/
theorem own_form {w : World} {base n : Nat} {v : Value} {vs : List Value} {e : TypeId} (h : w.ownsRow base e 1 v n vs) (hn : 0 < n) :
    ∃ g cap sp, v = .slice (some ⟨g, 0, none⟩) n cap ∧ base ≤ g ∧ n ≤ cap ∧ cap ≤ maxLen ∧ Row w g e (vs ++ sp) ∧ vs.length = n ∧ sp.length = cap - n := by
  rcases h.2 with ⟨_, h0⟩ | ⟨g, cap, cur, hv, hg, hh, hc, hm, hs, ht⟩
  · omega
  · have hl : vs.length = n := by have := h.1; omega
    refine ⟨g, cap, cur.toList.drop (n * 1), hv, hg, hc, hm, ?_, hl, by simp; omega⟩
    unfold Row
    rw [hh, ← ht, List.take_append_drop]
theorem own_of_row {w : World} {base n g cap : Nat} {vs sp : List Value} {e : TypeId} (r : Row w g e (vs ++ sp)) (hb : base ≤ g) (hl : vs.length = n) (hc : n ≤ cap) (hm : cap ≤ maxLen) (hs : sp.length = cap - n) :
    w.ownsRow base e 1 (.slice (some ⟨g, 0, none⟩) n cap) n vs := by
  refine ⟨by omega, .inr ⟨g, cap, (vs ++ sp).toArray, rfl, hb, r, hc, hm, by simp; omega, ?_⟩⟩
  subst hl
  simp
/-- a row of the call's own from base on, and the world below base as it was -/
def BytesPost (base n : Nat) (vs : List Value) (w : World) (e : Ending) (w' : World) : Prop := ∃ v, e = .returned v ∧ w'.ownsRow base 5 1 v n vs ∧ Below base w w' ∧ base ≤ w'.heap.size
set_option maxRecDepth 100000 in
set_option maxHeartbeats 1600000 in
theorem appendLimb_any (base n x : Nat) (v : Value) (vs : List Value) (w : World) (hown : w.ownsRow base 5 1 v n vs) (hb : base ≤ w.heap.size) (hn : n ≤ 1000000) (hx : x < 1000000000) :
    Calls Tryz.prog 228 #[v, .int .u64 (x : Int)] w (BytesPost base (n + 9) (vs ++ Bytes (pad 9 x)) w) := by
  obtain ⟨i0, hi, hz0, hz1, hz2⟩ := info_parts infoB
  have hlen : ∃ A c, v = .slice A n c := by
    rcases hown.2 with ⟨h, h0⟩ | ⟨g, cap, cur, h, _⟩
    · exact ⟨none, 0, by rw [h, h0]⟩
    · exact ⟨_, cap, h⟩
  obtain ⟨A, c, rfl⟩ := hlen
  go_enter Tryz.func228, Tryz.ntmps228
  go_wp2_with (at_builtin; refine Lib.wpList_append_own_string _ rfl _ _ 141 9 rfl base 5 i0 Tryz.underlying141 Tryz.underlying9 hi hz0 hz1 hz2 _ _ _ rfl hown ⟨#[48, 48, 48, 48, 48, 48, 48, 48, 48]⟩ rfl ?c3 ?c4 hb ?_)
  case c3 => unfold maxLen; show n + 9 ≤ _; omega
  case c4 => show n + 9 ≤ _; omega
  intro v1 w1 hown1 hgrow hnil
  have hsz : n + (⟨#[48, 48, 48, 48, 48, 48, 48, 48, 48]⟩ : ByteArray).size = n + 9 := rfl
  have hstr : Lib.strCells ⟨#[48, 48, 48, 48, 48, 48, 48, 48, 48]⟩ = Bytes (List.replicate 9 48) := rfl
  rw [hstr] at hown1
  obtain ⟨g, cap, sp, rfl, hg, hc1, hc2, hrow1, hvl, hsl⟩ := own_form hown1 (by omega)
  have hvs : vs.length = n := by simp at hvl; omega
  have hbel : Below base w w1 := (Below.refl _ w).grown hgrow hb (by
    intro k hk
    exact (hown.lt k hk).1)
  have hcap : cap ≤ 9223372036854775807 := hc2
  have HVS := hid hvs
  have HSL := hid hsl
  have HC2 := hid hc2
  clear hown hown1 hgrow hnil hsz hstr hvl hvs hsl hc2
  go_wp2_with fail
  go_loopw [1, 6] (fun lim i wr => ∃ (k y : Nat) (q : Int) (done : List UInt8), k ≤ 9 ∧ i = .int .i64 q ∧ -1 ≤ q ∧ q ≤ 1000100 ∧ q + 1 = ((n + k : Nat) : Int) ∧ lim = .int .u64 y ∧ y < 1000000000 ∧ y < 10 ^ k ∧ Row wr g 5 (vs ++ Bytes (List.replicate k 48 ++ done) ++ sp) ∧ done.length + k = 9 ∧
      pad k y ++ done = pad 9 x ∧ Below base w wr ∧ base ≤ wr.heap.size) (fun lim _ _ => (intOf lim).toNat)
  case atStart =>
    exact ⟨9, x, (n : Int) + 9 - 1, [], by omega, rfl, by omega, by omega, by omega, rfl, hx, by simpa using hx, by simpa using hrow1, rfl, by simp, hbel, by have := hbel.size; omega⟩
  case round =>
    obtain ⟨k, y, q, done, hk, rfl, hq0, hq1, hq, rfl, hyb, hy, hrow, hdl, hp, hbe, hsz⟩ := hrel
    have HQ := hid hq
    have HY := hid hy
    have HDL := hid hdl
    have HP := hid hp
    clear hq hy hdl hp hrow1
    by_cases h0 : 0 < y
    · obtain ⟨j, rfl⟩ : ∃ j, k = j + 1 := ⟨k - 1, by
        rcases Nat.eq_zero_or_pos k with h | h
        · subst h; have := HY.out; omega
        · omega⟩
      obtain ⟨p, rfl⟩ := Int.eq_ofNat_of_zero_le (show 0 ≤ q by have := HQ.out; omega)
      have hpj : p = n + j := by have := HQ.out; omega
      have hcell : wr.cell? ⟨g, p, none⟩ = some (.int .u8 48) := by
        rw [hrow.cell, hpj, List.append_assoc, List.getElem?_append_right (by rw [HVS.out]; omega), HVS.out, Nat.add_sub_cancel_left, List.getElem?_append_left (by simp; omega)]
        simp [Bytes, List.getElem?_append_left]
      have hfree := hrow.free p
      have hpc : p < n + 9 := by omega
      have HPJ := hid hpj
      have hnew : Row (wr.setCell ⟨g, p, none⟩ (.int .u8 (48 + (y : Int) % 10))) g 5 (vs ++ Bytes (List.replicate j 48 ++ (K.chr (y % 10) :: done)) ++ sp) := by
        have h1 := hrow.set p (.int .u8 (48 + (y : Int) % 10))
        have e1 : (vs ++ Bytes (List.replicate (j + 1) 48 ++ done) ++ sp).set p (.int .u8 (48 + (y : Int) % 10)) = vs ++ Bytes (List.replicate j 48 ++ (K.chr (y % 10) :: done)) ++ sp := by
          rw [hpj, List.append_assoc, List.set_append_right _ _ (by rw [HVS.out]; omega), HVS.out, Nat.add_sub_cancel_left, List.set_append_left _ _ (by simp; omega)]
          rw [List.append_assoc vs]
          congr 2
          rw [List.replicate_succ', List.append_assoc, List.singleton_append]
          simp only [Bytes, List.map_append, List.map_cons]
          rw [set_app _ _ _ _ _ (by simp)]
          rw [K.chr_toNat (Nat.mod_lt _ (by omega))]
          simp
        rw [e1] at h1
        exact h1
      clear hpj
      go_wp2
      go_roundw
      case rel =>
        refine ⟨j, y / 10, (p : Int) - 1, K.chr (y % 10) :: done, by omega, rfl, by omega, by omega, by have := HPJ.out; omega, by simp, by omega, ?_, hnew, by have := HDL.out; simp; omega, ?_, hbe.setCell (by exact hg) _, by simpa [World.setCell] using hsz⟩
        · have := HY.out
          rw [Nat.pow_succ] at this
          omega
        · rw [← HP.out, pad]; simp
      case measure => simp [intOf]; omega
    · obtain rfl : y = 0 := by omega
      have hres : wr.ownsRow base 5 1 (.slice (some ⟨g, 0, none⟩) (n + 9) cap) (n + 9) (vs ++ Bytes (pad 9 x)) := by
        rw [← HP.out, pad_zero]
        exact own_of_row hrow hg (by have := HDL.out; simp [HVS.out]; omega) hc1 HC2.out HSL.out
      have HR := hid hres
      clear hres hrow
      go_wp2
      go_ret
      exact ⟨_, rfl, HR.out, hbe, hsz⟩
end Go.Proofs.YtleccblkafcidaaGreatDoor
/- (natural).digits, (number).text, num.write -/
namespace Go.Proofs.YtleccblkafcidaaGreatDoor
open Go.RowKit
theorem below_drewN' {B : Nat} {a w : World} (h : Below B a w) (n : Nat) : Below B a (w.drewN n) := ⟨h.os, h.tape, h.output, h.size, h.block⟩
set_option maxHeartbeats 400000 in
theorem appendUint_any (base n u : Nat) (v : Value) (vs : List Value) (w : World) (hown : w.ownsRow base 5 1 v n vs) (hb : base ≤ w.heap.size) (hn : n ≤ 1000000) (hu : u < 1000000000) (ht : Tab w) :
    Calls Tryz.prog 227 #[v, .int .u64 (u : Int), .int .i64 10] w (BytesPost base (n + (K.dgs u).length) (vs ++ Bytes (K.dgs u)) w) := by
  go_enter Tryz.func227, Tryz.ntmps227
  go_wp2_with fail
  refine (Shelf.l_internal_strconv_AppendUint_10 base n u (by omega) v vs w hown hb (by omega) ht).mono ?_
  rintro e w' ⟨v', rfl, hown', hbel, -⟩
  rw [decDigits_dgs] at hown'
  go_wp2
  go_ret
  exact ⟨v', rfl, hown', hbel, by have := hbel.size; omega⟩
theorem lim_drop_pos {xs : List Nat} (h : K.Lim xs) {k : Nat} (hk : k < xs.length) : 0 < K.lv (xs.drop k) := by
  have hl : K.Lim (xs.drop k) := by
    refine ⟨fun x hx => h.1 x (List.mem_of_mem_drop hx), ?_⟩
    rw [List.getLast?_drop, if_neg (by omega)]
    exact h.2
  exact hl.pos (by intro e; have := congrArg List.length e; simp at this; omega)
set_option maxRecDepth 100000 in
set_option maxHeartbeats 1600000 in
theorem digits_any (v : Value) (n : Nat) (w : World) (h : NatV w v n) (la : n ≤ BIG) (ht : Tab w) :
    Calls Tryz.prog 203 #[v] w (BytesPost w.heap.size (K.dgs n).length (Bytes (K.dgs n)) w) := by
  obtain ⟨A, k, c, xs, rfl, h2, h3, h4, h5, h6⟩ := h
  have hk := len_of_big h5 (by omega)
  rw [h2] at hk
  by_cases h0 : k = 0
  · have hx : xs = [] := List.eq_nil_of_length_eq_zero (by omega)
    have hn : n = 0 := by rw [← h6, hx]; rfl
    subst hn h0
    clear h2 h3 h4 h5 h6 hx
    go_enter Tryz.func203, Tryz.ntmps203
    go_wp2
    go_ret
    refine ⟨_, rfl, ?_, (Below.refl _ w).alloc (Nat.le_refl _) _, by simp⟩
    rw [K.dgs_zero]
    exact own_of_row (sp := []) (Row.new w 5 [.int .u8 48]) (Nat.le_refl _) rfl (by simp) (by unfold maxLen; simp) rfl
  · have H2 := hid h2
    have H6 := hid h6
    have hmk := fun (w : World) => (fun (i : TypeInfo) (hi : Tryz.prog.info? 5 = some i) (hz : i.zero = some (.int .u8 0)) (hs : i.size = 1) (hb : i.bytes = 1) => run_make (P := Tryz.prog) w 141 5 i (.int .u8 0) Tryz.underlying141 hi hz .i64 .i64 0 ((k : Int) * 9) (by omega) (by omega) (by rw [hb]; omega) (by omega)) 
    obtain ⟨i0, hi, hz0, hz1, hz2⟩ := info_parts infoB
    have hmk2 : ∀ w : World, (Instr.makeSlice 141 (.int .i64 0) (.int .i64 ((k : Int) * 9))).run Tryz.prog w = .ok (.slice (some ⟨w.heap.size, 0, none⟩) 0 (k * 9)) (w.alloc (.cells (madeCells #[.int .u8 0] (k * 9)) 5)) := by
      intro w
      have h := hmk w i0 hi hz0 hz1 hz2
      rw [hz1, show ((k : Int) * 9).toNat = k * 9 by omega, Nat.mul_one] at h
      exact h
    obtain ⟨j, rfl⟩ : ∃ j, k = j + 1 := ⟨k - 1, by omega⟩
    have hmk3 : ∀ w : World, (Instr.makeSlice 141 (.int .i64 0) (.int .i64 (((j : Int) + 1) * 9))).run Tryz.prog w = .ok (.slice (some ⟨w.heap.size, 0, none⟩) 0 ((j + 1) * 9)) (w.alloc (.cells (madeCells #[.int .u8 0] ((j + 1) * 9)) 5)) := by
      intro w
      have h := hmk2 w
      rwa [show (((j + 1 : Nat)) : Int) = (j : Int) + 1 by omega] at h
    have hown0 : (w.alloc (.cells (madeCells #[.int .u8 0] ((j + 1) * 9)) 5)).ownsRow w.heap.size 5 1 (.slice (some ⟨w.heap.size, 0, none⟩) 0 ((j + 1) * 9)) 0 [] :=
      World.ownsRow_made w _ ((j + 1) * 9) (Nat.le_refl _) (by unfold maxLen; omega) (by rw [size_madeCells]; omega)
    have hext0 : Ext w (w.alloc (.cells (madeCells #[.int .u8 0] ((j + 1) * 9)) 5)) := (Ext.rfl' w).alloc' _
    have ht0 := ht.ext hext0
    obtain ⟨b1, o1, x, eA, ex, hb1, hx⟩ := (h4.ext hext0).at_ (k := j) (by omega)
    subst eA
    have hxB := h5.1 x (mem_at ex)
    have HX := hid ex
    have H5 := hid h5
    clear h2 h6 hmk hmk2 ex h5 h3 h0 ht hi hz0 hz1 hz2
    go_enter Tryz.func203, Tryz.ntmps203
    go_wp2_with fail
    refine (appendUint_any w.heap.size 0 x _ [] _ hown0 (by simp) (by omega) hxB ht0).mono ?_
    rintro e w1 ⟨v1, rfl, hown1, hbel1, hsz1⟩
    rw [Nat.zero_add, List.nil_append] at hown1
    have hb1' : Ext w w1 := (Ext.rfl' w).alloc' _ |>.trans hbel1
    clear hown0 hmk3 ht0 hx hb1
    go_wp2_with fail
    go_loopw [4, 5] (fun tv i wr => ∃ q : Int, -1 ≤ q ∧ q < j ∧ i = .int .i64 q ∧ wr.ownsRow w.heap.size 5 1 tv (K.dgs (K.lv (xs.drop (q + 1).toNat))).length (Bytes (K.dgs (K.lv (xs.drop (q + 1).toNat)))) ∧ Ext w wr) (fun _ i _ => (intOf i + 1).toNat)
    case atStart =>
      refine ⟨(j : Int) - 1, by omega, by omega, by simp, ?_, hb1'⟩
      rw [show ((j : Int) - 1 + 1).toNat = j by omega, drop_at HX.out, List.drop_of_length_le (by rw [H2.out]; omega)]
      simpa [K.lv] using hown1
    case round =>
      obtain ⟨q, hq1, hq2, rfl, hown, hext⟩ := hrel
      clear hown1
      by_cases hq : 0 ≤ q
      · obtain ⟨p, rfl⟩ := Int.eq_ofNat_of_zero_le hq
        obtain ⟨b2, o2, y, eB, ey, hb2, hy⟩ := (h4.ext hext).at_ (k := p) (by rw [H2.out]; omega)
        injection eB with eB
        injection eB with eB1 eB2
        subst eB1 eB2
        have hyB := H5.out.1 y (mem_at ey)
        have HY := hid ey
        have hpos := lim_drop_pos H5.out (k := p + 1) (by rw [H2.out]; omega)
        have hlen : (K.dgs (K.lv (xs.drop (p + 1)))).length ≤ 9000 := big_digits (by have := lv_drop_le xs (p + 1); have := H6.out; omega)
        rw [show ((p : Int) + 1).toNat = p + 1 by omega] at hown
        clear ey
        go_wp2_with fail
        refine (appendLimb_any w.heap.size _ y _ _ _ hown hext.size (by omega) hyB).mono ?_
        rintro e w2 ⟨v2, rfl, hown2, hbel2, hsz2⟩
        have hfin : Hid (w2.ownsRow w.heap.size 5 1 v2 (K.dgs (K.lv (xs.drop p))).length (Bytes (K.dgs (K.lv (xs.drop p))))) := by
          refine hid ?_
          have e1 : K.dgs (K.lv (xs.drop p)) = K.dgs (K.lv (xs.drop (p + 1))) ++ pad 9 y := by
            rw [drop_at HY.out, K.lv, dgs_limb _ _ hyB hpos]
          rw [e1, List.length_append, pad_len]
          simpa [Bytes] using hown2
        clear hown2 hown
        go_wp2
        go_roundw
        case rel =>
          refine ⟨(p : Int) - 1, by omega, by omega, rfl, ?_, hext.trans hbel2⟩
          rw [show ((p : Int) - 1 + 1).toNat = p by omega]
          exact hfin.out
        case measure => simp [intOf]
      · rw [show (q + 1).toNat = 0 by omega, List.drop_zero, H6.out] at hown
        have HO := hid hown
        clear hown
        go_wp2
        go_ret
        exact ⟨_, rfl, HO.out, hext, hext.size⟩
end Go.Proofs.YtleccblkafcidaaGreatDoor
/- (number).plus, (number).minus -/
namespace Go.Proofs.YtleccblkafcidaaGreatDoor
open Go.RowKit
theorem Ext.undrew {w w' : World} (h : Ext w.drew w') : Ext w w' := ⟨h.os, h.tape, h.output, h.size, h.block⟩
theorem Ext.undrewN {w w' : World} {n : Nat} (h : Ext (w.drewN n) w') : Ext w w' := ⟨h.os, h.tape, h.output, h.size, h.block⟩
theorem Ext.drew' {a b : World} (h : Ext a b) : Ext a b.drew := ⟨h.os, h.tape, h.output, h.size, h.block⟩
set_option maxRecDepth 100000 in
set_option maxHeartbeats 1600000 in
theorem nplus_same (A B : Option Addr) (ka ca kb cb a b : Nat) (na nb : Bool) (m : Int) (w : World) (ha : NatV w (.slice A ka ca) a) (hb : NatV w (.slice B kb cb) b) (la : a ≤ BIG) (lb : b ≤ BIG)
    (hm : m.natAbs = a + b) (hs : na = decide (m < 0)) :
    Calls Tryz.prog 197 #[.agg #[.bool na, .slice A ka ca], .agg #[.bool na, .slice B kb cb]] w (NumPost m w) := by
  have HM := hid hm
  have HS := hid hs
  clear hm hs
  have hq : (na == na) = true := by simp
  have hW2 : Ext w ((w.alloc (.cells #[.bool na, .slice A ka ca] 157)).alloc (.cells #[.bool na, .slice B kb cb] 157)) := ((Ext.rfl' w).alloc' _).alloc' _
  have hW3 : Ext w (((w.alloc (.cells #[.bool na, .slice A ka ca] 157)).alloc (.cells #[.bool na, .slice B kb cb] 157)).alloc (.cells #[.bool false, .slice none 0 0] 157)) := hW2.alloc' _
  have hk : ∀ w', Ext (((w.alloc (.cells #[.bool na, .slice A ka ca] 157)).alloc (.cells #[.bool na, .slice B kb cb] 157)).alloc (.cells #[.bool false, .slice none 0 0] 157)) w' →
      w'.cell? ⟨w.heap.size, 0, none⟩ = some (.bool na) ∧ w'.cell? ⟨w.heap.size, 1, none⟩ = some (.slice A ka ca) ∧ w'.cell? ⟨w.heap.size + 1, 0, none⟩ = some (.bool na) ∧ w'.cell? ⟨w.heap.size + 1, 1, none⟩ = some (.slice B kb cb) := by
    intro w' e
    have h1 := two_facts (W := w) (H := w.heap.size) (t := 157) (a := .bool na) (b := .slice A ka ca) (Ext.step (((Ext.rfl' _).alloc' _).alloc' _) e) rfl
    have h2 := two_facts (W := (w.alloc (.cells #[.bool na, .slice A ka ca] 157))) (H := w.heap.size + 1) (t := 157) (a := .bool na) (b := .slice B kb cb) (Ext.step ((Ext.rfl' _).alloc' _) e) (by simp)
    exact ⟨h1.1, h1.2.1, h2.1, h2.2.1⟩
  have ht : ∀ w', Ext (((w.alloc (.cells #[.bool na, .slice A ka ca] 157)).alloc (.cells #[.bool na, .slice B kb cb] 157)).alloc (.cells #[.bool false, .slice none 0 0] 157)) w' → _ :=
    fun w' e => two_facts (H := w.heap.size + 1 + 1) e (by simp)
  have HT := hid ht
  have hne1 : ¬ (w.heap.size + 1 + 1 = w.heap.size) := by omega
  have hne2 : ¬ (w.heap.size = w.heap.size + 1 + 1) := by omega
  have HK := hid hk
  have HW3 := hid hW3
  have HW2 := hid hW2
  clear hk hW3 hW2 ht
  go_enter Tryz.func197, Tryz.ntmps197
  go_wp2_with fail
  go_region_held3 (fun w' => w'.cell? ⟨w.heap.size, 0, none⟩ = some (.bool na) ∧ w'.cell? ⟨w.heap.size, 1, none⟩ = some (.slice A ka ca) ∧ w'.cell? ⟨w.heap.size + 1, 0, none⟩ = some (.bool na) ∧ w'.cell? ⟨w.heap.size + 1, 1, none⟩ = some (.slice B kb cb))
    (first | go_keep | exact HK.out _ hx3')
    (first | (go_at_call 200; refine (plus_any _ _ a b _ (ha.ext ?_) (hb.ext ?_) la lb).mono ?_; (first | exact HW3.out | exact HW3.out.drew'); (first | exact HW3.out | exact HW3.out.drew'); rintro e w3 ⟨v3, rfl, hz3, hx3⟩; obtain ⟨A3, k3, c3', rfl⟩ := hz3.slice; have hx3' := Ext.undrew hx3; obtain ⟨c0, c1, f0, f1, hl, _⟩ := HT.out _ hx3'))
  have hfin := NumPost.stored hx3' HW2.out (H := w.heap.size + 1 + 1) (by simp) (by rw [HM.out]; exact hz3) na HS.out
  have HF := hid hfin
  clear hfin
  go_wp2
  refine bodyPost_ret (v := .agg #[.bool na, .slice A3 k3 c3']) (by simp [results, Tryz.results197, go_sem, c0, c1]) rfl HF.out
set_option maxRecDepth 100000 in
set_option maxHeartbeats 1600000 in
theorem nplus_lt (A B : Option Addr) (ka ca kb cb a b : Nat) (na nb : Bool) (m : Int) (w : World) (ha : NatV w (.slice A ka ca) a) (hb : NatV w (.slice B kb cb) b) (la : a ≤ BIG) (lb : b ≤ BIG)
    (hne : na ≠ nb) (hab : a < b) (hm : m.natAbs = b - a) (hs : (nb && decide (0 < b - a)) = decide (m < 0)) :
    Calls Tryz.prog 197 #[.agg #[.bool na, .slice A ka ca], .agg #[.bool nb, .slice B kb cb]] w (NumPost m w) := by
  have HM := hid hm
  have HS := hid hs
  clear hm hs
  have hq : (na == nb) = false := by simpa using hne
  clear hne
  have hsg : sgn a b < 0 := by unfold sgn; rw [if_pos hab]; omega
  have hW2 : Ext w ((w.alloc (.cells #[.bool na, .slice A ka ca] 157)).alloc (.cells #[.bool nb, .slice B kb cb] 157)) := ((Ext.rfl' w).alloc' _).alloc' _
  have hW3 : Ext w (((w.alloc (.cells #[.bool na, .slice A ka ca] 157)).alloc (.cells #[.bool nb, .slice B kb cb] 157)).alloc (.cells #[.bool false, .slice none 0 0] 157)) := hW2.alloc' _
  have hk : ∀ w', Ext (((w.alloc (.cells #[.bool na, .slice A ka ca] 157)).alloc (.cells #[.bool nb, .slice B kb cb] 157)).alloc (.cells #[.bool false, .slice none 0 0] 157)) w' →
      w'.cell? ⟨w.heap.size, 0, none⟩ = some (.bool na) ∧ w'.cell? ⟨w.heap.size, 1, none⟩ = some (.slice A ka ca) ∧ w'.cell? ⟨w.heap.size + 1, 0, none⟩ = some (.bool nb) ∧ w'.cell? ⟨w.heap.size + 1, 1, none⟩ = some (.slice B kb cb) := by
    intro w' e
    have h1 := two_facts (W := w) (H := w.heap.size) (t := 157) (a := .bool na) (b := .slice A ka ca) (Ext.step (((Ext.rfl' _).alloc' _).alloc' _) e) rfl
    have h2 := two_facts (W := (w.alloc (.cells #[.bool na, .slice A ka ca] 157))) (H := w.heap.size + 1) (t := 157) (a := .bool nb) (b := .slice B kb cb) (Ext.step ((Ext.rfl' _).alloc' _) e) (by simp)
    exact ⟨h1.1, h1.2.1, h2.1, h2.2.1⟩
  have ht : ∀ w', Ext (((w.alloc (.cells #[.bool na, .slice A ka ca] 157)).alloc (.cells #[.bool nb, .slice B kb cb] 157)).alloc (.cells #[.bool false, .slice none 0 0] 157)) w' → _ :=
    fun w' e => two_facts (H := w.heap.size + 1 + 1) e (by simp)
  have HT := hid ht
  have hne1 : ¬ (w.heap.size + 1 + 1 = w.heap.size) := by omega
  have hne2 : ¬ (w.heap.size = w.heap.size + 1 + 1) := by omega
  have HK := hid hk
  have HW3 := hid hW3
  have HW2 := hid hW2
  clear hk hW3 hW2 ht
  go_enter Tryz.func197, Tryz.ntmps197
  go_wp2_with fail
  refine (natCmp_any _ _ a b _ (ha.ext ?_) (hb.ext ?_) la lb).mono ?_
  · exact HW3.out
  · exact HW3.out
  rintro e w1 ⟨rfl, hw1⟩
  have hx1 := hw1.ext
  have HX1 := hid hx1
  have hkk := HK.out _ hx1
  obtain ⟨e0, e1, e2, e3⟩ := hkk
  clear hx1 hw1
  go_wp2_with fail
  go_region_held3 (fun w' => w'.cell? ⟨w.heap.size, 0, none⟩ = some (.bool na) ∧ w'.cell? ⟨w.heap.size, 1, none⟩ = some (.slice A ka ca) ∧ w'.cell? ⟨w.heap.size + 1, 0, none⟩ = some (.bool nb) ∧ w'.cell? ⟨w.heap.size + 1, 1, none⟩ = some (.slice B kb cb))
    (first | go_keep | exact HK.out _ hx3a | exact HK.out _ hx3')
    (first | (go_at_call 201; refine (minus_any _ _ b a _ (hb.ext ?_) (ha.ext ?_) lb (by omega)).mono ?_; (first | exact HW3.out.step HX1.out | exact (HW3.out.step HX1.out).drew'); (first | exact HW3.out.step HX1.out | exact (HW3.out.step HX1.out).drew'); rintro e w2 ⟨v2, rfl, hz2, hx2⟩; have hx3a := HX1.out.step (Ext.undrew hx2); obtain ⟨A2, k2, c2', rfl⟩ := hz2.slice) | (go_at_call 202; refine (signed_any nb _ (b - a) _ hz2 m HM.out HS.out).mono ?_; rintro e w3 ⟨v3, rfl, ⟨z3, b3, rfl, hb3, hz3⟩, hx3⟩; have hx3' := hx3a.step hx3; obtain ⟨A3, k3, c3', rfl⟩ := hz3.slice; obtain ⟨c0, c1, f0, f1, hl, _⟩ := HT.out _ hx3'))
  have hfin := NumPost.stored hx3' HW2.out (H := w.heap.size + 1 + 1) (by simp) hz3 b3 hb3.out
  have HF := hid hfin
  clear hfin
  go_wp2
  refine bodyPost_ret (v := .agg #[.bool b3, .slice A3 k3 c3']) (by simp [results, Tryz.results197, go_sem, c0, c1]) rfl HF.out
set_option maxRecDepth 100000 in
set_option maxHeartbeats 1600000 in
theorem nplus_ge (A B : Option Addr) (ka ca kb cb a b : Nat) (na nb : Bool) (m : Int) (w : World) (ha : NatV w (.slice A ka ca) a) (hb : NatV w (.slice B kb cb) b) (la : a ≤ BIG) (lb : b ≤ BIG)
    (hne : na ≠ nb) (hab : ¬ a < b) (hm : m.natAbs = a - b) (hs : (na && decide (0 < a - b)) = decide (m < 0)) :
    Calls Tryz.prog 197 #[.agg #[.bool na, .slice A ka ca], .agg #[.bool nb, .slice B kb cb]] w (NumPost m w) := by
  have HM := hid hm
  have HS := hid hs
  clear hm hs
  have hq : (na == nb) = false := by simpa using hne
  clear hne
  have hsg : ¬ sgn a b < 0 := by unfold sgn; rw [if_neg hab]; split <;> omega
  have hW2 : Ext w ((w.alloc (.cells #[.bool na, .slice A ka ca] 157)).alloc (.cells #[.bool nb, .slice B kb cb] 157)) := ((Ext.rfl' w).alloc' _).alloc' _
  have hW3 : Ext w (((w.alloc (.cells #[.bool na, .slice A ka ca] 157)).alloc (.cells #[.bool nb, .slice B kb cb] 157)).alloc (.cells #[.bool false, .slice none 0 0] 157)) := hW2.alloc' _
  have hk : ∀ w', Ext (((w.alloc (.cells #[.bool na, .slice A ka ca] 157)).alloc (.cells #[.bool nb, .slice B kb cb] 157)).alloc (.cells #[.bool false, .slice none 0 0] 157)) w' →
      w'.cell? ⟨w.heap.size, 0, none⟩ = some (.bool na) ∧ w'.cell? ⟨w.heap.size, 1, none⟩ = some (.slice A ka ca) ∧ w'.cell? ⟨w.heap.size + 1, 0, none⟩ = some (.bool nb) ∧ w'.cell? ⟨w.heap.size + 1, 1, none⟩ = some (.slice B kb cb) := by
    intro w' e
    have h1 := two_facts (W := w) (H := w.heap.size) (t := 157) (a := .bool na) (b := .slice A ka ca) (Ext.step (((Ext.rfl' _).alloc' _).alloc' _) e) rfl
    have h2 := two_facts (W := (w.alloc (.cells #[.bool na, .slice A ka ca] 157))) (H := w.heap.size + 1) (t := 157) (a := .bool nb) (b := .slice B kb cb) (Ext.step ((Ext.rfl' _).alloc' _) e) (by simp)
    exact ⟨h1.1, h1.2.1, h2.1, h2.2.1⟩
  have ht : ∀ w', Ext (((w.alloc (.cells #[.bool na, .slice A ka ca] 157)).alloc (.cells #[.bool nb, .slice B kb cb] 157)).alloc (.cells #[.bool false, .slice none 0 0] 157)) w' → _ :=
    fun w' e => two_facts (H := w.heap.size + 1 + 1) e (by simp)
  have HT := hid ht
  have hne1 : ¬ (w.heap.size + 1 + 1 = w.heap.size) := by omega
  have hne2 : ¬ (w.heap.size = w.heap.size + 1 + 1) := by omega
  have HK := hid hk
  have HW3 := hid hW3
  have HW2 := hid hW2
  clear hk hW3 hW2 ht
  go_enter Tryz.func197, Tryz.ntmps197
  go_wp2_with fail
  refine (natCmp_any _ _ a b _ (ha.ext ?_) (hb.ext ?_) la lb).mono ?_
  · exact HW3.out
  · exact HW3.out
  rintro e w1 ⟨rfl, hw1⟩
  have hx1 := hw1.ext
  have HX1 := hid hx1
  have hkk := HK.out _ hx1
  obtain ⟨e0, e1, e2, e3⟩ := hkk
  clear hx1 hw1
  go_wp2_with fail
  go_region_held3 (fun w' => w'.cell? ⟨w.heap.size, 0, none⟩ = some (.bool na) ∧ w'.cell? ⟨w.heap.size, 1, none⟩ = some (.slice A ka ca) ∧ w'.cell? ⟨w.heap.size + 1, 0, none⟩ = some (.bool nb) ∧ w'.cell? ⟨w.heap.size + 1, 1, none⟩ = some (.slice B kb cb))
    (first | go_keep | exact HK.out _ hx3a | exact HK.out _ hx3')
    (first | (go_at_call 201; refine (minus_any _ _ a b _ (ha.ext ?_) (hb.ext ?_) la (by omega)).mono ?_; (first | exact HW3.out.step HX1.out | exact (HW3.out.step HX1.out).drew'); (first | exact HW3.out.step HX1.out | exact (HW3.out.step HX1.out).drew'); rintro e w2 ⟨v2, rfl, hz2, hx2⟩; have hx3a := HX1.out.step (Ext.undrew hx2); obtain ⟨A2, k2, c2', rfl⟩ := hz2.slice) | (go_at_call 202; refine (signed_any na _ (a - b) _ hz2 m HM.out HS.out).mono ?_; rintro e w3 ⟨v3, rfl, ⟨z3, b3, rfl, hb3, hz3⟩, hx3⟩; have hx3' := hx3a.step hx3; obtain ⟨A3, k3, c3', rfl⟩ := hz3.slice; obtain ⟨c0, c1, f0, f1, hl, _⟩ := HT.out _ hx3'))
  have hfin := NumPost.stored hx3' HW2.out (H := w.heap.size + 1 + 1) (by simp) hz3 b3 hb3.out
  have HF := hid hfin
  clear hfin
  go_wp2
  refine bodyPost_ret (v := .agg #[.bool b3, .slice A3 k3 c3']) (by simp [results, Tryz.results197, go_sem, c0, c1]) rfl HF.out
theorem nplus_any (va vb : Value) (m n : Int) (w : World) (ha : NumV w va m) (hb : NumV w vb n) (la : m.natAbs ≤ BIG) (lb : n.natAbs ≤ BIG) :
    Calls Tryz.prog 197 #[va, vb] w (NumPost (m + n) w) := by
  obtain ⟨sa, ba, rfl, hba, hza⟩ := ha
  obtain ⟨sb, bb, rfl, hbb, hzb⟩ := hb
  obtain ⟨A, ka, ca, rfl⟩ := hza.slice
  obtain ⟨B, kb, cb, rfl⟩ := hzb.slice
  have eba := hba.out
  have ebb := hbb.out
  subst eba ebb
  by_cases h1 : m < 0 <;> by_cases h2 : n < 0
  · rw [decide_eq_true h1, decide_eq_true h2]
    exact nplus_same A B ka ca kb cb _ _ true true (m + n) w hza hzb la lb (by omega) (by rw [decide_eq_true (by omega)])
  · rw [decide_eq_true h1, decide_eq_false h2]
    by_cases hab : m.natAbs < n.natAbs
    · exact nplus_lt A B ka ca kb cb _ _ true false (m + n) w hza hzb la lb (by simp) hab (by omega) (by simp; omega)
    · exact nplus_ge A B ka ca kb cb _ _ true false (m + n) w hza hzb la lb (by simp) hab (by omega) (by
        rw [Bool.eq_iff_iff]; simp; omega)
  · rw [decide_eq_false h1, decide_eq_true h2]
    by_cases hab : m.natAbs < n.natAbs
    · exact nplus_lt A B ka ca kb cb _ _ false true (m + n) w hza hzb la lb (by simp) hab (by omega) (by
        rw [Bool.eq_iff_iff]; simp; omega)
    · exact nplus_ge A B ka ca kb cb _ _ false true (m + n) w hza hzb la lb (by simp) hab (by omega) (by simp; omega)
  · rw [decide_eq_false h1, decide_eq_false h2]
    exact nplus_same A B ka ca kb cb _ _ false false (m + n) w hza hzb la lb (by omega) (by rw [decide_eq_false (by omega)])
end Go.Proofs.YtleccblkafcidaaGreatDoor
