/- Joined texts: the reference's Text; the reference's Digits, Fits, Told; the reference's Of, at a number that is not negative; the reference's Of at 1, and Part; maps in memory; step.validRule. -/
import Derived.Test.YtleccblkafcidaaGreatDoorJG06
import Derived.Test.YtleccblkafcidaaGreatDoorJG04
import Derived.Test.YtleccblkafcidaaGreatDoorJG07
import Derived.Test.YtleccblkafcidaaGreatDoorJG05
import Derived.Deep.Cut
set_option linter.unusedSimpArgs false
set_option linter.unusedVariables false
/- the reference's Text -/
namespace Go.Proofs.YtleccblkafcidaaGreatDoor
open Go.RowKit
theorem text_end (bs : List UInt8) (N : Nat) (hd : bs.all K.dig = true) (hv : K.dvl bs = N) (hne : bs ≠ []) (hl : bs.getLast? ≠ some 48) : K.dgs N = bs.reverse := by
  have h := K.dgs_dv bs.reverse (by simpa using hne) (by simpa using hd) (fun e => absurd (by simpa using e) hl)
  rwa [K.dv, List.reverse_reverse, hv] at h
theorem text_step (bs : List UInt8) (N p r m : Nat) (h : K.dvl bs + 10 ^ m * (p + 10 * r) = N) (hm : bs.length = m) (c : UInt8) (hc : c.toNat = 48 + p % 10) :
    K.dvl (bs ++ [c]) + 10 ^ (m + 1) * (p / 10 + r) = N := by
  rw [K.dvl_append, hm]
  have e1 : K.dvl [c] = p % 10 := by simp [K.dvl, hc]
  rw [e1, ← h, Nat.pow_succ, Nat.mul_assoc, Nat.add_assoc, ← Nat.mul_add]
  congr 2
  omega
theorem Bytes_snoc (bs : List UInt8) (c : UInt8) : Bytes (bs ++ [c]) = Bytes bs ++ [.int .u8 (c.toNat : Int)] := by simp [Bytes]
theorem Rd.byte {w : World} {A : Option Addr} {l : List UInt8} (h : Rd w A (Bytes l)) {k : Nat} {x : UInt8} (hx : l[k]? = some x) :
    ∃ b o, A = some ⟨b, o, none⟩ ∧ w.cell? ⟨b, o + k, none⟩ = some (.int .u8 (x.toNat : Int)) := by
  rcases h with h | ⟨b, o, ha, hb, hc⟩
  · have : l = [] := by simpa [Bytes] using h
    subst this; simp at hx
  · exact ⟨b, o, ha, hc k _ (by simp [Bytes, hx])⟩
/-- what stands while a number is written, before limb i -/
def TxO (xs : List Nat) (N i m : Nat) (bs : List UInt8) : Prop :=
  bs.length = m ∧ bs.all K.dig = true ∧ (i < xs.length → m = 9 * i ∧ K.dvl bs + 10 ^ (9 * i) * K.lv (xs.drop i) = N) ∧ (i = xs.length → K.dvl bs = N ∧ bs ≠ [] ∧ bs.getLast? ≠ some 48)
/-- .. inside limb i, t digits of it written, p left -/
def TxI (xs : List Nat) (N i t p : Nat) (bs : List UInt8) : Prop :=
  bs.length = 9 * i + t ∧ bs.all K.dig = true ∧ K.dvl bs + 10 ^ (9 * i + t) * (p + 10 ^ (9 - t) * K.lv (xs.drop (i + 1))) = N ∧ p < 10 ^ (9 - t) ∧ (i + 1 = xs.length → 0 < p ∨ (bs ≠ [] ∧ bs.getLast? ≠ some 48))
theorem TxO.enter {xs : List Nat} {N i m x : Nat} {bs : List UInt8} (h : TxO xs N i m bs) (hL : K.Lim xs) (hx : xs[i]? = some x) : m = 9 * i ∧ TxI xs N i 0 x bs := by
  obtain ⟨hi, hxe⟩ := List.getElem?_eq_some_iff.1 hx
  obtain ⟨h1, h2, h3, _⟩ := h
  obtain ⟨h3, h4⟩ := h3 hi
  have hlt : x < 1000000000 := hL.1 x (by rw [← hxe]; exact List.getElem_mem hi)
  refine ⟨h3, by omega, h2, ?_, hlt, fun e => ?_⟩
  · rw [drop_at hx] at h4; exact h4
  · left
    apply Nat.pos_of_ne_zero
    intro e0
    apply hL.2
    rw [List.getLast?_eq_getElem?, show xs.length - 1 = i by omega, hx, e0]
theorem TxI.step {xs : List Nat} {N i t p : Nat} {bs : List UInt8} (h : TxI xs N i t p bs) (ht : t < 9) (hx : 0 < p ∨ i + 1 < xs.length) : TxI xs N i (t + 1) (p / 10) (bs ++ [K.chr (p % 10)]) := by
  obtain ⟨h1, h2, h3, h4, h5⟩ := h
  have hp : 10 ^ (9 - t) = 10 * 10 ^ (9 - (t + 1)) := by rw [← Nat.pow_succ']; congr 1; omega
  have hc := K.chr_toNat (n := p % 10) (by omega)
  refine ⟨by simp; omega, ?_, ?_, ?_, fun e => ?_⟩
  · rw [List.all_append, h2]; simp [K.dig_chr (n := p % 10) (by omega)]
  · rw [hp, Nat.mul_assoc] at h3
    exact text_step bs N p _ (9 * i + t) h3 h1 _ hc
  · rw [hp] at h4; omega
  · by_cases h0 : 0 < p / 10
    · exact .inl h0
    · right
      refine ⟨by simp, ?_⟩
      rw [List.getLast?_append]
      simp only [List.getLast?_singleton, Option.some_or]
      intro e2
      have e3 : (K.chr (p % 10)).toNat = 48 := by rw [Option.some.inj e2]; rfl
      rw [hc] at e3
      omega
theorem TxI.leave {xs : List Nat} {N i t p : Nat} {bs : List UInt8} (h : TxI xs N i t p bs) (hi : i < xs.length) (ht : t ≤ 9) (hx : ¬ (t < 9 ∧ (0 < p ∨ i + 1 < xs.length))) : TxO xs N (i + 1) (9 * i + t) bs := by
  obtain ⟨h1, h2, h3, h4, h5⟩ := h
  have hp : p = 0 := by
    by_cases h9 : t = 9
    · subst h9; simp at h4; exact h4
    · omega
  subst hp
  refine ⟨h1, h2, fun e => ?_, fun e => ?_⟩
  · obtain rfl : t = 9 := by omega
    refine ⟨by omega, ?_⟩
    simpa [Nat.mul_add] using h3
  · rw [List.drop_of_length_le (by omega)] at h3
    simp [K.lv] at h3
    exact ⟨h3, (h5 e).resolve_left (by omega)⟩
set_option maxRecDepth 100000 in
set_option maxHeartbeats 6400000 in
theorem rtext_any (v : Value) (n : Int) (w : World) (h : RefV w v n) (hb : n.natAbs ≤ BIG) : Calls Tryz.prog 45 #[v] w (StrPost (K.txt n) w) := by
  obtain ⟨A, k, c, xs, b, rfl, hbn, hl, hkc, hr, hL, hv⟩ := h
  have hlen : xs.length ≤ 1000 := len_of_big hL (by omega)
  by_cases hk0 : k = 0
  · subst hk0
    have h0 : n = 0 := by
      have := hL.zero_iff.2 (List.length_eq_zero_iff.1 hl)
      omega
    subst h0
    have ht : Hid (K.txt 0 = [48]) := hid K.txt_zero
    clear hbn hl hr hL hv hb hlen
    go_enter Tryz.func45, Tryz.ntmps45
    go_wp2
    go_ret
    exact ⟨by rw [ht.out]; rfl, (Ext.rfl' w).alloc' _⟩
  · have hlk : k ≤ 1000 := by omega
    have hkp : 0 < k := by omega
    obtain ⟨N, hN⟩ : ∃ N, N = n.natAbs := ⟨_, rfl⟩
    rw [← hN] at hv
    have HN := hid hN
    have HLX := hid hl
    have HL := hid hL
    have HV := hid hv
    have HR := hid hr
    obtain ⟨i0, hi, hz0, hz1, hz2⟩ := info_parts infoB
    have hkz : ((k : Int) == 0) = false := by simp; omega
    clear hl hr hL hv hb hN hk0 hlen hkc
    go_enter Tryz.func45, Tryz.ntmps45
    go_wp2_with fail
    generalize hW0 : w.alloc (.cells #[.bool b, .slice A k c] 47) = W0
    have hE : Ext w W0 := by rw [← hW0]; exact (Ext.rfl' w).alloc' _
    have hR : Row W0 w.heap.size 47 [.bool b, .slice A k c] := by rw [← hW0]; exact Row.new w _ _
    clear hW0
    go_loopw [3, 4] (fun v z wr => ∃ (i m : Nat) (bs : List UInt8) (A1 : Option Addr) (c1 : Nat), v = .slice A1 m c1 ∧ z = .int .i64 (i : Int) ∧ i ≤ k ∧ m ≤ 9 * i ∧ wr.ownsRow W0.heap.size 5 1 (.slice A1 m c1) m (Bytes bs) ∧ Ext W0 wr ∧ W0.heap.size ≤ wr.heap.size ∧
        Hid (TxO xs N i m bs)) (fun _ z _ => k - (intOf z).toNat)
    case atStart =>
      exact ⟨0, 0, [], none, 0, rfl, rfl, by omega, by omega, World.ownsRow_nil _ _ _ _, Ext.rfl' _, Nat.le_refl _, hid ⟨rfl, rfl, fun _ => ⟨rfl, by simpa [K.dvl] using HV.out⟩, fun e => absurd e (by rw [HLX.out]; omega)⟩⟩
    case round =>
      obtain ⟨i, m, bs, A1, c1, rfl, rfl, hik, hmi, hown, hex, hsz, htx⟩ := hrel
      have HOWN := hid hown
      have hrow := hR.ext hex
      have g0 : wr.cell? ⟨w.heap.size, 0, none⟩ = some (.bool b) := hrow.cell 0
      have g1 : wr.cell? ⟨w.heap.size, 1, none⟩ = some (.slice A k c) := hrow.cell 1
      clear hown
      by_cases hlt : i < k
      · obtain ⟨lb, lo, x, eA, ex, _, hx⟩ := ((HR.out.ext hE).ext hex).at_ (k := i) (by rw [HLX.out]; exact hlt)
        subst eA
        obtain ⟨hmm, htI⟩ := htx.out.enter HL.out ex
        have HTI := hid htI
        have HMM := hid hmm
        clear htI ex hmm htx
        go_wp2_with fail
        have hi1 : (i : Int) < (k : Int) := by omega
        clear hmi
        go_loopw [3, 5, 6] (fun v pt kt wq => ∃ (t p : Nat) (bs : List UInt8) (A1 : Option Addr) (c1 : Nat), v = .slice A1 (9 * i + t) c1 ∧ pt = .int .i64 (p : Int) ∧ kt = .int .i64 (t : Int) ∧ t ≤ 9 ∧ p < 1000000000 ∧ wq.ownsRow W0.heap.size 5 1 (.slice A1 (9 * i + t) c1) (9 * i + t) (Bytes bs) ∧ Ext W0 wq ∧ W0.heap.size ≤ wq.heap.size ∧
            Hid (TxI xs N i t p bs)) (fun _ _ kt _ => 9 - (intOf kt).toNat)
        case atStart => exact ⟨0, x, bs, A1, c1, by rw [HMM.out, Nat.add_zero], rfl, rfl, by omega, HTI.out.2.2.2.1, by have := HOWN.out; rwa [HMM.out] at this, hex, hsz, HTI⟩
        case round =>
          clear HOWN HTI hrow g0 g1 hx hex hsz
          obtain ⟨t, p, bs1, A2, c2, rfl, rfl, rfl, ht, hpb, hown, hex, hsz, hti⟩ := hrel
          have HOWN := hid hown
          have hrow := hR.ext hex
          have g0 : wr.cell? ⟨w.heap.size, 0, none⟩ = some (.bool b) := hrow.cell 0
          have g1 : wr.cell? ⟨w.heap.size, 1, none⟩ = some (.slice (some ⟨lb, lo, none⟩) k c) := hrow.cell 1
          clear hown
          by_cases hgo : t < 9 ∧ (0 < p ∨ i + 1 < k)
          · obtain ⟨ht9, hor⟩ := hgo
            have hstep := hti.out.step ht9 (by rw [HLX.out]; exact hor)
            have hch := K.chr_toNat (n := p % 10) (by omega)
            have HST := hid hstep
            have hval : ((48 : Int) + (p : Int) % 10) = ((K.chr (p % 10)).toNat : Int) := by rw [hch]; omega
            have HVAL := hid hval
            have hbd : K.chr (p % 10) = K.chr (p % 10) := rfl
            clear hstep hch hti hval hbd
            have hor2 : 0 < p ∨ (¬ 0 < p ∧ (i : Int) < (k : Int) - 1) := by omega
            clear hor
            rcases hor2 with hp | ⟨hp, hlast⟩
            · have hp2 : (0 : Int) < (p : Int) := by omega
              go_wp2_with (at_builtin; refine wpList_append_own _ rfl _ _ 141 rfl W0.heap.size 5 i0 (.int .u8 0) 1 1 Tryz.underlying141 hi hz0 hz1 hz2 rfl (by decide) _ _ _ rfl (HOWN.out.alloc _) ⟨wr.heap.size, 0, none⟩ 1 1 [_] rfl rfl (cell_one_new _ _ _) (fun u hu => by simp at hu; subst hu; rfl) ?c1 ?c2 ?c3 ?_)
              case c1 => unfold maxLen; omega
              case c2 => omega
              case c3 => first | omega | (simp; omega)
              intro v' w1 hown' hgrow hnil
              rw [HVAL.out, ← Bytes_snoc] at hown'
              obtain ⟨g, cap, sp, rfl, hg, hc1, hc2, hrow1, hvl, hsl⟩ := own_form hown' (by omega)
              have hex' : Ext W0 w1 := (hex.alloc' _).grown hgrow (by simp; omega) (by
                intro k hk
                exact (HOWN.out.lt k hk).1)
              have hsz' : W0.heap.size ≤ w1.heap.size := hex'.size
              have HO := hid hown'
              clear hown' hgrow hnil hrow1 hvl hsl hg hc1 hc2
              go_wp2
              go_roundw
              case rel => exact ⟨t + 1, p / 10, bs1 ++ [K.chr (p % 10)], _, _, rfl, by simp, by simp, by omega, by omega, HO.out, hex', hsz', HST⟩
              case measure => simp [intOf]; omega
            · obtain rfl : p = 0 := by omega
              have hB0 : Hid (Bytes (bs1 ++ [K.chr (0 % 10)]) = Bytes bs1 ++ [.int .u8 48]) := hid (by rw [Bytes_snoc]; rfl)
              go_wp2_with (at_builtin; refine wpList_append_own _ rfl _ _ 141 rfl W0.heap.size 5 i0 (.int .u8 0) 1 1 Tryz.underlying141 hi hz0 hz1 hz2 rfl (by decide) _ _ _ rfl (HOWN.out.alloc _) ⟨wr.heap.size, 0, none⟩ 1 1 [_] rfl rfl (cell_one_new _ _ _) (fun u hu => by simp at hu; subst hu; rfl) ?c1 ?c2 ?c3 ?_)
              case c1 => unfold maxLen; omega
              case c2 => omega
              case c3 => first | omega | (simp; omega)
              intro v' w1 hown' hgrow hnil
              rw [← hB0.out] at hown'
              obtain ⟨g, cap, sp, rfl, hg, hc1, hc2, hrow1, hvl, hsl⟩ := own_form hown' (by omega)
              have hex' : Ext W0 w1 := (hex.alloc' _).grown hgrow (by simp; omega) (by
                intro k hk
                exact (HOWN.out.lt k hk).1)
              have hsz' : W0.heap.size ≤ w1.heap.size := hex'.size
              have HO := hid hown'
              clear hown' hgrow hnil hrow1 hvl hsl hg hc1 hc2
              go_wp2
              go_roundw
              case rel => exact ⟨t + 1, 0 / 10, bs1 ++ [K.chr (0 % 10)], _, _, rfl, by simp, by simp, by omega, by omega, HO.out, hex', hsz', HST⟩
              case measure => simp [intOf]; omega
          · have hlv := hti.out.leave (by rw [HLX.out]; exact hlt) ht (by rw [HLX.out]; exact hgo)
            have HLV := hid hlv
            clear hlv hti
            by_cases h9 : t < 9
            · obtain rfl : p = 0 := by omega
              have hlast : ¬ (i : Int) < (k : Int) - 1 := by omega
              clear hgo
              go_wp2
              go_roundw
              case rel => exact ⟨i + 1, 9 * i + t, bs1, A2, c2, rfl, by simp, by omega, by omega, HOWN.out, hex, hsz, HLV⟩
              case measure => simp [intOf]; omega
            · obtain rfl : t = 9 := by omega
              clear hgo h9
              go_wp2
              go_roundw
              case rel => exact ⟨i + 1, 9 * i + 9, bs1, A2, c2, rfl, by simp, by omega, by omega, HOWN.out, hex, hsz, HLV⟩
              case measure => simp [intOf]; omega
      · obtain rfl : i = k := by omega
        have hte := htx.out.2.2.2 HLX.out.symm
        have hdg := text_end bs N htx.out.2.1 hte.1 hte.2.1 hte.2.2
        have hm0 : 0 < m := by
          rw [← htx.out.1]; exact List.length_pos_iff.2 hte.2.1
        have HBL0 : Hid (bs.length = m) := hid htx.out.1
        rw [HN.out] at hdg
        have HDG := hid hdg
        clear hdg hte htx
        by_cases hneg : n < 0
        · obtain rfl : b = true := by rw [hbn.out]; exact decide_eq_true hneg
          have htxt : K.txt n = (bs ++ [45]).reverse := by unfold K.txt; rw [if_pos hneg, HDG.out]; simp
          have HTXT := hid htxt
          clear htxt hneg
          have hB45 : Hid (Bytes (bs ++ [45]) = Bytes bs ++ [.int .u8 45]) := hid (Bytes_snoc bs 45)
          go_wp2_with (at_builtin; refine wpList_append_own _ rfl _ _ 141 rfl W0.heap.size 5 i0 (.int .u8 0) 1 1 Tryz.underlying141 hi hz0 hz1 hz2 rfl (by decide) _ _ _ rfl (HOWN.out.alloc _) ⟨wr.heap.size, 0, none⟩ 1 1 [_] rfl rfl (cell_one_new _ _ _) (fun u hu => by simp at hu; subst hu; rfl) ?c1 ?c2 ?c3 ?_)
          case c1 => unfold maxLen; omega
          case c2 => omega
          case c3 => first | omega | (simp; omega)
          intro v' wB hown' hgrow hnil
          rw [← hB45.out] at hown'
          obtain ⟨g, cap, sp, rfl, hg, hc1, hc2, hrowB, hvl, hsl⟩ := own_form hown' (by omega)
          have hex' : Ext W0 wB := (hex.alloc' _).grown hgrow (by simp; omega) (by
            intro k hk
            exact (HOWN.out.lt k hk).1)
          have hsz' : W0.heap.size ≤ wB.heap.size := hex'.size
          have HO := hid hown'
          clear hown' hgrow hnil hrowB hvl hsl hg hc1 hc2
          have HOB := HO
          have HBL : Hid ((bs ++ [45]).length = m + 1) := hid (by rw [List.length_append, HBL0.out]; rfl)
          have hexW : Ext w wB := hE.step hex'
          have hbn3 : K.txt n = ((bs ++ [45]).drop 0).reverse := HTXT.out
          clear hex hsz hrow g0 g1 HOWN HO hex' hsz' hB45 HTXT
          have HRB := hid (Rd.of_own HOB.out)
          have HBN := hid hbn3
          clear hbn3
          go_wp2_with fail
          go_loopw [7, 8] (fun v z wq => ∃ (q d : Nat) (zz : Int) (A3 : Option Addr) (c3 : Nat), v = .slice A3 d c3 ∧ z = .int .i64 zz ∧ zz + 1 = (q : Int) ∧ d + q = (m + 1) ∧ wq.ownsRow wB.heap.size 5 1 (.slice A3 d c3) d (Bytes ((bs ++ [45]).drop q).reverse) ∧ Ext wB wq ∧ wB.heap.size ≤ wq.heap.size) (fun _ z _ => (intOf z + 1).toNat)
          case atStart => exact ⟨(m + 1), 0, _, none, 0, rfl, rfl, by simp, by omega, by rw [List.drop_of_length_le (by rw [HBL.out]; omega)]; exact World.ownsRow_nil _ _ _ _, Ext.rfl' _, Nat.le_refl _⟩
          case round =>
            obtain ⟨q, d, zz, A3, c3, rfl, rfl, hzz, hq, hown, hex, hsz⟩ := hrel
            have HO3 := hid hown
            clear hown
            by_cases hq0 : q = 0
            · subst hq0
              obtain rfl : zz = -1 := by omega
              have hcv := conv_bytes HO3.out (by rw [List.length_reverse, List.length_drop, HBL.out]; omega)
              have hxx := (hexW.step hex)
              go_wp2
              go_ret
              exact ⟨by rw [HBN.out]; first | rfl | simp, hxx⟩
            · obtain ⟨r, rfl⟩ : ∃ r, q = r + 1 := ⟨q - 1, by omega⟩
              obtain rfl : zz = (r : Int) := by omega
              obtain ⟨x, ex⟩ : ∃ x, (bs ++ [45])[r]? = some x := ⟨_, List.getElem?_eq_getElem (by rw [HBL.out]; omega)⟩
              obtain ⟨bb, oo, eA, hx⟩ := (HRB.out.ext hex).byte ex
              have HX := hid ex
              cases eA
              try rw [Nat.zero_add] at hx
              clear ex
              go_wp2_with (at_builtin; refine wpList_append_own _ rfl _ _ 141 rfl wB.heap.size 5 i0 (.int .u8 0) 1 1 Tryz.underlying141 hi hz0 hz1 hz2 rfl (by decide) _ _ _ rfl (HO3.out.alloc _) ⟨wr.heap.size, 0, none⟩ 1 1 [_] rfl rfl (cell_one_new _ _ _) (fun u hu => by simp at hu; subst hu; rfl) ?c1 ?c2 ?c3 ?_)
              case c1 => unfold maxLen; omega
              case c2 => omega
              case c3 => first | omega | (simp; omega)
              intro v' w1 hown' hgrow hnil
              have hdum := trivial
              obtain ⟨g, cap, sp, rfl, hg, hc1, hc2, hrow1, hvl, hsl⟩ := own_form hown' (by omega)
              have hex' : Ext wB w1 := (hex.alloc' _).grown hgrow (by simp; omega) (by
                intro k hk
                exact (HO3.out.lt k hk).1)
              have hsz' : wB.heap.size ≤ w1.heap.size := hex'.size
              have HO := hid hown'
              clear hown' hgrow hnil hrow1 hvl hsl hg hc1 hc2
              go_wp2
              go_roundw
              case rel =>
                refine ⟨r, d + 1, (r : Int) - 1, some ⟨g, 0, none⟩, cap, rfl, rfl, by omega, by omega, ?_, hex', hsz'⟩
                · have h := HO.out
                  rw [drop_at HX.out, List.reverse_cons, Bytes_snoc]
                  simpa using h
              case measure => simp [intOf]

        · obtain rfl : b = false := by rw [hbn.out]; exact decide_eq_false hneg
          obtain ⟨wB, rfl⟩ : ∃ wB, wB = wr := ⟨_, rfl⟩
          have htxt : K.txt n = bs.reverse := by unfold K.txt; rw [if_neg hneg, HDG.out]
          have HOB := HOWN
          have HBL := HBL0
          have hexW : Ext w wB := hE.step hex
          have hbn3 : K.txt n = (bs.drop 0).reverse := htxt
          clear htxt hneg hex hsz
          have HRB := hid (Rd.of_own HOB.out)
          have HBN := hid hbn3
          clear hbn3
          go_wp2_with fail
          go_loopw [7, 8] (fun v z wq => ∃ (q d : Nat) (zz : Int) (A3 : Option Addr) (c3 : Nat), v = .slice A3 d c3 ∧ z = .int .i64 zz ∧ zz + 1 = (q : Int) ∧ d + q = m ∧ wq.ownsRow wB.heap.size 5 1 (.slice A3 d c3) d (Bytes (bs.drop q).reverse) ∧ Ext wB wq ∧ wB.heap.size ≤ wq.heap.size) (fun _ z _ => (intOf z + 1).toNat)
          case atStart => exact ⟨m, 0, _, none, 0, rfl, rfl, by simp, by omega, by rw [List.drop_of_length_le (by rw [HBL.out]; omega)]; exact World.ownsRow_nil _ _ _ _, Ext.rfl' _, Nat.le_refl _⟩
          case round =>
            obtain ⟨q, d, zz, A3, c3, rfl, rfl, hzz, hq, hown, hex, hsz⟩ := hrel
            have HO3 := hid hown
            clear hown
            by_cases hq0 : q = 0
            · subst hq0
              obtain rfl : zz = -1 := by omega
              have hcv := conv_bytes HO3.out (by rw [List.length_reverse, List.length_drop, HBL.out]; omega)
              have hxx := (hexW.step hex)
              go_wp2
              go_ret
              exact ⟨by rw [HBN.out]; first | rfl | simp, hxx⟩
            · obtain ⟨r, rfl⟩ : ∃ r, q = r + 1 := ⟨q - 1, by omega⟩
              obtain rfl : zz = (r : Int) := by omega
              obtain ⟨x, ex⟩ : ∃ x, bs[r]? = some x := ⟨_, List.getElem?_eq_getElem (by rw [HBL.out]; omega)⟩
              obtain ⟨bb, oo, eA, hx⟩ := (HRB.out.ext hex).byte ex
              have HX := hid ex
              cases eA
              try rw [Nat.zero_add] at hx
              clear ex
              go_wp2_with (at_builtin; refine wpList_append_own _ rfl _ _ 141 rfl wB.heap.size 5 i0 (.int .u8 0) 1 1 Tryz.underlying141 hi hz0 hz1 hz2 rfl (by decide) _ _ _ rfl (HO3.out.alloc _) ⟨wr.heap.size, 0, none⟩ 1 1 [_] rfl rfl (cell_one_new _ _ _) (fun u hu => by simp at hu; subst hu; rfl) ?c1 ?c2 ?c3 ?_)
              case c1 => unfold maxLen; omega
              case c2 => omega
              case c3 => first | omega | (simp; omega)
              intro v' w1 hown' hgrow hnil
              have hdum := trivial
              obtain ⟨g, cap, sp, rfl, hg, hc1, hc2, hrow1, hvl, hsl⟩ := own_form hown' (by omega)
              have hex' : Ext wB w1 := (hex.alloc' _).grown hgrow (by simp; omega) (by
                intro k hk
                exact (HO3.out.lt k hk).1)
              have hsz' : wB.heap.size ≤ w1.heap.size := hex'.size
              have HO := hid hown'
              clear hown' hgrow hnil hrow1 hvl hsl hg hc1 hc2
              go_wp2
              go_roundw
              case rel =>
                refine ⟨r, d + 1, (r : Int) - 1, some ⟨g, 0, none⟩, cap, rfl, rfl, by omega, by omega, ?_, hex', hsz'⟩
                · have h := HO.out
                  rw [drop_at HX.out, List.reverse_cons, Bytes_snoc]
                  simpa using h
              case measure => simp [intOf]

end Go.Proofs.YtleccblkafcidaaGreatDoor
/- the reference's Digits, Fits, Told -/
namespace Go.Proofs.YtleccblkafcidaaGreatDoor
open Go.RowKit
def cnt (p : Nat) : Nat := if p = 0 then 0 else (K.dgs p).length
theorem cnt_pos {p : Nat} (h : 0 < p) : cnt p = cnt (p / 10) + 1 := by
  unfold cnt
  rw [if_neg (by omega)]
  by_cases h1 : p < 10
  · rw [K.dgs_small h1, if_pos (by omega)]; rfl
  · rw [K.dgs_big h1, if_neg (by omega)]; simp
theorem cnt_le (p : Nat) (h : p < 1000000000) : cnt p ≤ 9 := by
  unfold cnt
  split
  · omega
  · exact (K.dgs_len p 9 (by omega)).2 h
theorem dgs_top {xs : List Nat} {top : Nat} {j : Nat} (hL : K.Lim xs) (hl : xs.length = j + 1) (ht : xs[j]? = some top) : 0 < top ∧ (K.dgs (K.lv xs)).length = 9 * j + cnt top := by
  have e := lv_take_at ht
  rw [List.take_of_length_le (by omega)] at e
  have h0 : 0 < top := by
    rcases Nat.eq_zero_or_pos top with h | h
    · exfalso
      apply hL.2
      rw [List.getLast?_eq_getElem?, hl, Nat.add_sub_cancel, ht, h]
    · exact h
  have h1 : K.lv (xs.take j) < 1000000000 ^ j := by
    have := K.lv_lt (xs.take j) (fun z hz => hL.1 z (List.mem_of_mem_take hz))
    rwa [List.length_take, Nat.min_eq_left (by omega)] at this
  have hc : cnt top = (K.dgs top).length := if_neg (by omega)
  refine ⟨h0, ?_⟩
  have hp : (1000000000 : Nat) ^ j = 10 ^ (9 * j) := by rw [Nat.pow_mul]
  rw [hp] at e h1
  have hct : 1 ≤ cnt top := by rw [cnt_pos h0]; omega
  have up : (K.dgs (K.lv xs)).length ≤ 9 * j + cnt top := by
    refine (K.dgs_len _ _ (by omega)).2 ?_
    have ht2 : top < 10 ^ cnt top := (K.dgs_len top _ hct).1 (by omega)
    rw [e, Nat.pow_add]
    have : 10 ^ (9 * j) * (top + 1) ≤ 10 ^ (9 * j) * 10 ^ cnt top := Nat.mul_le_mul_left _ ht2
    rw [Nat.mul_add] at this
    omega
  have lo : ¬ (K.dgs (K.lv xs)).length ≤ 9 * j + cnt top - 1 := by
    intro h
    by_cases hz : 1 ≤ 9 * j + cnt top - 1
    · have h2 := (K.dgs_len _ _ hz).1 h
      by_cases h3 : cnt top = 1
      · have h4 : 10 ^ (9 * j) * 1 ≤ 10 ^ (9 * j) * top := Nat.mul_le_mul_left _ h0
        rw [h3, show 9 * j + 1 - 1 = 9 * j by omega] at h2
        omega
      · have h4 : ¬ top < 10 ^ (cnt top - 1) := by
          intro h5
          have := (K.dgs_len top (cnt top - 1) (by omega)).2 h5
          omega
        have h5 : 10 ^ (9 * j) * 10 ^ (cnt top - 1) ≤ 10 ^ (9 * j) * top := Nat.mul_le_mul_left _ (by omega)
        rw [← Nat.pow_add, show 9 * j + (cnt top - 1) = 9 * j + cnt top - 1 by omega] at h5
        omega
    · have := len_pos' (K.dgs_ne (K.lv xs))
      omega
  omega
where
  len_pos' {a : List UInt8} (h : a ≠ []) : 0 < a.length := List.length_pos_iff.2 h
theorem fits_digits (n : Int) : (K.fits n ↔ ((K.dgs n.natAbs).length : Int) ≤ 2000) := by rw [K.fits_len]; omega
theorem top_succ (k : Nat) : TOP (k + 1) = TOP k * 1000000000 := TOP_add k 1
theorem add_big {a b : Int} (ha : K.fits a) (hb : K.fits b) : (a + b).natAbs ≤ BIG := by
  have h1 := fits_top ha
  have h2 := fits_top hb
  have h3 := top_succ 223
  exact le_big (a := 223 + 1) (by omega) (by omega)
theorem sub_big {a b : Int} (ha : K.fits a) (hb : K.fits b) : (a - b).natAbs ≤ BIG := by
  have h1 := fits_top ha
  have h2 := fits_top hb
  have h3 := top_succ 223
  exact le_big (a := 223 + 1) (by omega) (by omega)
theorem mul_big {a b : Int} (ha : K.fits a) (hb : K.fits b) : (a * b).natAbs ≤ BIG := by
  rw [Int.natAbs_mul]
  exact le_big (mul_top (fits_top ha) (fits_top hb)) (by omega)
end Go.Proofs.YtleccblkafcidaaGreatDoor
/- the reference's Of, at a number that is not negative -/
namespace Go.Proofs.YtleccblkafcidaaGreatDoor
open Go.RowKit
set_option maxRecDepth 100000 in
set_option maxHeartbeats 3200000 in
theorem of_nat (n : Nat) (w : World) (hn : n < 1000000000000000000) :
    Calls Tryz.prog 28 #[.int .i64 (n : Int)] w (RefPost (n : Int) w) := by
  obtain ⟨i0, hi, hz0, hz1, hz2⟩ := info_parts infoI
  go_enter Tryz.func28, Tryz.ntmps28
  go_wp2_with fail
  generalize hW0 : w.alloc (.cells #[.bool false, .slice none 0 0] 47) = W0
  have hE : Ext w W0 := by rw [← hW0]; exact (Ext.rfl' w).alloc' _
  have hR : Row W0 w.heap.size 47 [.bool false, .slice none 0 0] := by rw [← hW0]; exact Row.new w _ _
  clear hW0
  go_loopw [0, 4] (fun z v wr => ∃ (j q : Nat) (xs : List Nat) (A : Option Addr) (c : Nat), v = .slice A j c ∧ z = .int .i64 (q : Int) ∧ q ≤ n ∧ wr.ownsRow W0.heap.size 3 1 (.slice A j c) j (I64s xs) ∧ Ext W0 wr ∧ W0.heap.size ≤ wr.heap.size ∧
      Hid (xs.length = j ∧ K.lv xs + 1000000000 ^ j * q = n ∧ (∀ x ∈ xs, x < 1000000000) ∧ (0 < q ∨ xs.getLast? ≠ some 0) ∧ j ≤ 2)) (fun z _ _ => (intOf z).toNat)
  case atStart =>
    exact ⟨0, n, [], none, 0, rfl, rfl, Nat.le_refl _, World.ownsRow_nil _ _ _ _, Ext.rfl' _, Nat.le_refl _, hid ⟨rfl, by simp [K.lv], by simp, by simp, by omega⟩⟩
  case round =>
    obtain ⟨j, q, xs, A, c, rfl, rfl, hqn, hown, hex, hsz, hxs⟩ := hrel
    have HOWN := hid hown
    clear hown
    by_cases hq : 0 < q
    · have hj : j < 2 := by
        have h1 := hxs.out.2.1
        have h2 := hxs.out.2.2.2.2
        rcases Nat.lt_or_ge j 2 with h | h
        · exact h
        · obtain rfl : j = 2 := by omega
          simp at h1
          omega
      go_wp2_with (at_builtin; refine wpList_append_own _ rfl _ _ 22 rfl W0.heap.size 3 i0 (.int .i64 0) 1 8 Tryz.underlying22 hi hz0 hz1 hz2 rfl (by decide) _ _ _ rfl (HOWN.out.alloc _) ⟨wr.heap.size, 0, none⟩ 1 1 [.int .i64 ((q : Int) % 1000000000)] rfl rfl (cell_one_new _ _ _) (fun u hu => by simp at hu; subst hu; rfl) ?c1 ?c2 ?c3 ?_)
      case c1 => unfold maxLen; omega
      case c2 => omega
      case c3 => first | omega | (simp; omega)
      intro v' w1 hown' hgrow hnil
      obtain ⟨g, cap, sp, rfl, hg, hc1, hc2, hrow1, hvl, hsl⟩ := own_form hown' (by omega)
      have hex' : Ext W0 w1 := (hex.alloc' _).grown hgrow (by simp; omega) (by
        intro k hk
        exact (HOWN.out.lt k hk).1)
      have hsz' : W0.heap.size ≤ w1.heap.size := hex'.size
      have HO := hid hown'
      clear hown' hgrow hnil hrow1 hvl hsl hg hc1 hc2
      go_wp2
      go_roundw
      case rel =>
        have hx := hxs.out
        refine ⟨j + 1, q / 1000000000, xs ++ [q % 1000000000], _, _, rfl, by simp, by omega, by simpa using HO.out, hex', hsz', hid ⟨by simp [hx.1], ?_, ?_, ?_, by omega⟩⟩
        · rw [lv_snoc, hx.1, ← hx.2.1, Nat.pow_succ, Nat.mul_assoc, Nat.add_assoc, ← Nat.mul_add]
          congr 2
          omega
        · intro y hy
          rcases List.mem_append.1 hy with h | h
          · exact hx.2.2.1 y h
          · obtain rfl : y = q % 1000000000 := by simpa using h
            omega
        · by_cases h0 : 0 < q / 1000000000
          · exact .inl h0
          · refine .inr ?_
            rw [List.getLast?_append]
            simp
            omega
      case measure => simp [intOf]; omega
    · have hjc : j ≤ c := by
        rcases HOWN.out.2 with ⟨h, h0⟩ | ⟨g, cap, cur, h, hg, hh, hc, _⟩
        · injection h with h1 h2 h3; omega
        · injection h with h1 h2 h3; omega
      have hx := hxs.out
      have hrd := Rd.of_own HOWN.out
      have hr := hR.ext hex
      have c0 : wr.cell? ⟨w.heap.size, 0, none⟩ = some (.bool false) := hr.cell 0
      have c1 : wr.cell? ⟨w.heap.size, 1, none⟩ = some (.slice none 0 0) := hr.cell 1
      have f0 := hr.free 0
      have f1 := hr.free 1
      obtain rfl : q = 0 := by omega
      have hfin : RefPost (n : Int) w (.returned (.agg #[.bool false, .slice A j c])) ((wr.setCell ⟨w.heap.size, 0, none⟩ (.bool false)).setCell ⟨w.heap.size, 1, none⟩ (.slice A j c)) := by
        refine ⟨_, rfl, ⟨A, j, c, xs, false, rfl, ?_, hx.1, hjc, ?_, ⟨hx.2.2.1, hx.2.2.2.1.resolve_left (by omega)⟩, ?_⟩, ((hE.step hex).set' (Nat.le_refl _) _).set' (Nat.le_refl _) _⟩
        · refine hid ?_
          symm
          exact decide_eq_false (by omega)
        · refine Rd.two hrd ?_ hr
          intro u hu
          obtain ⟨y, _, rfl⟩ := List.mem_map.1 hu
          exact ⟨_, _, rfl⟩
        · rw [Int.natAbs_natCast, ← hx.2.1]; simp
      have HF := hid hfin
      clear hfin hx hrd hr hjc
      go_wp2
      refine bodyPost_ret (v := .agg #[.bool false, .slice A j c]) (by simp [results, Tryz.results28, go_sem, c0, c1]) rfl HF.out
end Go.Proofs.YtleccblkafcidaaGreatDoor
/- the reference's Of at 1, and Part -/
namespace Go.Proofs.YtleccblkafcidaaGreatDoor
open Go.RowKit
theorem rsign_at0 {v : Value} {n s : Int} (w : World) (h : RefV w v n) (hs : Hid (sgn0 n = s)) :
    Calls Tryz.prog 35 #[v] w (fun e w' => e = .returned (.int .i64 s) ∧ Ext w w') := by
  rw [← hs.out]; exact rsign_any v n w h
theorem of_one (w : World) : Calls Tryz.prog 28 #[.int .i64 1] w (RefPost 1 w) := of_nat 1 w (by omega)
theorem row_facts {w : World} {g : Nat} {t : TypeId} {a b : Value} (h : Row w g t [a, b]) : w.cell? ⟨g, 0, none⟩ = some a ∧ w.cell? ⟨g, 1, none⟩ = some b ∧ w.frozen? ⟨g, 0, none⟩ = false ∧ w.frozen? ⟨g, 1, none⟩ = false :=
  ⟨by rw [h.cell]; rfl, by rw [h.cell]; rfl, h.free 0, h.free 1⟩
/-- a number and a small one -/
def NumInt (q r : Int) (w : World) (e : Ending) (w' : World) : Prop := ∃ v, e = .returned (.tuple #[v, .int .i64 r]) ∧ RefV w' v q ∧ Ext w w'
theorem part_step {d x Q r X s : Nat} (h : d * Q + r = X) (hs : s = r * 1000000000 + x) : d * (s / d + 1000000000 * Q) + s % d = x + 1000000000 * X := by
  have h1 := Nat.div_add_mod s d
  rw [Nat.mul_add, ← h, Nat.mul_add, ← Nat.mul_assoc, Nat.mul_comm d 1000000000, Nat.mul_assoc]
  omega
theorem drop_set {l : List Nat} {j v : Nat} (h : j < l.length) : (l.set j v).drop j = v :: l.drop (j + 1) := by
  rw [List.drop_set, if_neg (Nat.lt_irrefl j), Nat.sub_self]
  rw [List.drop_eq_getElem_cons h]; rfl
theorem NumInt.stored {w w3 : World} {q r : Int} {b : Bool} {A : Option Addr} {k c H : Nat} {t : TypeId} (r1 : Row w3 H t [.bool false, .slice none 0 0]) (hw : Ext w w3) (hH : w.heap.size ≤ H) (hv : RefV w3 (.agg #[.bool b, .slice A k c]) q) :
    NumInt q r w (.returned (.tuple #[.agg #[.bool b, .slice A k c], .int .i64 r])) ((w3.setCell ⟨H, 0, none⟩ (.bool b)).setCell ⟨H, 1, none⟩ (.slice A k c)) := by
  obtain ⟨A', k', c', xs, b', e, h1, h2, h3, h4, h5, h6⟩ := hv
  cases e
  exact ⟨_, rfl, ⟨_, _, _, xs, _, rfl, h1, h2, h3, RefV.two h4 r1, h5, h6⟩, (hw.set' (by show _ ≤ H; omega) _).set' (by show _ ≤ H; omega) _⟩
set_option maxRecDepth 100000 in
set_option maxHeartbeats 3200000 in
theorem rpart_any (va : Value) (m : Int) (d : Nat) (w : World) (ha : RefV w va m) (la : m.natAbs ≤ BIG) (hd : 1 ≤ d) (hd2 : d ≤ 2147483647) :
    Calls Tryz.prog 26 #[va, .int .i64 (d : Int)] w (NumInt (m / d) (m % d) w) := by
  obtain ⟨A, n, ca, xs, na, rfl, HNA, hla, hca, hra, hLa, hva⟩ := ha
  have l1 := len_of_big hLa (by omega)
  have hn : n ≤ 1000 := by omega
  have HA := hid hra
  have LA := hid hla
  have HX := hid hLa
  have VA := hid hva
  have hmk := fun w => mkInts n (n : Int) rfl (by omega) w
  have hW2 : Ext w ((w.alloc (.cells #[.bool na, .slice A n ca] 47)).alloc (.cells #[.bool false, .slice none 0 0] 47)) := ((Ext.rfl' w).alloc' _).alloc' _
  have hk : ∀ w', Ext ((w.alloc (.cells #[.bool na, .slice A n ca] 47)).alloc (.cells #[.bool false, .slice none 0 0] 47)) w' →
      (w'.cell? ⟨w.heap.size, 0, none⟩ = some (.bool na) ∧ w'.cell? ⟨w.heap.size, 1, none⟩ = some (.slice A n ca)) ∧ Row w' (w.heap.size + 1) 47 [.bool false, .slice none 0 0] := by
    intro w' e
    have h1 := two_facts (W := w) (H := w.heap.size) (t := 47) (a := .bool na) (b := .slice A n ca) (Ext.step ((Ext.rfl' _).alloc' _) e) rfl
    have h2 := two_facts (W := (w.alloc (.cells #[.bool na, .slice A n ca] 47))) (H := w.heap.size + 1) (t := 47) (a := .bool false) (b := .slice none 0 0) e (by simp)
    exact ⟨⟨h1.1, h1.2.1⟩, h2.2.2.2.2.2⟩
  have hmade := Row.made ((w.alloc (.cells #[.bool na, .slice A n ca] 47)).alloc (.cells #[.bool false, .slice none 0 0] 47)) 3 (.int .i64 0) n
  obtain ⟨W2, hW2e⟩ : ∃ W2, ((w.alloc (.cells #[.bool na, .slice A n ca] 47)).alloc (.cells #[.bool false, .slice none 0 0] 47)) = W2 := ⟨_, rfl⟩
  have hsz : W2.heap.size = w.heap.size + 1 + 1 := by rw [← hW2e]; simp
  rw [hW2e] at hW2 hmade
  rw [hW2e] at hk
  rw [hsz, I64s_zeros] at hmade
  have HK := hid hk
  have HM := hid hmade
  have HSZ := hid hsz
  have HW2 := hid hW2
  have HE := hid hW2e
  clear hra hla hLa hva hW2 hk hmade hsz hW2e
  go_enter Tryz.func26, Tryz.ntmps26
  go_wp2
  rw [HE.out]
  go_loopw [7, 8, 9] (fun rz iz _ wr => ∃ (k r : Nat) (q : Int) (Os : List Nat), k ≤ n ∧ r < d ∧ rz = .int .i64 (r : Int) ∧ iz = .int .i64 q ∧ Hid (q = (k : Int) - 1) ∧ Row wr (w.heap.size + 1 + 1) 3 (I64s Os) ∧ Hid (Os.length = n) ∧ Hid (∀ x ∈ Os, x < 1000000000) ∧
      Hid (d * K.lv (Os.drop k) + r = K.lv (xs.drop k)) ∧ Ext W2 wr) (fun _ iz _ _ => (intOf iz + 1).toNat)
  case atStart => exact ⟨n, 0, (n : Int) - 1, List.replicate n 0, by omega, by omega, rfl, rfl, hid rfl, HM.out, hid (by simp), hid (by simp), hid (by rw [List.drop_of_length_le (by simp), List.drop_of_length_le (by rw [LA.out]; omega)]; simp [K.lv]), (Ext.rfl' _).alloc' _⟩
  case round =>
    obtain ⟨k, r, q, Os, hkn, hr, rfl, rfl, HQ, hrow, HL, HB9, HV, hex⟩ := hrel
    rcases Nat.eq_zero_or_pos k with h0 | h0
    · subst h0
      obtain rfl : q = -1 := by have := HQ.out; omega
      obtain ⟨⟨k0, k1⟩, -⟩ := HK.out _ hex
      have HRD := hid hrow.rd0
      have HVV : Hid (d * K.lv Os + r = m.natAbs) := hid (by have e := HV.out; rwa [List.drop_zero, List.drop_zero, VA.out] at e)
      clear hrow HV HQ
      go_wp2_with fail
      refine (rtrim_any false _ n n Os _ HRD.out HL.out (by omega) (by omega)).mono ?_
      rintro e w4 ⟨k4, b4, hk4, rfl, hb4, hcut, hx4⟩
      obtain rfl : b4 = false := by rw [hb4.out]; rfl
      have hx4' := hex.step hx4
      have hqv : K.lv Os = m.natAbs / d ∧ r = m.natAbs % d := by
        have e := HVV.out
        have h1 : m.natAbs / d = K.lv Os := by
          rw [← e, Nat.mul_add_div (by omega), Nat.div_eq_of_lt hr]; rfl
        have h2 : m.natAbs % d = r := by rw [← e, Nat.mul_add_mod, Nat.mod_eq_of_lt hr]
        exact ⟨h1.symm, h2.symm⟩
      have hQ : RefV w4 (.agg #[.bool false, .slice (some ⟨w.heap.size + 1 + 1, 0, none⟩) k4 n]) ((m.natAbs / d : Nat) : Int) := by
        refine ⟨_, k4, n, Os.take k4, false, rfl, hid ?_, by rw [List.length_take]; omega, by rw [HL.out] at hk4; omega, ?_, hcut.lim HB9.out, by rw [hcut.lv, hqv.1]; rfl⟩
        · symm; exact decide_eq_false (by omega)
        · rw [show I64s (Os.take k4) = (I64s Os).take k4 from List.map_take ..]
          exact (HRD.out.ext hx4).take k4
      have hQ2 := hQ.ext ((Ext.rfl' w4).alloc' (.cells #[.bool false, .slice (some ⟨w.heap.size + 1 + 1, 0, none⟩) k4 n] 47))
      have hx5 : Ext W2 (w4.alloc (.cells #[.bool false, .slice (some ⟨w.heap.size + 1 + 1, 0, none⟩) k4 n] 47)) := hx4'.alloc' _
      have hbox : ∀ w', Ext (w4.alloc (.cells #[.bool false, .slice (some ⟨w.heap.size + 1 + 1, 0, none⟩) k4 n] 47)) w' → w'.cell? ⟨w4.heap.size, 0, none⟩ = some (.bool false) ∧ w'.cell? ⟨w4.heap.size, 1, none⟩ = some (.slice (some ⟨w.heap.size + 1 + 1, 0, none⟩) k4 n) := fun w' e => by
        have := two_facts e rfl
        exact ⟨this.1, this.2.1⟩
      have hlt : w.heap.size + 1 < w4.heap.size := ((HK.out _ hx4').2).lt
      obtain ⟨W5, hW5⟩ : ∃ W5, w4.alloc (.cells #[.bool false, .slice (some ⟨w.heap.size + 1 + 1, 0, none⟩) k4 n] 47) = W5 := ⟨_, rfl⟩
      rw [hW5] at hQ2 hx5
      rw [hW5] at hbox
      have HW5 := hid hW5
      have HQ2 := hid hQ2
      have HX5 := hid hx5
      have HBOX := hid hbox
      have HQV := hid hqv
      clear hQ hQ2 hx5 hbox hx4 hx4' hqv hcut HVV HRD hmk k0 k1 hW5
      go_upto_region 10 with fail
      rw [HW5.out]
      obtain ⟨⟨j0, j1⟩, hrr⟩ := HK.out _ HX5.out
      obtain ⟨g0, g1, g2, g3⟩ := row_facts hrr
      obtain ⟨b0, b1⟩ := HBOX.out _ (Ext.rfl' _)
      have HRR := hid hrr
      clear hrr
      cases na with
      | false =>
        have hm : 0 ≤ m := by have := HNA.out; simpa using this.symm
        have hfin : NumInt (m / d) (m % d) w (.returned (.tuple #[.agg #[.bool false, .slice (some ⟨w.heap.size + 1 + 1, 0, none⟩) k4 n], .int .i64 (r : Int)])) ((W5.setCell ⟨w.heap.size + 1, 0, none⟩ (.bool false)).setCell ⟨w.heap.size + 1, 1, none⟩ (.slice (some ⟨w.heap.size + 1 + 1, 0, none⟩) k4 n)) := by
          have e1 : m / d = ((m.natAbs / d : Nat) : Int) := by rw [Int.natCast_ediv]; congr 1; omega
          have e2 : m % d = (r : Int) := by rw [HQV.out.2, Int.natCast_emod]; congr 1; omega
          rw [e1, e2]
          exact NumInt.stored HRR.out (HW2.out.step HX5.out) (by omega) HQ2.out
        have HF := hid hfin
        clear hfin hm
        go_wp2
        refine bodyPost_ret (v := .tuple #[.agg #[.bool false, .slice (some ⟨w.heap.size + 1 + 1, 0, none⟩) k4 n], .int .i64 (r : Int)]) (by simp [results, Tryz.results26, go_sem, g0, g1]) rfl HF.out
      | true =>
        have hm : m < 0 := by have := HNA.out; simpa using this.symm
        have hqB : m.natAbs / d ≤ BIG := Nat.le_trans (Nat.div_le_self _ _) la
        by_cases hr0 : r = 0
        · subst hr0
          have hv := div_neg (n := (d : Int)) hm (by omega) (by rw [Int.natAbs_natCast]; exact HQV.out.2.symm)
          rw [Int.natAbs_natCast] at hv
          have HVD := hid hv
          clear hv hm
          go_wp2_with fail
          refine (rminus_any _ _ _ HQ2.out).mono ?_
          rintro e w6 ⟨v6, rfl, hv6, hx6⟩
          rw [← HVD.out.1] at hv6
          have HV6 := hid hv6
          obtain ⟨A6, k6, c6, xs6, n6, rfl, -⟩ := hv6
          have hx56 := HX5.out.step hx6
          have hr6 := (HK.out _ hx56).2
          have hfin := NumInt.stored (r := m % d) hr6 (HW2.out.step hx56) (by omega) HV6.out
          rw [HVD.out.2] at hfin
          have HF := hid hfin
          obtain ⟨g0, g1, g2, g3⟩ := row_facts hr6
          clear hfin hr6 hx56 hx6
          go_wp2
          refine bodyPost_ret (v := .tuple #[.agg #[.bool n6, .slice A6 k6 c6], .int .i64 0]) (by simp [results, Tryz.results26, go_sem, g0, g1]) rfl ?_
          rw [← HVD.out.2] at HF ⊢
          exact HF.out
        · have hr1 : 0 < r := by omega
          have hv := div_neg' (n := (d : Int)) hm (by omega) (by rw [Int.natAbs_natCast, ← HQV.out.2]; exact hr1)
          rw [Int.natAbs_natCast, ← HQV.out.2] at hv
          have HVD := hid hv
          have hcur : Ext W5 W5 := Ext.rfl' _
          have hone : (1 : Int).natAbs ≤ BIG := by unfold BIG; rw [show (1000 : Nat) = 999 + 1 from rfl, zeros_succ, K.lv]; omega
          have hq2 : (((m.natAbs / d : Nat) : Int)).natAbs ≤ BIG := by rw [Int.natAbs_natCast]; exact hqB
          have HONE := hid hone
          have HQB := hid hq2
          have hr2 : r ≤ d := by omega
          have n1 : ¬ (w.heap.size + 1 = w4.heap.size) := by omega
          have n3 : ¬ (w4.heap.size = w.heap.size + 1) := by omega
          clear hv hm hr0 hone hq2 hqB
          have hwr : IntKind.i64.wrap ((d : Int) - (r : Int)) = (d : Int) - (r : Int) := IntWalk.i64_in _ (by omega)
          go_wp2_with fail
          go_region_held3 (fun w' => w'.cell? ⟨w4.heap.size, 0, none⟩ = some (.bool false) ∧ w'.cell? ⟨w4.heap.size, 1, none⟩ = some (.slice (some ⟨w.heap.size + 1 + 1, 0, none⟩) k4 n))
            (first | go_keep | exact HBOX.out _ hcur)
            (first
              | (go_at_call 28; refine (of_one _).mono ?_; rintro e w6 ⟨v6, rfl, hv6, hx⟩; have hcur := Ext.step hcur (by first | exact hx | exact Ext.undrew hx); have HV6 := hid hv6; obtain ⟨A6, k6, c6, xs6, n6, rfl, -⟩ := hv6)
              | (go_at_call 31; refine (radd_any _ _ _ _ _ (HQ2.out.ext ?_) (HV6.out.ext ?_) HQB.out HONE.out).mono ?_; (first | exact hcur | exact hcur.drew'); (first | exact Ext.rfl' _ | exact (Ext.rfl' _).drew'); rintro e w7 ⟨v7, rfl, hv7, hx⟩; have hcur := Ext.step hcur (by first | exact hx | exact Ext.undrew hx); have HV7 := hid hv7; obtain ⟨A7, k7, c7, xs7, n7, rfl, -⟩ := hv7)
              | (go_at_call 81; refine (rminus_any _ _ _ (HV7.out.ext ?_)).mono ?_; (first | exact Ext.rfl' _ | exact (Ext.rfl' _).drew'); rintro e w8 ⟨v8, rfl, hv8, hx⟩; have hcur := Ext.step hcur (by first | exact hx | exact Ext.undrew hx); have HV8 := hid hv8; obtain ⟨A8, k8, c8, xs8, n8, rfl, -⟩ := hv8; obtain ⟨g0, g1, g2, g3⟩ := row_facts (HK.out _ (HX5.out.step hcur)).2))
          all_goals
            have hx58 := HX5.out.step hcur
            have hr6 := (HK.out _ hx58).2
            have hv9 := HV8.out
            rw [show -(((m.natAbs / d : Nat) : Int) + 1) = m / d by rw [HVD.out.1]; omega] at hv9
            have hfin := NumInt.stored (r := m % d) hr6 (HW2.out.step hx58) (by omega) hv9
            rw [HVD.out.2, Int.ofNat_sub hr2] at hfin
            have HF := hid hfin
            clear hfin hr6 hx58 hv9
            go_wp2
            refine bodyPost_ret (v := .tuple #[.agg #[.bool n8, .slice A8 k8 c8], .int .i64 ((d : Int) - (r : Int))]) (by simp [results, Tryz.results26, go_sem, g0, g1]) rfl ?_
            rw [← Int.ofNat_sub hr2, ← HVD.out.2] at HF ⊢
            exact HF.out
    · obtain ⟨j, rfl⟩ : ∃ j, k = j + 1 := ⟨k - 1, by omega⟩
      obtain rfl : q = (j : Int) := by have := HQ.out; omega
      have hjn : j < n := by omega
      obtain ⟨⟨k0, k1⟩, -⟩ := HK.out _ hex
      obtain ⟨ba, oa, x, eA, exx, hba, hx⟩ := ((HA.out.ext HW2.out).ext hex).at_ (k := j) (by rw [LA.out]; exact hjn)
      subst eA
      have gx : x < 1000000000 := HX.out.1 x (mem_at exx)
      have hfree := hrow.free j
      have hcell : wr.cell? ⟨w.heap.size + 1 + 1, j, none⟩ = some (.int .i64 ((Os.getD j 0 : Nat) : Int)) := by
        rw [hrow.cell]; exact I64s_at (at_of_getD (by rw [HL.out]; exact hjn))
      obtain ⟨o, ho⟩ : ∃ o, Os.getD j 0 = o := ⟨_, rfl⟩
      rw [ho] at hcell
      obtain ⟨s, hs⟩ : ∃ s, r * 1000000000 + x = s := ⟨_, rfl⟩
      have hsd : s / d < 1000000000 := by
        rw [Nat.div_lt_iff_lt_mul (by omega)]
        have : (r + 1) * 1000000000 ≤ d * 1000000000 := Nat.mul_le_mul_right _ (by omega)
        rw [Nat.mul_comm d] at this
        omega
      have hsm : s % d < d := Nat.mod_lt _ (by omega)
      have hnew := I64s_put hrow j (s / d)
      have HNV : Hid (d * K.lv ((Os.set j (s / d)).drop j) + s % d = K.lv (xs.drop j)) := hid (by
        rw [drop_set (by rw [HL.out]; exact hjn), drop_at exx, K.lv, K.lv]
        exact part_step HV.out hs.symm)
      have HNL : Hid ((Os.set j (s / d)).length = n) := hid (by rw [List.length_set]; exact HL.out)
      have HNB : Hid (∀ z ∈ Os.set j (s / d), z < 1000000000) := hid (set_lt HB9.out hsd)
      have hsi : (r : Int) * 1000000000 + (x : Int) = (s : Int) := by omega
      have hex' := hex.set' (p := ⟨w.heap.size + 1 + 1, j, none⟩) (by show W2.heap.size ≤ w.heap.size + 1 + 1; rw [HSZ.out]; exact Nat.le_refl _) (.int .i64 ((s / d : Nat) : Int))
      have hev : ((r : Int) * 1000000000 + (x : Int)) / (d : Int) = ((s / d : Nat) : Int) := by rw [hsi]; rfl
      have her : Hid (Value.int .i64 (((r : Int) * 1000000000 + (x : Int)) % (d : Int)) = .int .i64 ((s % d : Nat) : Int)) := hid (by rw [hsi]; rfl)
      rw [← hev] at hnew hex'
      have HNR := hid hnew
      have HEX := hid hex'
      have hsb : s ≤ 2147483647999999999 := by omega
      clear ho hs hnew exx HQ hba h0 HV HB9 hsi hev hex'
      go_wp2
      go_roundw
      case rel => exact ⟨j, s % d, (j : Int) - 1, Os.set j (s / d), by omega, hsm, her.out, rfl, hid rfl, HNR.out, HNL, HNB, HNV, HEX.out⟩
      case measure => simp [intOf]
end Go.Proofs.YtleccblkafcidaaGreatDoor
/- maps in memory; step.validRule -/
namespace Go.Proofs.YtleccblkafcidaaGreatDoor
open Go.RowKit
abbrev Is (l : List Int) : List Value := l.map fun (x : Int) => Value.int .i64 x
theorem Rd.atI {w : World} {A : Option Addr} {l : List Int} (h : Rd w A (Is l)) {k : Nat} (hk : k < l.length) :
    ∃ b o, A = some ⟨b, o, none⟩ ∧ b < w.heap.size ∧ w.cell? ⟨b, o + k, none⟩ = some (.int .i64 (l.getD k 0)) := by
  rcases h with h | ⟨b, o, ha, hb, hc⟩
  · rw [List.map_eq_nil_iff] at h; subst h; cases hk
  · refine ⟨b, o, ha, hb, hc k _ ?_⟩
    rw [List.getElem?_map, List.getElem?_eq_getElem hk, List.getD_eq_getElem?_getD, List.getElem?_eq_getElem hk]; rfl
/-- a map in memory -/
def MapV (w : World) (v : Value) (m : Int) (us ad : List Int) : Prop :=
  ∃ A k c B l d, v = .agg #[.int .i64 m, .slice A k c, .slice B l d] ∧ us.length = k ∧ k ≤ c ∧ ad.length = l ∧ l ≤ d ∧ Rd w A (Is us) ∧ Rd w B (Is ad) ∧ k ≤ 140737488351232 ∧ l ≤ 140737488351232
/-- a map whose lists can be copied -/
def Fit8 (v : Value) : Prop := ∀ m A k c B l d, v = .agg #[.int .i64 m, .slice A k c, .slice B l d] → k * 8 ≤ 140737488355328 ∧ l * 8 ≤ 140737488355328
theorem MapV.ext {w w' : World} {v : Value} {m : Int} {us ad : List Int} (h : MapV w v m us ad) (e : Ext w w') : MapV w' v m us ad := by
  obtain ⟨A, k, c, B, l, d, h1, h2, h3, h4, h5, h6, h7, h8⟩ := h
  exact ⟨A, k, c, B, l, d, h1, h2, h3, h4, h5, h6.ext e, h7.ext e, h8⟩
/-- the box of a map -/
theorem three_facts {W w' : World} {a b c : Value} {t : TypeId} {H : Nat} (e : Ext (W.alloc (.cells #[a, b, c] t)) w') (hH : W.heap.size = H) :
    w'.cell? ⟨H, 0, none⟩ = some a ∧ w'.cell? ⟨H, 1, none⟩ = some b ∧ w'.cell? ⟨H, 2, none⟩ = some c ∧ Row w' H t [a, b, c] := by
  subst hH
  have r : Row w' W.heap.size t [a, b, c] := (Row.new W t [a, b, c]).ext e
  exact ⟨by rw [r.cell]; rfl, by rw [r.cell]; rfl, by rw [r.cell]; rfl, r⟩
set_option maxRecDepth 100000 in
set_option maxHeartbeats 800000 in
theorem validRule_any (m r u a : Int) (w : World) (hm : 2 ≤ m) (hm2 : m ≤ 12) (hr : 0 ≤ r) (hr2 : r < m) {b : Bool} (hb : Hid (ruleB m r u a = b)) :
    Calls Tryz.prog 106 #[.int .i64 m, .int .i64 r, .int .i64 u, .int .i64 a] w (fun e w' => e = .returned (.bool b) ∧ w = w') := by
  have hno : ∀ (_ : ¬ ruleP m r u a), Hid (b = false) := fun h => hid (by rw [← hb.out]; exact decide_eq_false h)
  by_cases h1 : u < 1
  · have HF := hno (fun h => by unfold ruleP at h; omega)
    clear hno hb
    go_enter Tryz.func106, Tryz.ntmps106
    go_wp2
    go_ret
    exact ⟨by rw [HF.out]; rfl, rfl⟩
  · by_cases h2 : 999 < u
    · have HF := hno (fun h => by unfold ruleP at h; omega)
      clear hno hb
      go_enter Tryz.func106, Tryz.ntmps106
      go_wp2
      go_ret
      exact ⟨by rw [HF.out]; rfl, rfl⟩
    · by_cases h3 : a < -999999
      · have HF := hno (fun h => by unfold ruleP at h; omega)
        clear hno hb
        go_enter Tryz.func106, Tryz.ntmps106
        go_wp2
        go_ret
        exact ⟨by rw [HF.out]; rfl, rfl⟩
      · by_cases h4 : 999999 < a
        · have HF := hno (fun h => by unfold ruleP at h; omega)
          clear hno hb
          go_enter Tryz.func106, Tryz.ntmps106
          go_wp2
          go_ret
          exact ⟨by rw [HF.out]; rfl, rfl⟩
        · have hp : 0 ≤ u * r ∧ u * r ≤ 10989 := by
            refine ⟨Int.mul_nonneg (by omega) hr, ?_⟩
            have := Int.mul_le_mul (show u ≤ 999 by omega) (show r ≤ 11 by omega) hr (by omega)
            omega
          obtain ⟨q, hq⟩ : ∃ q, u * r = q := ⟨_, rfl⟩
          rw [hq] at hp
          have hp1 := hp.1
          have hp2 := hp.2
          have HQ := hid hq
          have HF : Hid (((q + a).tmod m == 0) = b) := hid (by
            rw [← hb.out, Bool.eq_iff_iff]
            unfold ruleB
            rw [beq_iff_eq, decide_eq_true_iff, tmod_zero]
            unfold ruleP
            rw [hq]
            constructor
            · intro h; exact ⟨by omega, by omega, by omega, by omega, h⟩
            · intro h; exact h.2.2.2.2)
          clear hno hb hp
          go_enter Tryz.func106, Tryz.ntmps106
          go_wp2
          go_ret
          exact ⟨by show Ending.returned (.bool ((q + a).tmod m == 0)) = _; rw [HF.out], rfl⟩
end Go.Proofs.YtleccblkafcidaaGreatDoor
