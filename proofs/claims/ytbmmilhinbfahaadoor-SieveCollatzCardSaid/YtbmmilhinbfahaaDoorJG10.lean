/- Joined texts: package sieve: the closure visit, at a place that stays; package sieve: the closure visit, at a place that parts; package sieve: the closure visit; package sieve: Sieve, where the map and the number suit; package sieve: Sieve, the error ways; the sieve law package's awake: the numbers; the sieve law package's awake; the mathematics of the law SieveAll; the mathematics of the law SieveCollatz. -/
import Derived.Test.YtbmmilhinbfahaaDoorJG09
import Derived.Deep.RegionHeld3
import Derived.Laws.EntriesVeiled
import Derived.Test.YtbmmilhinbfahaaDoorJG08
import Derived.Test.YtbmmilhinbfahaaDoorJG06
set_option linter.unusedSimpArgs false
set_option linter.unusedVariables false
/- package sieve: the closure visit, at a place that stays -/
namespace Go.Proofs.YtbmmilhinbfahaaDoor
open Go.RowKit
theorem Row.grownR {W w1 : World} {row : Option Nat} {H : Nat} {t : TypeId} {vs : List Value} (h : Row W H t vs) (hg : W.grownBy w1 row) (hne : ∀ k, row = some k → H ≠ k) : Row w1 H t vs :=
  (hg.block H h.lt (fun e => hne H e.symm rfl)).trans h
theorem rd_news {w : World} {b o : Nat} {vs : List Value} (h : Rd w (some ⟨b, o, none⟩) vs) : ∀ j u, vs[j]? = some u → w.cell? (Addr.add ⟨b, o, none⟩ j) = some u := by
  intro j u hj
  have hadd : (⟨b, o, none⟩ : Addr).add j = ⟨b, o + j, none⟩ := by unfold Addr.add; split <;> simp_all
  rw [hadd]
  rcases h with h | ⟨b2, o2, e, -, hc⟩
  · rw [h] at hj; simp at hj
  · cases e
    exact hc j u hj
theorem below_n {r di : Int} {n N : Nat} (h0 : 0 ≤ r) (h1 : r < di) (ha : ∀ i : Nat, i < n → r + (i : Int) * di < di * (N : Int)) (hb : di * (N : Int) ≤ r + (n : Int) * di) : n = N := by
  rcases Nat.lt_trichotomy n N with h | h | h
  · exfalso
    have h2 : ((n : Int) + 1) * di ≤ (N : Int) * di := Int.mul_le_mul_of_nonneg_right (by omega) (by omega)
    rw [Int.add_mul, Int.one_mul] at h2
    rw [Int.mul_comm di] at hb
    omega
  · exact h
  · exfalso
    have h2 := ha N h
    rw [Int.mul_comm di] at h2
    omega
set_option maxRecDepth 100000 in
set_option maxHeartbeats 6400000 in
theorem visit_stay (w00 : World) (base BF BL BW BM BV : Nat) (wh : Int) (A : Option Addr) (n cc : Nat) (B : Option Addr) (n2 d2 : Nat) (m : Int) (f : Int × Int → ByteArray × ByteArray × ByteArray × ByteArray) (s : Nat) (r mu a di : Int) (vF vL : Value) (ps : List (Int × Int)) (ls : List Int) (w : World) (N : Nat) (HL : Hid (Lies w00 base BF BL BW BM BV)) (HE : Env w00 base BF BL BW BM BV wh [.int .i64 m, .slice A n cc, .slice B n2 d2] w) (HS0 : St base BF BL f w vF vL ps ls) (ht : Tab w) (hlt : Hid (¬ mu < di)) (hst : Hid (wh ≤ mu ∨ di = wh)) (hwh : Hid (wh = di * (N : Int))) (hN : 1 ≤ N) (hr0 : 0 ≤ r) (hr1 : r < di) (hdi : di ≤ 65536) (hw6 : wh ≤ 65536) (hn : ls.length ≤ 1000000) :
    Calls Tryd.prog 12 #[PlV (s : Int) r mu a di, .pointer (some ⟨BF, 0, none⟩), .pointer (some ⟨BW, 0, none⟩), .pointer (some ⟨BL, 0, none⟩), .pointer (some ⟨BM, 0, none⟩), .pointer (some ⟨BV, 0, none⟩)] w (VisPost base BF BL f w vF vL ps (ls ++ belowL r di N)) := by
  obtain ⟨i0, hi, hz0, hz1, hz2⟩ := info_parts infoI
  have hx : Ext w (w.alloc (.cells #[.int .i64 (s : Int), .int .i64 r, .int .i64 mu, .int .i64 a, .int .i64 di] 46)) := (Ext.rfl' w).alloc' _
  have hr : Row (w.alloc (.cells #[.int .i64 (s : Int), .int .i64 r, .int .i64 mu, .int .i64 a, .int .i64 di] 46)) w.heap.size 46 [.int .i64 (s : Int), .int .i64 r, .int .i64 mu, .int .i64 a, .int .i64 di] := Row.new w _ _
  have hsz : (w.alloc (.cells #[.int .i64 (s : Int), .int .i64 r, .int .i64 mu, .int .i64 a, .int .i64 di] 46)).heap.size = w.heap.size + 1 := by simp
  unfold PlV
  obtain ⟨w1, hw1⟩ : ∃ w1, w.alloc (.cells #[.int .i64 (s : Int), .int .i64 r, .int .i64 mu, .int .i64 a, .int .i64 di] 46) = w1 := ⟨_, rfl⟩
  rw [hw1] at hx hr hsz
  have HW := hid hw1
  have RP := hid hr
  have E1 := hid hx
  have HEN := hid (HE.of_ext hx)
  have HST := hid (HS0.ext hx)
  have HT := hid (ht.ext hx)
  have HSZ := hid hsz
  have HS00 := hid HS0
  obtain ⟨p0, p1, p2, p3, p4⟩ := row_facts5 hr
  clear hx hr hw1 hsz HS0
  go_enter Tryd.func12, Tryd.ntmps12
  go_upto_region 6 with fail
  rw [HW.out]
  go_wp2_with fail
  refine (falls_any (s : Int) r mu a di _ (b := false) (hid ⟨fun h => Bool.noConfusion h, fun h => by have := hlt.out; omega⟩)).mono ?_
  rintro e w2 ⟨rfl, hx⟩
  have E2 := hid (E1.out.step hx)
  replace HEN := hid (HEN.out.of_ext hx)
  replace HST := hid (HST.out.ext hx)
  replace HT := hid (HT.out.ext hx)
  replace RP := hid (RP.out.ext hx)
  have HSB := hid (Nat.le_trans (show w.heap.size + 1 ≤ w1.heap.size by rw [HSZ.out]; exact Nat.le_refl _) hx.size)
  clear hx p0 p1 p2 p3 p4
  have l3 : BF < base := HL.out.2.2.1
  have l4 : BL < base := HL.out.2.2.2.1
  have l5 : BW < base := HL.out.2.2.2.2.1
  have l8 : BF ≠ BL := HL.out.2.2.2.2.2.2.2.1
  have hk0 := HEN.out.rw_.cell 0
  have hk0 : w2.cell? ⟨BW, 0, none⟩ = some (.int .i64 wh) := hk0
  obtain ⟨p0, p1, p2, p3, p4⟩ := row_facts5 RP.out
  go_wp2_with fail
  refine (stays_any (s : Int) r mu a di wh _ (b := true) (hid ⟨fun _ => hst.out, fun _ => rfl⟩)).mono ?_
  rintro e w3 ⟨rfl, hx⟩
  replace E2 := hid (E2.out.step hx)
  replace HEN := hid (HEN.out.of_ext hx)
  replace HST := hid (HST.out.ext hx)
  replace RP := hid (RP.out.ext hx)
  clear hx p0 p1 p2 p3 p4 hk0
  have hbs : base ≤ w3.heap.size := HEN.out.hb
  have HOF := hid HST.out.2.2.1
  have HOL := hid HST.out.2.2.2
  have q0 : w3.cell? ⟨BL, 0, none⟩ = some vL := HST.out.2.1.cell 0
  have q1 := HST.out.2.1.free 0
  have k0 : w3.cell? ⟨BW, 0, none⟩ = some (.int .i64 wh) := HEN.out.rw_.cell 0
  obtain ⟨p0, p1, p2, p3, p4⟩ := row_facts5 RP.out
  have hcur : Ext w3 w3 := Ext.rfl' _
  have HN1 := hid hN
  go_upto_region 9 with fail
  go_region_law (first
    | (refine step_append_lies _ (by rfl) _ _ _ (by rfl) base 3 i0 (.int .i64 0) 1 8 Tryd.underlying22 hi hz0 hz1 hz2 rfl (by omega) vL ls.length (Is ls) (by rfl) (own_at HOL.out (fun g hg => hcur.block g (HOL.out.lt g hg).2)) ⟨bl, ol, none⟩ N cl (Is (belowL r di N)) (by rfl) (by simp [belowL_len]) (rd_news HRL.out) (by simp [Value.oneCell']) hN (by have : maxLen = 9223372036854775807 := rfl; omega) (by omega) (by have := hcur.size; omega) _ rfl ?_; intro g' cap' w8 hown8 hgrow hat hlt8; have rf8 := (HST.out.2.1.ext hcur).grownR hgrow (fun kk hkk => by have := (HOL.out.lt kk hkk).1; omega); have q0 : w8.cell? ⟨BL, 0, none⟩ = some vL := rf8.cell 0; have q1 := rf8.free 0)
    | (go_simp; go_at_call 16; refine (restsBelow_any (s : Int) r mu a di wh _ hr0 (by omega) hdi hw6).mono ?_; rintro e w10 ⟨L, nn, cl, rfl, hn6, hrl, hia, hib, hx⟩; have hcur := Ext.step hcur (by first | exact hx | exact Ext.undrew hx | exact Ext.step ((Ext.rfl' _).alloc' _) hx | exact Ext.step ((Ext.rfl' _).drew'.alloc' _) hx); (rw [hwh.out] at hia hib); (obtain rfl : N = nn := (below_n hr0 hr1 hia hib).symm); (obtain ⟨bl, ol, rfl, -, -⟩ := hrl.atI (k := 0) (by rw [belowL_len]; exact HN1.out)); have HRL := hid hrl; clear hia hib hrl; have q0 : w10.cell? ⟨BL, 0, none⟩ = some vL := (HST.out.2.1.ext hcur).cell 0; have q1 := (HST.out.2.1.ext hcur).free 0))
  all_goals
    have HF : Hid (∀ WF, WF = w8.setCell ⟨BL, 0, none⟩ (.slice (some ⟨g', 0, none⟩) (ls.length + N) cap') → VisPost base BF BL f w vF vL ps (ls ++ belowL r di N) (.returned (.tuple #[])) WF) := hid (by
      rintro WF rfl
      have hs10 := (E2.out.step hcur).size
      have hbk : ∀ j, j < w10.heap.size → j ≠ BL → vL.ownBlock ≠ some j → (w8.setCell ⟨BL, 0, none⟩ (.slice (some ⟨g', 0, none⟩) (ls.length + N) cap')).heap[j]? = w10.heap[j]? := fun j h1 h2 h3 => by
        rw [Below.heap_setCell _ _ _ j (by exact h2), hgrow.block j h1 (fun e => h3 e.symm)]
      refine ⟨rfl, vF, .slice (some ⟨g', 0, none⟩) (ls.length + N) cap', ⟨?_, rf8.set 0 _, ?_, ?_⟩, ?_⟩
      · exact (hbk BF (HST.out.1.ext hcur).lt (by omega) (fun e => by have := (HOL.out.lt BF e).1; omega)).trans (HST.out.1.ext hcur)
      · refine own_at HOF.out (fun g hg => (hbk g (Nat.lt_of_lt_of_le (HOF.out.lt g hg).2 hcur.size) (by have := (HOF.out.lt g hg).1; omega) (fun e => HST.out.apart g hg e)).trans (hcur.block g (HOF.out.lt g hg).2))
      · have h1 : Is (ls ++ belowL r di N) = Is ls ++ Is (belowL r di N) := by simp
        rw [h1, List.length_append, belowL_len]
        exact own_at hown8 (fun g hg => Below.heap_setCell _ _ _ g (by show g ≠ BL; have := (hown8.lt g hg).1; omega))
      · exact ⟨hgrow.os.trans (E2.out.step hcur).os, hgrow.tape.trans (E2.out.step hcur).tape, hgrow.output.trans (E2.out.step hcur).output, Nat.le_trans hs10 (by have := hgrow.size; simp; omega), fun j h1 h2 h3 h4 h5 => (hbk j (by omega) h3 h5).trans ((E2.out.step hcur).block j h1), fun g hg => .inl hg, fun g hg => by
          have hg' : g' = g := by injection hg
          subst hg'
          rcases hat with h6 | h6
          · exact .inl h6
          · right; omega⟩)
    clear hown8 hgrow hat hcur
    go_wp2
    go_end0
    exact HF.out _ rfl
end Go.Proofs.YtbmmilhinbfahaaDoor
/- package sieve: the closure visit, at a place that parts -/
namespace Go.Proofs.YtbmmilhinbfahaaDoor
open Go.RowKit
theorem visit_row {w00 w W w2 : World} {base BF BL BW BM BV : Nat} {t : TypeId} {vs : List Value} {f0 l0 f1 l1 : Value} (L : Lies w00 base BF BL BW BM BV) (hb : base ≤ w.heap.size) (h : Row W w.heap.size t vs) (hn : f0.ownBlock ≠ some w.heap.size ∧ l0.ownBlock ≠ some w.heap.size) (c : Chg BF BL W f0 l0 w2 f1 l1) : Row w2 w.heap.size t vs :=
  (c.block w.heap.size h.lt (by have := L.2.2.1; omega) (by have := L.2.2.2.1; omega) hn.1 hn.2).trans h
theorem flat_range {α : Type} (g : Nat → List α) (j : Nat) : (List.range (j + 1)).flatMap g = (List.range j).flatMap g ++ g j := by
  rw [List.range_succ, List.flatMap_append]; simp
theorem flat_bd {α : Type} (g : Nat → List α) (Bd M : Nat) (h : ∀ t, t < M → (g t).length ≤ Bd) : ∀ j, j ≤ M → ((List.range j).flatMap g).length ≤ j * Bd := by
  intro j hj
  have := flat_len g Bd (List.range j) (fun x hx => h x (by have := List.mem_range.1 hx; omega))
  rwa [List.length_range] at this
set_option maxRecDepth 100000 in
set_option maxHeartbeats 12800000 in
theorem visit_part (w00 : World) (base BF BL BW BM BV : Nat) (wh : Int) (A : Option Addr) (n cc : Nat) (B : Option Addr) (n2 d2 : Nat) (m : Int) (f : Int × Int → ByteArray × ByteArray × ByteArray × ByteArray) (s : Nat) (r mu a di : Int) (vF vL : Value) (ps : List (Int × Int)) (ls : List Int) (w : World) (M Bd : Nat) (V : Nat → List (Int × Int) × List Int) (HL : Hid (Lies w00 base BF BL BW BM BV)) (HE : Env w00 base BF BL BW BM BV wh [.int .i64 m, .slice A n cc, .slice B n2 d2] w) (HS0 : St base BF BL f w vF vL ps ls) (ht : Tab w) (hlt : Hid (¬ mu < di)) (hst : Hid (¬ (wh ≤ mu ∨ di = wh))) (hm : Hid (m = (M : Int))) (hM : M ≤ 1000)
    (hV : Hid (∀ t, t < M → (V t).1.length ≤ Bd ∧ (V t).2.length ≤ Bd)) (hp : ps.length + M * Bd ≤ 1000000) (hl : ls.length + M * Bd ≤ 1000000)
    (HCH : Hid (∀ t : Nat, t < M → ∃ x u2 a2 e2 : Int, (∀ W', Env w00 base BF BL BW BM BV wh [.int .i64 m, .slice A n cc, .slice B n2 d2] W' → Calls Tryd.prog 17 #[PlV (s : Int) r mu a di, .agg #[.int .i64 m, .slice A n cc, .slice B n2 d2], .int .i64 (t : Int)] W' (fun e w' => e = .returned (PlV ((s : Int) + 1) x u2 a2 e2) ∧ Ext W' w')) ∧
      (∀ (W' : World) (vF vL : Value) (ps : List (Int × Int)) (ls : List Int), Env w00 base BF BL BW BM BV wh [.int .i64 m, .slice A n cc, .slice B n2 d2] W' → St base BF BL f W' vF vL ps ls → ps.length + Bd ≤ 1000000 → ls.length + Bd ≤ 1000000 → Calls Tryd.prog 12 #[PlV ((s : Int) + 1) x u2 a2 e2, .pointer (some ⟨BF, 0, none⟩), .pointer (some ⟨BW, 0, none⟩), .pointer (some ⟨BL, 0, none⟩), .pointer (some ⟨BM, 0, none⟩), .pointer (some ⟨BV, 0, none⟩)] W' (VisPost base BF BL f W' vF vL (ps ++ (V t).1) (ls ++ (V t).2))))) :
    Calls Tryd.prog 12 #[PlV (s : Int) r mu a di, .pointer (some ⟨BF, 0, none⟩), .pointer (some ⟨BW, 0, none⟩), .pointer (some ⟨BL, 0, none⟩), .pointer (some ⟨BM, 0, none⟩), .pointer (some ⟨BV, 0, none⟩)] w (VisPost base BF BL f w vF vL (ps ++ (List.range M).flatMap (fun t => (V t).1)) (ls ++ (List.range M).flatMap (fun t => (V t).2))) := by
  have HPB := hid hp
  have HLB := hid hl
  clear hp hl
  have hx : Ext w (w.alloc (.cells #[.int .i64 (s : Int), .int .i64 r, .int .i64 mu, .int .i64 a, .int .i64 di] 46)) := (Ext.rfl' w).alloc' _
  have hr : Row (w.alloc (.cells #[.int .i64 (s : Int), .int .i64 r, .int .i64 mu, .int .i64 a, .int .i64 di] 46)) w.heap.size 46 [.int .i64 (s : Int), .int .i64 r, .int .i64 mu, .int .i64 a, .int .i64 di] := Row.new w _ _
  have hsz : (w.alloc (.cells #[.int .i64 (s : Int), .int .i64 r, .int .i64 mu, .int .i64 a, .int .i64 di] 46)).heap.size = w.heap.size + 1 := by simp
  unfold PlV
  obtain ⟨w1, hw1⟩ : ∃ w1, w.alloc (.cells #[.int .i64 (s : Int), .int .i64 r, .int .i64 mu, .int .i64 a, .int .i64 di] 46) = w1 := ⟨_, rfl⟩
  rw [hw1] at hx hr hsz
  have HW := hid hw1
  have RP := hid hr
  have E1 := hid hx
  have HEN := hid (HE.of_ext hx)
  have HST := hid (HS0.ext hx)
  have HT := hid (ht.ext hx)
  have HSZ := hid hsz
  have HS00 := hid HS0
  obtain ⟨p0, p1, p2, p3, p4⟩ := row_facts5 hr
  clear hx hr hw1 hsz HS0
  go_enter Tryd.func12, Tryd.ntmps12
  go_upto_region 6 with fail
  rw [HW.out]
  go_wp2_with fail
  refine (falls_any (s : Int) r mu a di _ (b := false) (hid ⟨fun h => Bool.noConfusion h, fun h => by have := hlt.out; omega⟩)).mono ?_
  rintro e w2 ⟨rfl, hx⟩
  have E2 := hid (E1.out.step hx)
  replace HEN := hid (HEN.out.of_ext hx)
  replace HST := hid (HST.out.ext hx)
  replace HT := hid (HT.out.ext hx)
  replace RP := hid (RP.out.ext hx)
  have HSB := hid (Nat.le_trans (show w.heap.size + 1 ≤ w1.heap.size by rw [HSZ.out]; exact Nat.le_refl _) hx.size)
  clear hx p0 p1 p2 p3 p4
  have hk0 : w2.cell? ⟨BW, 0, none⟩ = some (.int .i64 wh) := HEN.out.rw_.cell 0
  obtain ⟨p0, p1, p2, p3, p4⟩ := row_facts5 RP.out
  go_wp2_with fail
  refine (stays_any (s : Int) r mu a di wh _ (b := false) (hid ⟨fun h => Bool.noConfusion h, fun h => absurd h hst.out⟩)).mono ?_
  rintro e w3 ⟨rfl, hx⟩
  replace E2 := hid (E2.out.step hx)
  replace HEN := hid (HEN.out.of_ext hx)
  replace HST := hid (HST.out.ext hx)
  replace RP := hid (RP.out.ext hx)
  replace HSB := hid (Nat.le_trans HSB.out hx.size)
  clear hx p0 p1 p2 p3 p4 hk0
  have HS : Hid (∀ W', Row W' w.heap.size 46 [.int .i64 (s : Int), .int .i64 r, .int .i64 mu, .int .i64 a, .int .i64 di] → Env w00 base BF BL BW BM BV wh [.int .i64 m, .slice A n cc, .slice B n2 d2] W' → W'.cell? ⟨w.heap.size, 0, none⟩ = some (.int .i64 (s : Int)) ∧ W'.cell? ⟨w.heap.size, 1, none⟩ = some (.int .i64 r) ∧ W'.cell? ⟨w.heap.size, 2, none⟩ = some (.int .i64 mu) ∧ W'.cell? ⟨w.heap.size, 3, none⟩ = some (.int .i64 a) ∧ W'.cell? ⟨w.heap.size, 4, none⟩ = some (.int .i64 di) ∧ W'.cell? ⟨BM, 0, none⟩ = some (.int .i64 m) ∧ W'.cell? ⟨BM, 1, none⟩ = some (.slice A n cc) ∧ W'.cell? ⟨BM, 2, none⟩ = some (.slice B n2 d2) ∧ W'.cell? ⟨BV, 0, none⟩ = some (.func (.func 12) #[] #[.pointer (some ⟨BF, 0, none⟩), .pointer (some ⟨BW, 0, none⟩), .pointer (some ⟨BL, 0, none⟩), .pointer (some ⟨BM, 0, none⟩), .pointer (some ⟨BV, 0, none⟩)])) := hid (by
    intro W' h1 h2
    obtain ⟨x0, x1, x2, x3, x4⟩ := row_facts5 h1
    obtain ⟨y0, y1, y2, -, -, -⟩ := row_facts3 h2.rm
    exact ⟨x0, x1, x2, x3, x4, y0, y1, y2, h2.rv.cell 0⟩)
  obtain ⟨f0, f1, f2, -, -, -⟩ := row_facts3 HEN.out.rm
  have HMM := hid hm.out
  rw [hm.out] at f0
  go_wp2_with fail
  go_loopw [10] (fun iz wr => ∃ (j : Nat) (vF' vL' : Value), j ≤ M ∧ iz = .int .i64 (j : Int) ∧ Row wr w.heap.size 46 [.int .i64 (s : Int), .int .i64 r, .int .i64 mu, .int .i64 a, .int .i64 di] ∧ Env w00 base BF BL BW BM BV wh [.int .i64 m, .slice A n cc, .slice B n2 d2] wr ∧ St base BF BL f wr vF' vL' (ps ++ (List.range j).flatMap (fun t => (V t).1)) (ls ++ (List.range j).flatMap (fun t => (V t).2)) ∧ Chg BF BL w3 vF vL wr vF' vL') (fun iz _ => M - (intOf iz).toNat)
  case atStart => exact ⟨0, vF, vL, by omega, rfl, RP.out, HEN.out, by simpa using HST.out, Chg.of_ext (Ext.rfl' _) vF vL⟩
  case round =>
    clear f0 f1 f2 HEN HST RP
    obtain ⟨j, vF', vL', hj, rfl, hr1, hen, hst', hch⟩ := hrel
    have RP := hid hr1
    have HEN := hid hen
    have HST := hid hst'
    have HCG := hid hch
    clear hr1 hen hst' hch
    by_cases hlt2 : j < M
    · obtain ⟨x, u2, a2, e2, HC1, HC2⟩ := HCH.out j hlt2
      have HC1 := hid HC1
      have HC2 := hid (HC2 · vF' vL' (ps ++ (List.range j).flatMap (fun t => (V t).1)) (ls ++ (List.range j).flatMap (fun t => (V t).2)))
      have HLEN : Hid ((ps ++ (List.range j).flatMap (fun t => (V t).1)).length + Bd ≤ 1000000 ∧ (ls ++ (List.range j).flatMap (fun t => (V t).2)).length + Bd ≤ 1000000) := hid (by
        have h1 := flat_bd (fun t => (V t).1) Bd M (fun t h => (hV.out t h).1) j (by omega)
        have h2 := flat_bd (fun t => (V t).2) Bd M (fun t h => (hV.out t h).2) j (by omega)
        have h3 : (j + 1) * Bd ≤ M * Bd := Nat.mul_le_mul_right _ (by omega)
        rw [Nat.succ_mul] at h3
        have := HPB.out
        have := HLB.out
        rw [List.length_append, List.length_append]
        omega)
      have HNH : Hid (vF'.ownBlock ≠ some w.heap.size ∧ vL'.ownBlock ≠ some w.heap.size) := hid (by
        refine ⟨fun e => ?_, fun e => ?_⟩
        · rcases HCG.out.newF _ e with h | h
          · have := (HS00.out.2.2.1.lt _ h).2; omega
          · have := HSB.out; omega
        · rcases HCG.out.newL _ e with h | h
          · have := (HS00.out.2.2.2.lt _ h).2; omega
          · have := HSB.out; omega)
      have jj : (j : Int) < (M : Int) := by omega
      have hcur : Ext wr wr := Ext.rfl' _
      go_upto_region 4 with fail
      go_region_held3 (fun W' => W'.cell? ⟨w.heap.size, 0, none⟩ = some (.int .i64 (s : Int)) ∧ W'.cell? ⟨w.heap.size, 1, none⟩ = some (.int .i64 r) ∧ W'.cell? ⟨w.heap.size, 2, none⟩ = some (.int .i64 mu) ∧ W'.cell? ⟨w.heap.size, 3, none⟩ = some (.int .i64 a) ∧ W'.cell? ⟨w.heap.size, 4, none⟩ = some (.int .i64 di) ∧ W'.cell? ⟨BM, 0, none⟩ = some (.int .i64 m) ∧ W'.cell? ⟨BM, 1, none⟩ = some (.slice A n cc) ∧ W'.cell? ⟨BM, 2, none⟩ = some (.slice B n2 d2) ∧ W'.cell? ⟨BV, 0, none⟩ = some (.func (.func 12) #[] #[.pointer (some ⟨BF, 0, none⟩), .pointer (some ⟨BW, 0, none⟩), .pointer (some ⟨BL, 0, none⟩), .pointer (some ⟨BM, 0, none⟩), .pointer (some ⟨BV, 0, none⟩)]))
        (first | (with_reducible exact HS.out _ RP20 HEN20) | (with_reducible exact HS.out _ (RP.out.ext hcur) (HEN.out.of_ext hcur)) | (with_reducible exact HS.out _ (RP.out.ext hcur.drew') (HEN.out.of_ext hcur.drew')) | go_keep)
        (first
          | (go_at_call 17; refine (HC1.out _ (HEN.out.of_ext ?_)).mono ?_; (first | exact hcur | exact hcur.drew' | exact hcur.alloc' _ | exact hcur.drew'.alloc' _ | exact (hcur.alloc' _).drew'); rintro e w10 ⟨rfl, hx⟩; have hcur := Ext.step hcur (by first | exact hx | exact Ext.undrew hx | exact Ext.step ((Ext.rfl' _).alloc' _) hx | exact Ext.step ((Ext.rfl' _).drew'.alloc' _) hx))
          | (go_at_call 12; refine (HC2.out _ (HEN.out.of_ext ?_) (HST.out.ext ?_) HLEN.out.1 HLEN.out.2).mono ?_; (first | exact hcur | exact hcur.drew' | exact hcur.alloc' _ | exact hcur.drew'.alloc' _ | exact (hcur.alloc' _).drew'); (first | exact hcur | exact hcur.drew' | exact hcur.alloc' _ | exact hcur.drew'.alloc' _ | exact (hcur.alloc' _).drew'); rintro e w20 ⟨rfl, vF2, vL2, hst2, hch2⟩; have HST2 := hid hst2; have HCG2 := hid (Chg.trans (Chg.of_ext (by (first | exact hcur | exact hcur.drew' | exact hcur.alloc' _ | exact hcur.drew'.alloc' _ | exact (hcur.alloc' _).drew')) vF' vL') hch2); have RP20 := visit_row HL.out HE.hb RP.out HNH.out HCG2.out; have HEN20 := HEN.out.chg HL.out (fun g hg => (HST.out.2.2.1.lt g hg).1) (fun g hg => (HST.out.2.2.2.lt g hg).1) HCG2.out))
      all_goals
        have HF : Hid (∃ (j' : Nat) (vF' vL' : Value), j' ≤ M ∧ Value.int .i64 ((j : Int) + 1) = .int .i64 (j' : Int) ∧ Row w20 w.heap.size 46 [.int .i64 (s : Int), .int .i64 r, .int .i64 mu, .int .i64 a, .int .i64 di] ∧ Env w00 base BF BL BW BM BV wh [.int .i64 m, .slice A n cc, .slice B n2 d2] w20 ∧ St base BF BL f w20 vF' vL' (ps ++ (List.range j').flatMap (fun t => (V t).1)) (ls ++ (List.range j').flatMap (fun t => (V t).2)) ∧ Chg BF BL w3 vF vL w20 vF' vL') := hid ⟨j + 1, vF2, vL2, by omega, by simp, RP20, HEN20, by rw [flat_range, flat_range, ← List.append_assoc, ← List.append_assoc]; exact HST2.out, HCG.out.trans HCG2.out⟩
        clear hcur
        go_wp2
        go_roundw
        case rel => exact HF.out
        case measure => first | (simp [intOf]; done) | (simp [intOf]; omega)
    · obtain rfl : j = M := by omega
      have HF : Hid (VisPost base BF BL f w vF vL (ps ++ (List.range j).flatMap (fun t => (V t).1)) (ls ++ (List.range j).flatMap (fun t => (V t).2)) (.returned (.tuple #[])) wr) := hid ⟨rfl, vF', vL', HST.out, (Chg.of_ext E2.out vF vL).trans HCG.out⟩
      go_wp2_with fail
      go_end0
      exact HF.out
end Go.Proofs.YtbmmilhinbfahaaDoor
/- package sieve: the closure visit -/
namespace Go.Proofs.YtbmmilhinbfahaaDoor
open Go.RowKit
theorem lnX_congr {m : Int} {us ad : List Int} (hm : 0 < m) {s : Nat} {X Y : Int} (h : X % m ^ s = Y % m ^ s) : lnX m us ad Y s = lnX m us ad X s := by
  unfold lnX; rw [wordI_congr hm h]
/-- where a place lies: bounds of its numbers -/
theorem place_bds {m : Int} {us ad : List Int} (hM : mapP m us ad) {k s : Nat} (hs : s ≤ k) (h6 : m ^ k ≤ 65536) (r : Int) : 1 ≤ m ^ s ∧ m ^ s ≤ 65536 ∧ 1 ≤ (lnX m us ad r s).1 ∧ ((lnX m us ad r s).1 ≤ 65536 → (lnX m us ad r s).2.1.natAbs ≤ 4294967296000000) := by
  have hm := hM.1
  have h1 : 1 ≤ m ^ s := Int.pow_pos (by omega)
  have h2 := pow_grow hm hs
  have h3 := lnX_pos hM r s
  refine ⟨h1, by omega, h3, fun h4 => ?_⟩
  have h5 := lnX_add hM r s
  have h7 : (lnX m us ad r s).1.natAbs * (m ^ s).natAbs ≤ 65536 * 65536 := Nat.mul_le_mul (by omega) (by omega)
  have : 1000000 * ((lnX m us ad r s).1.natAbs * (m ^ s).natAbs) ≤ 1000000 * (65536 * 65536) := Nat.mul_le_mul_left _ h7
  omega
theorem two_pow {m : Int} (hm : 2 ≤ m) : ∀ s : Nat, (2 : Int) ^ s ≤ m ^ s
  | 0 => by simp
  | s + 1 => by
    rw [Int.pow_succ, Int.pow_succ]
    have h1 := two_pow hm s
    have h2 : 0 < m ^ s := Int.pow_pos (by omega)
    exact Int.mul_le_mul h1 hm (by omega) (by omega)
theorem steps_few {m : Int} (hm : 2 ≤ m) {s : Nat} (h : m ^ s ≤ 65536) : s ≤ 1000 := by
  rcases Nat.lt_or_ge 16 s with h1 | h1
  · exfalso
    have h2 : m ^ 17 ≤ m ^ s := pow_grow hm h1
    have h3 : (2 : Int) ^ 17 ≤ m ^ 17 := two_pow hm 17
    have h4 : (2 : Int) ^ 17 = 131072 := by decide
    omega
  · omega
/-- a child, by the linear map of its own rest -/
theorem child_at {m : Int} {us ad : List Int} (hM : mapP m us ad) {k s : Nat} (hs : s < k) (h6 : m ^ k ≤ 65536) {r : Int} (h0 : 0 ≤ r) (h1 : r < m ^ s) (hmu : (lnX m us ad r s).1 ≤ 65536) (t : Nat) (ht : (t : Int) < m) (v : Value) (w : World) (hv : MapV w v m us ad) :
    Calls Tryd.prog 17 #[PlV (s : Int) r (lnX m us ad r s).1 (lnX m us ad r s).2.1 (m ^ s), v, .int .i64 (t : Int)] w (fun e w' => e = .returned (PlV ((s : Int) + 1) (r + (t : Int) * m ^ s) (lnX m us ad (r + (t : Int) * m ^ s) (s + 1)).1 (lnX m us ad (r + (t : Int) * m ^ s) (s + 1)).2.1 (m ^ (s + 1))) ∧ Ext w w') := by
  have hm := hM.1
  obtain ⟨b1, b2, b3, b4⟩ := place_bds hM (Nat.le_of_lt hs) h6 r
  have e0 : r % m ^ s = (r + (t : Int) * m ^ s) % m ^ s := by rw [Int.add_mul_emod_self_right]
  have e1 : lnX m us ad (r + (t : Int) * m ^ s) s = lnX m us ad r s := lnX_congr (by omega) e0
  have e2 := lin_orb hM (r + (t : Int) * m ^ s) s
  have e3 : lineI m us ad (wordI m us ad s (r + (t : Int) * m ^ s)) = lnX m us ad r s := e1
  rw [e3, lnX_div] at e2
  have e4 := lnX_next m us ad (r + (t : Int) * m ^ s) s
  rw [e1] at e4
  refine child_any v m us ad (s : Int) r _ _ (m ^ s) (t : Int) (r + (t : Int) * m ^ s) (orbN m us ad s (r + (t : Int) * m ^ s)) _ _ (m ^ (s + 1)) w hv (hid hM) (by omega) (by have := steps_few hm b2; omega) h0 h1 b1 b2 (by omega) ht b3 hmu (b4 hmu) (hid rfl) (hid e2) (hid ?_) (hid ?_) (hid (Int.pow_succ m s).symm)
  · rw [e4]; rfl
  · rw [e4]
    show _ = us.getD _ 0 * _ + ad.getD _ 0 * (lnX m us ad r s).2.2
    rw [lnX_div]
set_option maxHeartbeats 1600000 in
theorem visit_any (w00 : World) (base BF BL BW BM BV : Nat) (A : Option Addr) (n cc : Nat) (B : Option Addr) (n2 d2 : Nat) (m : Int) (us ad : List Int) (k M : Nat) (HL : Lies w00 base BF BL BW BM BV) (hv : MapV w00 (.agg #[.int .i64 m, .slice A n cc, .slice B n2 d2]) m us ad) (hM : mapP m us ad) (ht : Tab w00) (h6 : m ^ k ≤ 65536) (hm : m = (M : Int)) :
    ∀ (d s : Nat) (r : Int), s + d = k → 0 ≤ r → r < m ^ s → ∀ (w : World) (vF vL : Value) (ps : List (Int × Int)) (ls : List Int), Env w00 base BF BL BW BM BV (m ^ k) [.int .i64 m, .slice A n cc, .slice B n2 d2] w → St base BF BL (fTxt m us ad) w vF vL ps ls → ps.length + M ^ d ≤ 1000000 → ls.length + M ^ d ≤ 1000000 →
      Calls Tryd.prog 12 #[PlV (s : Int) r (lnX m us ad r s).1 (lnX m us ad r s).2.1 (m ^ s), .pointer (some ⟨BF, 0, none⟩), .pointer (some ⟨BW, 0, none⟩), .pointer (some ⟨BL, 0, none⟩), .pointer (some ⟨BM, 0, none⟩), .pointer (some ⟨BV, 0, none⟩)] w (VisPost base BF BL (fTxt m us ad) w vF vL (ps ++ (vis M us ad k d s r).1) (ls ++ (vis M us ad k d s r).2)) := by
  have hm2 := hM.1
  have hm12 := hM.2.1
  have hM1 : 1 ≤ M := by omega
  intro d
  induction d with
  | zero =>
    intro s r hsd h0 h1 w vF vL ps ls HE hS hp hl
    obtain ⟨b1, b2, b3, b4⟩ := place_bds hM (show s ≤ k by omega) h6 r
    have htw := ht.ext HE.ext
    by_cases hf : (lnX m us ad r s).1 < m ^ s
    · have e : vis M us ad k 0 s r = ([((s : Int), r)], []) := by
        unfold vis; rw [← hm, if_pos hf]
      rw [e, List.append_nil]
      exact visit_fall w00 base BF BL BW BM BV _ A n cc B n2 d2 m _ s r _ _ _ vF vL ps ls w (hid HL) HE hS htw hf (hid ⟨by omega, by omega⟩) (hid (by have := b4 (by omega); omega)) (hid (by unfold fTxt; simp)) (by omega)
    · have e : vis M us ad k 0 s r = ([], belowL r (m ^ s) 1) := by
        unfold vis; rw [← hm, if_neg hf]
      rw [e, List.append_nil]
      have hk : s = k := by omega
      subst hk
      exact visit_stay w00 base BF BL BW BM BV _ A n cc B n2 d2 m _ s r _ _ _ vF vL ps ls w 1 (hid HL) HE hS htw (hid hf) (hid (.inr rfl)) (hid (by simp)) (by omega) h0 h1 b2 b2 (by omega)
  | succ d ih =>
    intro s r hsd h0 h1 w vF vL ps ls HE hS hp hl
    obtain ⟨b1, b2, b3, b4⟩ := place_bds hM (show s ≤ k by omega) h6 r
    have htw := ht.ext HE.ext
    have hpow : 1 ≤ M ^ (d + 1) := Nat.one_le_pow _ _ hM1
    by_cases hf : (lnX m us ad r s).1 < m ^ s
    · have e : vis M us ad k (d + 1) s r = ([((s : Int), r)], []) := by
        unfold vis; rw [← hm, if_pos hf]
      rw [e, List.append_nil]
      exact visit_fall w00 base BF BL BW BM BV _ A n cc B n2 d2 m _ s r _ _ _ vF vL ps ls w (hid HL) HE hS htw hf (hid ⟨by omega, by omega⟩) (hid (by have := b4 (by omega); omega)) (hid (by unfold fTxt; simp)) (by omega)
    · have hkk : m ^ k = m ^ s * ((M ^ (d + 1) : Nat) : Int) := by
        rw [← hsd, Int.pow_add, hm, Int.natCast_pow]
      by_cases hs : m ^ k ≤ (lnX m us ad r s).1
      · have e : vis M us ad k (d + 1) s r = ([], belowL r (m ^ s) (M ^ (d + 1))) := by
          unfold vis; rw [← hm, if_neg hf, if_pos hs]
        rw [e, List.append_nil]
        exact visit_stay w00 base BF BL BW BM BV _ A n cc B n2 d2 m _ s r _ _ _ vF vL ps ls w (M ^ (d + 1)) (hid HL) HE hS htw (hid hf) (hid (.inl hs)) (hid hkk) hpow h0 h1 b2 h6 (by omega)
      · have e : vis M us ad k (d + 1) s r = ((List.range M).flatMap (fun (t : Nat) => (vis M us ad k d (s + 1) (r + (t : Int) * m ^ s)).1), (List.range M).flatMap (fun (t : Nat) => (vis M us ad k d (s + 1) (r + (t : Int) * m ^ s)).2)) := by
          conv => lhs; unfold vis
          rw [← hm, if_neg hf, if_neg hs]
        rw [e]
        have hne : ¬ m ^ s = m ^ k := by
          have h2 : m ^ (s + 1) ≤ m ^ k := pow_grow hm2 (by omega)
          rw [Int.pow_succ] at h2
          have h3 : m ^ s * 2 ≤ m ^ s * m := Int.mul_le_mul_of_nonneg_left hm2 (by omega)
          intro h4
          rw [← h4] at h2
          generalize m ^ s = q at *
          omega
        have eM : M * M ^ d = M ^ (d + 1) := by rw [Nat.pow_succ, Nat.mul_comm]
        refine visit_part w00 base BF BL BW BM BV _ A n cc B n2 d2 m _ s r _ _ _ vF vL ps ls w M (M ^ d) (fun t => vis M us ad k d (s + 1) (r + (t : Int) * m ^ s)) (hid HL) HE hS htw (hid hf) (hid (fun h => by rcases h with h | h; exact hs h; exact hne h)) (hid hm) (by omega) (hid (fun t _ => vis_len hM1 us ad k d (s + 1) _)) (by rw [eM]; exact hp) (by rw [eM]; exact hl) (hid ?_)
        intro t htM
        have htm : (t : Int) < m := by omega
        refine ⟨_, _, _, _, fun W' hE' => child_at hM (show s < k by omega) h6 h0 h1 (by omega) t htm _ W' (hv.ext hE'.ext), ?_⟩
        intro W' vF vL ps ls hE' hS' hp' hl'
        have hx0 : 0 ≤ (t : Int) * m ^ s := Int.mul_nonneg (by omega) (by omega)
        have hx1 : r + (t : Int) * m ^ s < m ^ (s + 1) := by
          have h2 : ((t : Int) + 1) * m ^ s ≤ m * m ^ s := Int.mul_le_mul_of_nonneg_right (by omega) (by omega)
          rw [Int.add_mul, Int.one_mul] at h2
          rw [Int.pow_succ, Int.mul_comm (m ^ s) m]
          omega
        have h := ih (s + 1) (r + (t : Int) * m ^ s) (by omega) (by omega) hx1 W' vF vL ps ls hE' hS' hp' hl'
        rwa [show (((s + 1 : Nat)) : Int) = (s : Int) + 1 by simp] at h
end Go.Proofs.YtbmmilhinbfahaaDoor
/- package sieve: Sieve, where the map and the number suit -/
namespace Go.Proofs.YtbmmilhinbfahaaDoor
open Go.RowKit
/-- what Sieve tells where all suits -/
def SieveC (m : Int) (us ad : List Int) (k M : Nat) (w : World) (e : Ending) (w' : World) : Prop :=
  ∃ (vF vL : Value) (base nF nL : Nat), e = .returned (.tuple #[vF, vL, .int .i64 0]) ∧ w.heap.size ≤ base ∧ w'.ownsRow base 37 6 vF nF ((srtF (vis M us ad k k 0 0).1).flatMap (encF (fTxt m us ad))) ∧ w'.ownsRow base 3 1 vL nL (Is (srtI (vis M us ad k k 0 0).2)) ∧ Ext w w'
theorem ext_by {w W W' : World} {row : Option Nat} (h : Ext w W) (hg : W.grownBy W' row) (hr : ∀ k, row = some k → w.heap.size ≤ k) : Ext w W' :=
  ⟨hg.os.trans h.os, hg.tape.trans h.tape, hg.output.trans h.output, Nat.le_trans h.size hg.size, fun j hj => (hg.block j (Nat.lt_of_lt_of_le hj h.size) (fun e => by have := hr j e.symm; omega)).trans (h.block j hj)⟩
theorem own_two {w : World} {base n1 n2 s1 s2 : Nat} {v1 v2 : Value} {xs ys : List Value} (h1 : w.ownsRow base 37 s1 v1 n1 xs) (h2 : w.ownsRow base 3 s2 v2 n2 ys) : ∀ g, v1.ownBlock = some g → v2.ownBlock = some g → False := by
  intro g e1 e2
  obtain ⟨-, hF⟩ := h1
  obtain ⟨-, hL⟩ := h2
  rcases hF with ⟨rfl, -⟩ | ⟨g1, c1, u1, rfl, -, e3, -⟩
  · cases e1
  · rcases hL with ⟨rfl, -⟩ | ⟨g2, c2, u2, rfl, -, e4, -⟩
    · cases e2
    · injection e1 with e1
      injection e2 with e2
      have h1' : g1 = g := e1
      have h2' : g2 = g := e2
      subst h1' h2'
      rw [e3] at e4
      injection e4 with e4
      injection e4 with _ e5 _
      exact absurd e5 (by decide)
set_option maxRecDepth 100000 in
set_option maxHeartbeats 12800000 in
theorem sieve_ok (v : Value) (m : Int) (us ad : List Int) (q M : Nat) (w : World) (hv : MapV w v m us ad) (hM : Hid (mapP m us ad)) (hS : Hid (SuitP m us (q : Int))) (hqq : (q : Int) ≤ 9223372036854775807) (hmM : Hid (m = (M : Int))) (ht : Tab w) :
    Calls Tryd.prog 7 #[v, .int .i64 (q : Int)] w (SieveC m us ad q M w) := by
  have hm := hM.out.1
  have hm2 := hM.out.2.1
  have hb1 : Hid (mapB m us ad = true) := hid ((mapB_iff m us ad).2 hM.out)
  have hk1 : 1 ≤ q := by have := hS.out.2.1; omega
  have hk2 : m ^ q ≤ 65536 := by have := hS.out.2.2; rwa [Int.toNat_natCast] at this
  obtain ⟨wh, hwh⟩ : ∃ wh : Int, m ^ q = wh := ⟨_, rfl⟩
  have HWH := hid hwh
  have HK2 := hid hk2
  have HT := hid ht
  have HV := hid hv
  obtain ⟨A, n, cc, B, n2, d2, rfl, -⟩ := hv
  have hx : Ext w (w.alloc (.cells #[.int .i64 m, .slice A n cc, .slice B n2 d2] 24)) := (Ext.rfl' w).alloc' _
  have hr1 : Row (w.alloc (.cells #[.int .i64 m, .slice A n cc, .slice B n2 d2] 24)) w.heap.size 24 [.int .i64 m, .slice A n cc, .slice B n2 d2] := Row.new w _ _
  have hz : (w.alloc (.cells #[.int .i64 m, .slice A n cc, .slice B n2 d2] 24)).heap.size = w.heap.size + 1 := by simp
  obtain ⟨w1, hw1⟩ : ∃ w1, w.alloc (.cells #[.int .i64 m, .slice A n cc, .slice B n2 d2] 24) = w1 := ⟨_, rfl⟩
  rw [hw1] at hx hr1 hz
  have HW1 := hid hw1
  have EX := hid hx
  have RM := hid hr1
  have HZ := hid hz
  obtain ⟨f0, f1, f2, -, -, -⟩ := row_facts3 hr1
  clear hw1 hx hr1 hwh hk1 hk2 hz
  go_enter Tryd.func7, Tryd.ntmps7
  go_upto_region 1 with fail
  rw [HW1.out]
  go_wp2_with fail
  refine (stepvalid_any _ m us ad w1 (HV.out.ext EX.out) hb1).mono ?_
  rintro e w2 ⟨rfl, hx⟩
  replace EX := hid (EX.out.step hx)
  replace RM := hid (RM.out.ext hx)
  have HZ2 := hid (Nat.le_trans (Nat.le_of_eq HZ.out.symm) hx.size)
  clear f0 f1 f2 hx
  obtain ⟨f0, f1, f2, -, -, -⟩ := row_facts3 RM.out
  go_wp2_with fail
  refine (restsOf_any _ m us ad (q : Int) w2 (HV.out.ext EX.out) hM (by omega) hqq).mono ?_
  rintro e w3 ⟨wh2, c2, rfl, hrc, hx⟩
  obtain ⟨-, rfl, rfl⟩ | ⟨hn, -, -⟩ := hrc
  case inr => exact absurd hS.out hn
  rw [Int.toNat_natCast, HWH.out]
  replace EX := hid (EX.out.step hx)
  replace RM := hid (RM.out.ext hx)
  replace HZ2 := hid (Nat.le_trans HZ2.out hx.size)
  clear f0 f1 f2 hx
  have ha : Ext w3 ((((w3.alloc (.cells #[.int .i64 wh] 3)).alloc (.cells #[.slice none 0 0] 28)).alloc (.cells #[.slice none 0 0] 22)).alloc (.cells #[.nilFunc] 44)) := ((((Ext.rfl' w3).alloc' _).alloc' _).alloc' _).alloc' _
  have r1 : Row ((((w3.alloc (.cells #[.int .i64 wh] 3)).alloc (.cells #[.slice none 0 0] 28)).alloc (.cells #[.slice none 0 0] 22)).alloc (.cells #[.nilFunc] 44)) w3.heap.size 3 [.int .i64 wh] := (((Row.new w3 _ _).alloc _).alloc _).alloc _
  have r2 : Row ((((w3.alloc (.cells #[.int .i64 wh] 3)).alloc (.cells #[.slice none 0 0] 28)).alloc (.cells #[.slice none 0 0] 22)).alloc (.cells #[.nilFunc] 44)) (w3.heap.size + 1) 28 [.slice none 0 0] := by
    have := ((Row.new (w3.alloc (.cells #[.int .i64 wh] 3)) 28 [.slice none 0 0]).alloc (.cells #[.slice none 0 0] 22)).alloc (.cells #[.nilFunc] 44)
    rwa [World.size_alloc] at this
  have r3 : Row ((((w3.alloc (.cells #[.int .i64 wh] 3)).alloc (.cells #[.slice none 0 0] 28)).alloc (.cells #[.slice none 0 0] 22)).alloc (.cells #[.nilFunc] 44)) (w3.heap.size + 1 + 1) 22 [.slice none 0 0] := by
    have := (Row.new ((w3.alloc (.cells #[.int .i64 wh] 3)).alloc (.cells #[.slice none 0 0] 28)) 22 [.slice none 0 0]).alloc (.cells #[.nilFunc] 44)
    rwa [World.size_alloc, World.size_alloc] at this
  have r4 : Row ((((w3.alloc (.cells #[.int .i64 wh] 3)).alloc (.cells #[.slice none 0 0] 28)).alloc (.cells #[.slice none 0 0] 22)).alloc (.cells #[.nilFunc] 44)) (w3.heap.size + 1 + 1 + 1) 44 [.nilFunc] := by
    have := Row.new (((w3.alloc (.cells #[.int .i64 wh] 3)).alloc (.cells #[.slice none 0 0] 28)).alloc (.cells #[.slice none 0 0] 22)) 44 [.nilFunc]
    rwa [World.size_alloc, World.size_alloc, World.size_alloc] at this
  have hs4 : ((((w3.alloc (.cells #[.int .i64 wh] 3)).alloc (.cells #[.slice none 0 0] 28)).alloc (.cells #[.slice none 0 0] 22)).alloc (.cells #[.nilFunc] 44)).heap.size = w3.heap.size + 1 + 1 + 1 + 1 := by simp
  obtain ⟨w4, hw4⟩ : ∃ w4, ((((w3.alloc (.cells #[.int .i64 wh] 3)).alloc (.cells #[.slice none 0 0] 28)).alloc (.cells #[.slice none 0 0] 22)).alloc (.cells #[.nilFunc] 44)) = w4 := ⟨_, rfl⟩
  rw [hw4] at ha r1 r2 r3 r4 hs4
  obtain ⟨H, hH⟩ : ∃ H, w3.heap.size = H := ⟨_, rfl⟩
  rw [hH] at r1 r2 r3 r4 hs4
  have hwH : w.heap.size < H := by have := HZ2.out; omega
  have HW4 := hid hw4
  have HH := hid hH
  have HHW := hid hwH
  have HS4 := hid hs4
  replace EX := hid (EX.out.step ha)
  replace RM := hid (RM.out.ext ha)
  have R1 := hid r1
  have R2 := hid r2
  have R3 := hid r3
  have R4 := hid r4
  have y0 : w4.cell? ⟨H + 1 + 1 + 1, 0, none⟩ = some .nilFunc := r4.cell 0
  have y1 := r4.free 0
  clear ha r1 r2 r3 r4 hs4 hw4 hH hwH
  go_upto_region 9 with fail
  rw [HW4.out, HH.out]
  go_upto_region 10 with fail
  have hs5 : (w4.setCell ⟨H + 1 + 1 + 1, 0, none⟩ (.func (.func 12) #[] #[.pointer (some ⟨H + 1, 0, none⟩), .pointer (some ⟨H, 0, none⟩), .pointer (some ⟨H + 1 + 1, 0, none⟩), .pointer (some ⟨w.heap.size, 0, none⟩), .pointer (some ⟨H + 1 + 1 + 1, 0, none⟩)])).heap.size = H + 1 + 1 + 1 + 1 := by simp [HS4.out]
  obtain ⟨w5, hw5⟩ : ∃ w5, w4.setCell ⟨H + 1 + 1 + 1, 0, none⟩ (.func (.func 12) #[] #[.pointer (some ⟨H + 1, 0, none⟩), .pointer (some ⟨H, 0, none⟩), .pointer (some ⟨H + 1 + 1, 0, none⟩), .pointer (some ⟨w.heap.size, 0, none⟩), .pointer (some ⟨H + 1 + 1 + 1, 0, none⟩)]) = w5 := ⟨_, rfl⟩
  rw [hw5] at hs5
  have HW5 := hid hw5
  have HLI : Hid (Lies w (H + 1 + 1 + 1 + 1) (H + 1) (H + 1 + 1) H w.heap.size (H + 1 + 1 + 1)) := hid (by have := HHW.out; unfold Lies; omega)
  have HEN : Hid (Env w (H + 1 + 1 + 1 + 1) (H + 1) (H + 1 + 1) H w.heap.size (H + 1 + 1 + 1) wh [.int .i64 m, .slice A n cc, .slice B n2 d2] w5) := hid (by
    have := HHW.out
    rw [← hw5]
    exact ⟨EX.out.set' (by show w.heap.size ≤ H + 1 + 1 + 1; omega) _, R1.out.far (by show H ≠ H + 1 + 1 + 1; omega) _, RM.out.far (by show w.heap.size ≠ H + 1 + 1 + 1; omega) _, R4.out.set 0 _, by rw [hw5, hs5]; exact Nat.le_refl _⟩)
  have HST : Hid (St (H + 1 + 1 + 1 + 1) (H + 1) (H + 1 + 1) (fTxt m us ad) w5 (.slice none 0 0) (.slice none 0 0) [] []) := hid (by
    rw [← hw5]
    exact ⟨R2.out.far (by show H + 1 ≠ H + 1 + 1 + 1; omega) _, R3.out.far (by show H + 1 + 1 ≠ H + 1 + 1 + 1; omega) _, World.ownsRow_nil _ _ _ _, World.ownsRow_nil _ _ _ _⟩)
  have hMq : M ^ q ≤ 65536 := by
    have h1 := HK2.out
    rw [hmM.out, ← Int.natCast_pow] at h1
    omega
  have HVL := hid (vis_len (M := M) (by have := hmM.out; omega) us ad q q 0 0)
  have HVIS : Hid (∀ W', Env w (H + 1 + 1 + 1 + 1) (H + 1) (H + 1 + 1) H w.heap.size (H + 1 + 1 + 1) wh [.int .i64 m, .slice A n cc, .slice B n2 d2] W' → St (H + 1 + 1 + 1 + 1) (H + 1) (H + 1 + 1) (fTxt m us ad) W' (.slice none 0 0) (.slice none 0 0) [] [] →
      Calls Tryd.prog 12 #[PlV 0 0 1 0 1, .pointer (some ⟨H + 1, 0, none⟩), .pointer (some ⟨H, 0, none⟩), .pointer (some ⟨H + 1 + 1, 0, none⟩), .pointer (some ⟨w.heap.size, 0, none⟩), .pointer (some ⟨H + 1 + 1 + 1, 0, none⟩)] W' (VisPost (H + 1 + 1 + 1 + 1) (H + 1) (H + 1 + 1) (fTxt m us ad) W' (.slice none 0 0) (.slice none 0 0) (vis M us ad q q 0 0).1 (vis M us ad q q 0 0).2)) := hid (by
    intro W' h1 h2
    have h := visit_any w (H + 1 + 1 + 1 + 1) (H + 1) (H + 1 + 1) H w.heap.size (H + 1 + 1 + 1) A n cc B n2 d2 m us ad q M HLI.out HV.out hM.out HT.out HK2.out hmM.out q 0 0 (by omega) (by omega) (by simp) W' _ _ [] [] (by rw [HWH.out]; exact h1) h2 (by simp; omega) (by simp; omega)
    have e0 : lnX m us ad 0 0 = (1, 0, 1) := rfl
    rw [e0, Int.pow_zero] at h
    exact h)
  have HMQ := hid hMq
  have HS : Hid (∀ W', Env w (H + 1 + 1 + 1 + 1) (H + 1) (H + 1 + 1) H w.heap.size (H + 1 + 1 + 1) wh [.int .i64 m, .slice A n cc, .slice B n2 d2] W' → W'.cell? ⟨H + 1 + 1 + 1, 0, none⟩ = some (.func (.func 12) #[] #[.pointer (some ⟨H + 1, 0, none⟩), .pointer (some ⟨H, 0, none⟩), .pointer (some ⟨H + 1 + 1, 0, none⟩), .pointer (some ⟨w.heap.size, 0, none⟩), .pointer (some ⟨H + 1 + 1 + 1, 0, none⟩)])) := hid (fun W' h => h.rv.cell 0)
  have hcur : Ext w5 w5 := Ext.rfl' _
  clear hs5 hw5 y0 y1 hMq R1 R2 R3 R4 RM
  rw [HW5.out]
  go_region_held3 (fun W' => W'.cell? ⟨H + 1 + 1 + 1, 0, none⟩ = some (.func (.func 12) #[] #[.pointer (some ⟨H + 1, 0, none⟩), .pointer (some ⟨H, 0, none⟩), .pointer (some ⟨H + 1 + 1, 0, none⟩), .pointer (some ⟨w.heap.size, 0, none⟩), .pointer (some ⟨H + 1 + 1 + 1, 0, none⟩)]))
    (first | (with_reducible exact HS.out _ HEN7) | (with_reducible exact HS.out _ (HEN.out.of_ext hcur)) | (with_reducible exact HS.out _ (HEN.out.of_ext hcur.drew')) | go_keep)
    (first
      | (go_at_call 18; refine (root_any _).mono ?_; rintro e w6 ⟨rfl, hx⟩; have hcur := Ext.step hcur (by first | exact hx | exact Ext.undrew hx | exact Ext.step ((Ext.rfl' _).alloc' _) hx | exact Ext.step ((Ext.rfl' _).drew'.alloc' _) hx))
      | (go_at_call 12; refine (HVIS.out _ (HEN.out.of_ext ?_) (HST.out.ext ?_)).mono ?_; (first | exact hcur | exact hcur.drew' | exact hcur.alloc' _ | exact hcur.drew'.alloc' _ | exact (hcur.alloc' _).drew'); (first | exact hcur | exact hcur.drew' | exact hcur.alloc' _ | exact hcur.drew'.alloc' _ | exact (hcur.alloc' _).drew'); rintro e w7 ⟨rfl, vF, vL, hst, hch⟩; have HST7 := hid hst; have HEN7 := (HEN.out.of_ext (by (first | exact hcur | exact hcur.drew' | exact hcur.alloc' _ | exact hcur.drew'.alloc' _ | exact (hcur.alloc' _).drew'))).chg HLI.out (fun g hg => by cases hg) (fun g hg => by cases hg) hch))
  all_goals
    have HE7 := hid HEN7
    clear hcur HEN HST HS HVIS hch HEN7 hst
    have q0 : w7.cell? ⟨H + 1, 0, none⟩ = some vF := HST7.out.1.cell 0
    have HVL1 := hid (show (vis M us ad q q 0 0).1.length ≤ 65536 by have := HVL.out.1; have := HMQ.out; omega)
    have HVL2 := hid (show (vis M us ad q q 0 0).2.length ≤ 65536 by have := HVL.out.2; have := HMQ.out; omega)
    have hE8 : Ext w7 (w7.alloc (.cells #[.func (.func 20) #[] #[], .func (.func 21) #[] #[]] 52)) := (Ext.rfl' w7).alloc' _
    have rk : Row (w7.alloc (.cells #[.func (.func 20) #[] #[], .func (.func 21) #[] #[]] 52)) w7.heap.size 52 [.func (.func 20) #[] #[], .func (.func 21) #[] #[]] := Row.new w7 _ _
    have hz8 : w7.heap.size < (w7.alloc (.cells #[.func (.func 20) #[] #[], .func (.func 21) #[] #[]] 52)).heap.size := by simp
    go_upto_region 12 with (go_at_call 19; refine (sortFalls_any (fTxt m us ad) vF _ _ (H + 1 + 1 + 1 + 1) w7.heap.size (w7.alloc (.cells #[.func (.func 20) #[] #[], .func (.func 21) #[] #[]] 52)) (own_at HST7.out.2.2.1 (fun g hg => hE8.block g (HST7.out.2.2.1.lt g hg).2)) (rk.cell 0) (rk.cell 1) hz8 (fun g hg e => by have := (HST7.out.2.2.1.lt g hg).2; omega) (by have := HVL1.out; omega)).mono ?_; rintro e w9 ⟨rfl, hoF, hgF⟩)
    have rL9 : Row w9 (H + 1 + 1) 22 [vL] := (HST7.out.2.1.ext hE8).grownR hgF (fun kk hkk => by have := (HST7.out.2.2.1.lt kk hkk).1; omega)
    have rF9 : Row w9 (H + 1) 28 [vF] := (HST7.out.1.ext hE8).grownR hgF (fun kk hkk => by have := (HST7.out.2.2.1.lt kk hkk).1; omega)
    have hoL9 := own_at (w' := w9) HST7.out.2.2.2 (fun g hg => (hgF.block g (Nat.lt_of_lt_of_le (HST7.out.2.2.2.lt g hg).2 hE8.size) (fun e => HST7.out.apart g e.symm hg)).trans (hE8.block g (HST7.out.2.2.2.lt g hg).2))
    have hxw : Ext w w9 := ext_by (HE7.out.ext.step hE8) hgF (fun kk hkk => by have := (HST7.out.2.2.1.lt kk hkk).1; have := HHW.out; omega)
    have HO9 := hid hoL9
    have HF9 := hid (own_at (w' := w9.alloc (.cells #[.func (.func 23) #[] #[]] 54)) hoF (fun g hg => ((Ext.rfl' w9).alloc' _).block g (hoF.lt g hg).2))
    have HX9 := hid hxw
    have RL9 := hid rL9
    have RF9 := hid rF9
    have q0 : w9.cell? ⟨H + 1 + 1, 0, none⟩ = some vL := rL9.cell 0
    have hE10 : Ext w9 (w9.alloc (.cells #[.func (.func 23) #[] #[]] 54)) := (Ext.rfl' w9).alloc' _
    have rk1 : Row (w9.alloc (.cells #[.func (.func 23) #[] #[]] 54)) w9.heap.size 54 [.func (.func 23) #[] #[]] := Row.new w9 _ _
    have hz10 : w9.heap.size < (w9.alloc (.cells #[.func (.func 23) #[] #[]] 54)).heap.size := by simp
    clear hE8 rk hz8 hoF hgF hoL9 hxw rL9 rF9
    go_upto_region 13 with (go_at_call 22; refine (sortInts_any vL _ _ (H + 1 + 1 + 1 + 1) w9.heap.size (w9.alloc (.cells #[.func (.func 23) #[] #[]] 54)) (own_at HO9.out (fun g hg => hE10.block g (HO9.out.lt g hg).2)) (rk1.cell 0) hz10 (fun g hg e => by have := (HO9.out.lt g hg).2; omega) (by have := HVL2.out; omega)).mono ?_; rintro e w11 ⟨rfl, hoL, hgL⟩)
    have rL11 : Row w11 (H + 1 + 1) 22 [vL] := (RL9.out.ext hE10).grownR hgL (fun kk hkk => by have := (HO9.out.lt kk hkk).1; omega)
    have rF11 : Row w11 (H + 1) 28 [vF] := (RF9.out.ext hE10).grownR hgL (fun kk hkk => by have := (HO9.out.lt kk hkk).1; omega)
    have hoF11 := own_at (w' := w11) HF9.out (fun g hg => (hgL.block g (HF9.out.lt g hg).2 (fun e => own_two HF9.out (own_at HO9.out (fun g hg => hE10.block g (HO9.out.lt g hg).2)) g hg e.symm)))
    have HF : Hid (SieveC m us ad q M w (.returned (.tuple #[vF, vL, .int .i64 0])) w11) := hid ⟨vF, vL, H + 1 + 1 + 1 + 1, _, _, rfl, by have := HHW.out; omega, hoF11, hoL, ext_by (HX9.out.step hE10) hgL (fun kk hkk => by have := (HO9.out.lt kk hkk).1; have := HHW.out; omega)⟩
    have q1 : w11.cell? ⟨H + 1, 0, none⟩ = some vF := rF11.cell 0
    have q2 : w11.cell? ⟨H + 1 + 1, 0, none⟩ = some vL := rL11.cell 0
    clear hE10 rk1 hz10 hoL hgL rL11 rF11 hoF11 q0
    go_quiet (fail)
    all_goals
      go_wp2_with fail
      go_ret3
      obtain ⟨c1, c2, c3, c4, c5, c6, c7, c8, c9, c10⟩ := HF.out
      exact ⟨c1, c2, c3, c4, c5, c6, c7, c8, c9, by first | exact c10 | exact c10.drew' | exact c10.drewN _⟩
end Go.Proofs.YtbmmilhinbfahaaDoor
/- package sieve: Sieve, the error ways -/
namespace Go.Proofs.YtbmmilhinbfahaaDoor
open Go.RowKit
set_option maxRecDepth 100000 in
set_option maxHeartbeats 3200000 in
theorem sieve_bad (v : Value) (m : Int) (us ad : List Int) (k : Int) (w : World) (hv : MapV w v m us ad) (hk : -9223372036854775808 ≤ k) (hk2 : k ≤ 9223372036854775807) {b1 : Bool} (hb1 : Hid (mapB m us ad = b1)) (HN : Hid (¬ (b1 = true ∧ SuitP m us k))) {c : Int} (hc : Hid (c = if b1 = true then 2 else 1)) :
    Calls Tryd.prog 7 #[v, .int .i64 k] w (fun e w' => e = .returned (.tuple #[.slice none 0 0, .slice none 0 0, .int .i64 c]) ∧ Ext w w') := by
  have HV := hid hv
  obtain ⟨A, n, cc, B, n2, d2, rfl, -⟩ := hv
  have hx : Ext w (w.alloc (.cells #[.int .i64 m, .slice A n cc, .slice B n2 d2] 24)) := (Ext.rfl' w).alloc' _
  have hr1 : Row (w.alloc (.cells #[.int .i64 m, .slice A n cc, .slice B n2 d2] 24)) w.heap.size 24 [.int .i64 m, .slice A n cc, .slice B n2 d2] := Row.new w _ _
  obtain ⟨w1, hw1⟩ : ∃ w1, w.alloc (.cells #[.int .i64 m, .slice A n cc, .slice B n2 d2] 24) = w1 := ⟨_, rfl⟩
  rw [hw1] at hx hr1
  have HW1 := hid hw1
  have EX := hid hx
  have RM := hid hr1
  obtain ⟨f0, f1, f2, -, -, -⟩ := row_facts3 hr1
  clear hw1 hx hr1
  go_enter Tryd.func7, Tryd.ntmps7
  go_upto_region 1 with fail
  rw [HW1.out]
  go_wp2_with fail
  refine (stepvalid_any _ m us ad w1 (HV.out.ext EX.out) hb1).mono ?_
  rintro e w2 ⟨rfl, hx⟩
  replace EX := hid (EX.out.step hx)
  replace RM := hid (RM.out.ext hx)
  clear f0 f1 f2 hx
  cases b1 with
  | false =>
    obtain rfl : c = 1 := hc.out
    go_wp2_with fail
    go_ret3
    exact ⟨rfl, EX.out⟩
  | true =>
    obtain rfl : c = 2 := hc.out
    have hM : Hid (mapP m us ad) := hid ((mapB_iff m us ad).1 hb1.out)
    obtain ⟨f0, f1, f2, -, -, -⟩ := row_facts3 RM.out
    go_wp2_with fail
    refine (restsOf_any _ m us ad k w2 (HV.out.ext EX.out) hM hk hk2).mono ?_
    rintro e w3 ⟨wh2, c2, rfl, hrc, hx⟩
    obtain ⟨hn, -, -⟩ | ⟨-, rfl, rfl⟩ := hrc
    · exact absurd ⟨by trivial, hn⟩ HN.out
    · replace EX := hid (EX.out.step hx)
      clear f0 f1 f2 hx
      have EX2 := hid (EX.out.alloc' (.cells #[.int .i64 0] 3))
      go_wp2_with fail
      go_ret3
      exact ⟨rfl, EX2.out⟩
end Go.Proofs.YtbmmilhinbfahaaDoor
/- the sieve law package's awake: the numbers -/
namespace Go.Proofs.YtbmmilhinbfahaaDoor
open Go.RowKit
theorem rd_own {w : World} {base e size n c g : Nat} {vs : List Value} (h : w.ownsRow base e size (.slice (some ⟨g, 0, none⟩) n c) n vs) : Rd w (some ⟨g, 0, none⟩) vs := by
  refine .inr ⟨g, 0, rfl, (h.lt g rfl).2, fun j u hj => ?_⟩
  have h1 := h.cells (g := g) rfl j u hj
  have hadd : (⟨g, 0, none⟩ : Addr).add j = ⟨g, 0 + j, none⟩ := by unfold Addr.add; split <;> simp_all
  rwa [hadd] at h1
theorem vis3 : vis 2 [1, 3] [0, 1] 3 3 0 0 = ([(1, 0), (2, 1)], [3, 7]) := by decide +kernel
theorem srtF3 : srtF [(1, 0), (2, 1)] = [(1, 0), (2, 1)] := by
  unfold srtF
  exact List.mergeSort_of_pairwise (by simp [lt_P])
theorem srtI3 : srtI [3, 7] = [3, 7] := by
  unfold srtI
  exact List.mergeSort_of_pairwise (by simp [lt_int])
theorem ln01 : lnX 2 [1, 3] [0, 1] 0 1 = (1, 0, 2) := by decide +kernel
theorem ln12 : lnX 2 [1, 3] [0, 1] 1 2 = (3, 1, 4) := by decide +kernel
def XB : Int := 1000000000000000000000003
def LB24 : List UInt8 := [49, 48, 48, 48, 48, 48, 48, 48, 48, 48, 48, 48, 48, 48, 48, 48, 48, 48, 48, 48, 48, 48, 48, 48, 51]
theorem LB_ok : K.validL LB24 = true := by decide +kernel
theorem LB_num : K.numL LB24 = XB := by decide +kernel
theorem lnB : lnX 2 [1, 3] [0, 1] XB 1 = (3, 1, 2) ∧ lnX 2 [1, 3] [0, 1] XB 2 = (9, 5, 4) ∧ lnX 2 [1, 3] [0, 1] XB 3 = (9, 5, 8) ∧ lnX 2 [1, 3] [0, 1] XB 4 = (9, 5, 16) := by decide +kernel
theorem modB : XB % 2 ^ 4 = 3 := by decide +kernel
theorem txt0 : K.txt 0 = [48] := K.txt_of_lit [48] 0 (by decide +kernel) (by decide +kernel)
theorem txt1 : K.txt 1 = [49] := K.txt_of_lit [49] 1 (by decide +kernel) (by decide +kernel)
theorem txt2 : K.txt 2 = [50] := K.txt_of_lit [50] 2 (by decide +kernel) (by decide +kernel)
theorem txt4 : K.txt 4 = [52] := K.txt_of_lit [52] 4 (by decide +kernel) (by decide +kernel)
theorem txt16 : K.txt 16 = [49, 54] := K.txt_of_lit [49, 54] 16 (by decide +kernel) (by decide +kernel)
theorem suit3 : SuitP 2 [1, 3] 3 := ⟨reg13, by omega, by decide⟩
theorem suit4 : SuitP 2 [1, 3] 4 := ⟨reg13, by omega, by decide⟩
theorem falls3 : ([(1, 0), (2, 1)] : List (Int × Int)).flatMap (encF (fTxt 2 [1, 3] [0, 1])) = [.int .i64 1, .int .i64 0, .string ⟨#[49]⟩, .string ⟨#[48]⟩, .string ⟨#[50]⟩, .string ⟨#[48]⟩, .int .i64 2, .int .i64 1, .string ⟨#[51]⟩, .string ⟨#[49]⟩, .string ⟨#[52]⟩, .string ⟨#[49]⟩] := by
  have e1 : fTxt 2 [1, 3] [0, 1] (1, 0) = (⟨#[49]⟩, ⟨#[48]⟩, ⟨#[50]⟩, ⟨#[48]⟩) := by
    unfold fTxt
    simp only [show ((1 : Int)).toNat = 1 from rfl, ln01, show ((2 : Int) ^ 1) = 2 from rfl, show ((0 : Int) / (2 - 1)) = 0 from rfl, txt0, txt1, txt2]
    rfl
  have e2 : fTxt 2 [1, 3] [0, 1] (2, 1) = (⟨#[51]⟩, ⟨#[49]⟩, ⟨#[52]⟩, ⟨#[49]⟩) := by
    unfold fTxt
    simp only [show ((2 : Int)).toNat = 2 from rfl, ln12, show ((2 : Int) ^ 2) = 4 from rfl, show ((1 : Int) / (4 - 3)) = 1 from rfl, txt1, txt3, txt4]
    rfl
  simp only [List.flatMap_cons, List.flatMap_nil, encF, e1, e2]
  rfl
/-- Sieve of Collatz's map, 3 -/
theorem sieve3_ok (v : Value) (w : World) (hv : MapV w v 2 [1, 3] [0, 1]) (ht : Tab w) :
    Calls Tryd.prog 7 #[v, .int .i64 3] w (fun e w' => ∃ (g h c d : Nat), e = .returned (.tuple #[.slice (some ⟨g, 0, none⟩) 2 c, .slice (some ⟨h, 0, none⟩) 2 d, .int .i64 0]) ∧ Rd w' (some ⟨g, 0, none⟩) [.int .i64 1, .int .i64 0, .string ⟨#[49]⟩, .string ⟨#[48]⟩, .string ⟨#[50]⟩, .string ⟨#[48]⟩, .int .i64 2, .int .i64 1, .string ⟨#[51]⟩, .string ⟨#[49]⟩, .string ⟨#[52]⟩, .string ⟨#[49]⟩] ∧ Rd w' (some ⟨h, 0, none⟩) (Is [3, 7]) ∧ Ext w w') := by
  refine (sieve_ok v 2 [1, 3] [0, 1] 3 2 w hv (hid coll_ok) (hid suit3) (by omega) (hid rfl) ht).mono ?_
  rintro e w' ⟨vF, vL, base, nF, nL, rfl, hb, hF, hL, hx⟩
  rw [vis3, srtF3, falls3] at hF
  rw [vis3, srtI3] at hL
  have n1 : nF = 2 := by have := hF.1; simp at this; omega
  have n2 : nL = 2 := by have := hL.1; simp at this; omega
  subst n1 n2
  have hF2 := hF
  have hL2 := hL
  obtain ⟨-, hF⟩ := hF
  obtain ⟨-, hL⟩ := hL
  rcases hF with ⟨-, h⟩ | ⟨g, c, u, rfl, -⟩
  · cases h
  rcases hL with ⟨-, h⟩ | ⟨h, d, u2, rfl, -⟩
  · cases h
  exact ⟨g, h, c, d, rfl, rd_own hF2, rd_own hL2, hx⟩
/-- Find of Collatz's map, 10^24 + 3, 4 -/
theorem find4_ok (v : Value) (w : World) (hv : MapV w v 2 [1, 3] [0, 1]) (ht : Tab w) :
    Calls Tryd.prog 8 #[v, .string (Str LB24), .int .i64 4] w (fun e w' => e = .returned (.tuple #[FaV 4 3 ⟨#[57]⟩ ⟨#[53]⟩ ⟨#[49, 54]⟩ ⟨#[48]⟩, .bool true, .int .i64 0]) ∧ Ext w w') := by
  refine (find_ok v 2 [1, 3] [0, 1] LB24 XB 4 w hv (hid coll_ok) (by decide) (hid LB_ok) (hid LB_num) (hid suit4) (by omega) ht).mono ?_
  rintro e w' ⟨fv, b, rfl, hc, hx⟩
  have n1 : ¬ FallsAt 2 [1, 3] [0, 1] XB 1 := by unfold FallsAt; rw [lnB.1]; decide
  have n2 : ¬ FallsAt 2 [1, 3] [0, 1] XB 2 := by unfold FallsAt; rw [lnB.2.1]; decide
  have n3 : ¬ FallsAt 2 [1, 3] [0, 1] XB 3 := by unfold FallsAt; rw [lnB.2.2.1]; decide
  have n4 : FallsAt 2 [1, 3] [0, 1] XB 4 := by unfold FallsAt; rw [lnB.2.2.2]; decide
  rcases hc with ⟨rfl, i, h1, h2, h3, -, rfl⟩ | ⟨-, -, h⟩
  · have hi : i = 4 := by
      match i, h1, h2, h3 with
      | 1, _, _, h3 => exact absurd h3 n1
      | 2, _, _, h3 => exact absurd h3 n2
      | 3, _, _, h3 => exact absurd h3 n3
      | 4, _, _, _ => rfl
      | j + 5, _, h2, _ => omega
    subst hi
    rw [modB, lnB.2.2.2]
    refine ⟨?_, hx⟩
    simp only [show ((2 : Int) ^ 4) = 16 from rfl, show ((5 : Int) / (16 - 9)) = 0 from rfl, txt9, txt5, txt16, txt0]
    rfl
  · exact absurd n4 (h 4 (by omega) (by omega))
end Go.Proofs.YtbmmilhinbfahaaDoor
/- the sieve law package's awake -/
namespace Go.Proofs.YtbmmilhinbfahaaDoor
open Go.RowKit
theorem Rd.at0 {w : World} {g : Nat} {vs : List Value} (h : Rd w (some ⟨g, 0, none⟩) vs) (j : Nat) {u : Value} (hj : vs[j]? = some u) : w.cell? ⟨g, j, none⟩ = some u := by
  rcases h with h | ⟨b, o, e, -, hc⟩
  · rw [h] at hj; simp at hj
  · cases e
    simpa using hc j u hj
set_option maxRecDepth 100000 in
set_option maxHeartbeats 6400000 in
theorem awake4_any (w : World) (ht : Tab w) :
    Calls Tryd.prog 6 #[] w (fun e w' => e = .returned (.bool true) ∧ Ext w w') := by
  have HT := hid ht
  go_enter Tryd.func6, Tryd.ntmps6
  go_wp2_with fail
  refine (refCollatz_any w).mono ?_
  rintro e w1 ⟨v1, rfl, hn1, hx1⟩
  have hv1 := hn1.mapV
  obtain ⟨g1, g2, k1, rfl, -⟩ := hn1
  have r1 : Row (w1.alloc (.cells #[.int .i64 2, .slice (some ⟨g1, 0, none⟩) k1 k1, .slice (some ⟨g2, 0, none⟩) k1 k1] 24)) w1.heap.size 24 [.int .i64 2, .slice (some ⟨g1, 0, none⟩) k1 k1, .slice (some ⟨g2, 0, none⟩) k1 k1] := Row.new w1 _ _
  have hx1a := hx1.alloc' (.cells #[.int .i64 2, .slice (some ⟨g1, 0, none⟩) k1 k1, .slice (some ⟨g2, 0, none⟩) k1 k1] 24)
  have hv1a := hv1.ext ((Ext.rfl' w1).alloc' (.cells #[.int .i64 2, .slice (some ⟨g1, 0, none⟩) k1 k1, .slice (some ⟨g2, 0, none⟩) k1 k1] 24))
  obtain ⟨W1, hW1⟩ : ∃ W1, w1.alloc (.cells #[.int .i64 2, .slice (some ⟨g1, 0, none⟩) k1 k1, .slice (some ⟨g2, 0, none⟩) k1 k1] 24) = W1 := ⟨_, rfl⟩
  rw [hW1] at hx1a hv1a r1
  have HW1 := hid hW1
  have EX := hid hx1a
  have HV := hid hv1a
  have RM := hid r1
  obtain ⟨f0, f1, f2, -, -, -⟩ := row_facts3 r1
  clear hx1 hx1a hv1 hv1a r1 hW1
  go_upto_region 2 with fail
  rw [HW1.out]
  go_wp2_with fail
  refine (sieve3_ok _ _ HV.out (HT.out.ext EX.out)).mono ?_
  rintro e w2 ⟨g, h, c, d, rfl, hF, hL, hx⟩
  have RF := hid hF
  have RL := hid hL
  replace EX := hid (EX.out.step hx)
  replace HV := hid (HV.out.ext hx)
  replace RM := hid (RM.out.ext hx)
  clear f0 f1 f2 hx hF hL
  obtain ⟨f0, f1, f2, -, -, -⟩ := row_facts3 RM.out
  go_wp2_with fail
  refine (find4_ok _ _ HV.out (HT.out.ext EX.out)).mono ?_
  unfold FaV
  rintro e w3 ⟨rfl, hx⟩
  replace RF := hid (RF.out.ext hx)
  replace RL := hid (RL.out.ext hx)
  replace EX := hid (EX.out.step hx)
  clear f0 f1 f2 hx
  have ha := (Ext.rfl' w3).alloc' (.cells #[.int .i64 4, .int .i64 3, .string ⟨#[57]⟩, .string ⟨#[53]⟩, .string ⟨#[49, 54]⟩, .string ⟨#[48]⟩] 37)
  have rb : Row (w3.alloc (.cells #[.int .i64 4, .int .i64 3, .string ⟨#[57]⟩, .string ⟨#[53]⟩, .string ⟨#[49, 54]⟩, .string ⟨#[48]⟩] 37)) w3.heap.size 37 [.int .i64 4, .int .i64 3, .string ⟨#[57]⟩, .string ⟨#[53]⟩, .string ⟨#[49, 54]⟩, .string ⟨#[48]⟩] := Row.new w3 _ _
  obtain ⟨w4, hw4⟩ : ∃ w4, w3.alloc (.cells #[.int .i64 4, .int .i64 3, .string ⟨#[57]⟩, .string ⟨#[53]⟩, .string ⟨#[49, 54]⟩, .string ⟨#[48]⟩] 37) = w4 := ⟨_, rfl⟩
  rw [hw4] at ha rb
  have HW4 := hid hw4
  replace RF := hid (RF.out.ext ha)
  replace RL := hid (RL.out.ext ha)
  replace EX := hid (EX.out.step ha)
  have RB := hid rb
  clear ha rb hw4
  go_upto_region 4 with fail
  rw [HW4.out]
  have c0 : w4.cell? ⟨g, 0, none⟩ = some (.int .i64 1) := RF.out.at0 0 rfl
  have c1 : w4.cell? ⟨g, 1, none⟩ = some (.int .i64 0) := RF.out.at0 1 rfl
  have c2 : w4.cell? ⟨g, 2, none⟩ = some (.string ⟨#[49]⟩) := RF.out.at0 2 rfl
  have c3 : w4.cell? ⟨g, 3, none⟩ = some (.string ⟨#[48]⟩) := RF.out.at0 3 rfl
  have c4 : w4.cell? ⟨g, 4, none⟩ = some (.string ⟨#[50]⟩) := RF.out.at0 4 rfl
  have c5 : w4.cell? ⟨g, 5, none⟩ = some (.string ⟨#[48]⟩) := RF.out.at0 5 rfl
  have c6 : w4.cell? ⟨g, 6, none⟩ = some (.int .i64 2) := RF.out.at0 6 rfl
  have c7 : w4.cell? ⟨g, 7, none⟩ = some (.int .i64 1) := RF.out.at0 7 rfl
  have c8 : w4.cell? ⟨g, 8, none⟩ = some (.string ⟨#[51]⟩) := RF.out.at0 8 rfl
  have c9 : w4.cell? ⟨g, 9, none⟩ = some (.string ⟨#[49]⟩) := RF.out.at0 9 rfl
  have c10 : w4.cell? ⟨g, 10, none⟩ = some (.string ⟨#[52]⟩) := RF.out.at0 10 rfl
  have c11 : w4.cell? ⟨g, 11, none⟩ = some (.string ⟨#[49]⟩) := RF.out.at0 11 rfl
  go_wp2_with fail
  refine (ralike_eq _ _ 2 _ _ [3, 7] _ (RL.out.ext ((Ext.rfl' _).alloc' _)) (Row.new _ _ _).rd0 rfl (by omega)).mono ?_
  rintro e w5 ⟨rfl, hx⟩
  have hy := ((Ext.rfl' w4).alloc' _).step hx
  replace EX := hid (EX.out.step hy)
  replace RB := hid (RB.out.ext hy)
  clear hx hy c0 c1 c2 c3 c4 c5 c6 c7 c8 c9 c10 c11
  obtain ⟨⟨y0, y1, y2, y3, y4, y5⟩, -⟩ := row_facts6 RB.out
  go_wp2
  go_ret
  exact ⟨rfl, EX.out⟩
end Go.Proofs.YtbmmilhinbfahaaDoor
/- the mathematics of the law SieveAll -/
namespace Go.Proofs.YtbmmilhinbfahaaDoor
open Go.RowKit
theorem own_rd {w : World} {base e size n : Nat} {v : Value} {xs : List Value} (h : w.ownsRow base e size v n xs) : ∃ A c, v = .slice A n c ∧ Rd w A xs ∧ (0 < n → ∃ g, A = some ⟨g, 0, none⟩) := by
  have h2 := h
  obtain ⟨hl, hF⟩ := h
  rcases hF with ⟨rfl, rfl⟩ | ⟨g, c, u, rfl, hb, hh, h3, h4, h5, h6⟩
  · refine ⟨none, 0, rfl, .inl (List.eq_nil_of_length_eq_zero (by rw [hl]; simp)), fun h => absurd h (by omega)⟩
  · exact ⟨_, c, rfl, rd_own h2, fun _ => ⟨g, rfl⟩⟩
theorem Rd.fall {w : World} {g : Nat} {F : List (Int × Int)} {f : Int × Int → ByteArray × ByteArray × ByteArray × ByteArray} (h : Rd w (some ⟨g, 0, none⟩) (F.flatMap (encF f))) {j : Nat} {p : Int × Int} (hj : F[j]? = some p) :
    w.cell? ⟨g, j * 6, none⟩ = some (.int .i64 p.1) ∧ w.cell? ⟨g, j * 6 + 1, none⟩ = some (.int .i64 p.2) ∧ w.cell? ⟨g, j * 6 + 2, none⟩ = some (.string (f p).1) ∧ w.cell? ⟨g, j * 6 + 3, none⟩ = some (.string (f p).2.1) ∧ w.cell? ⟨g, j * 6 + 4, none⟩ = some (.string (f p).2.2.1) ∧ w.cell? ⟨g, j * 6 + 5, none⟩ = some (.string (f p).2.2.2) := by
  obtain ⟨hlt, hp⟩ := List.getElem?_eq_some_iff.1 hj
  have at_ : ∀ c, c < 6 → w.cell? ⟨g, j * 6 + c, none⟩ = some ((encF f p)[c]!) := fun c hc => by
    refine h.at0 (j * 6 + c) ?_
    rw [flat_at (encF f) (k := 6) (by omega) (fun _ => rfl), if_pos (by omega)]
    have e1 : (j * 6 + c) / 6 = j := by omega
    have e2 : (j * 6 + c) % 6 = c := by omega
    rw [e1, e2, getElem!_pos F j hlt, hp]
  exact ⟨at_ 0 (by omega), at_ 1 (by omega), at_ 2 (by omega), at_ 3 (by omega), at_ 4 (by omega), at_ 5 (by omega)⟩
theorem take_count {α : Type} {p : α → Bool} {l : List α} {j : Nat} {a : α} (h : l[j]? = some a) : (l.take (j + 1)).countP p = (l.take j).countP p + (if p a = true then 1 else 0) := by
  rw [List.take_add_one, h, List.countP_append]
  by_cases h2 : p a = true <;> simp [h2]
theorem take_le {α : Type} (p : α → Bool) (l : List α) (j : Nat) : (l.take j).countP p ≤ l.countP p := by
  conv => rhs; rw [← List.take_append_drop j l, List.countP_append]
  omega
/-- a fall that a number hits is its own -/
theorem all_hit {M : Nat} {us ad : List Int} (hM : mapP (M : Int) us ad) {X : Int} {k : Nat} {b : Bool} {fs fr : Int} {su sa sd sb : ByteArray} (hF : FindC (M : Int) us ad X k (FaV fs fr su sa sd sb) b) {p : Int × Int} (hp : p ∈ srtF (vis M us ad k k 0 0).1) (hh : hitP (M : Int) X p = true) :
    b = true ∧ p.1 = fs ∧ p.2 = fr ∧ fTxt (M : Int) us ad p = (su, sa, sd, sb) := by
  have hm : (0 : Int) < (M : Int) := by have := hM.1; omega
  rcases hF with ⟨rfl, i, i1, i2, i3, i4, e⟩ | ⟨rfl, -, n⟩
  · have h1 := ((hits_yes hM i1 i2 i3 i4).1 p hp).1 hh
    unfold FaV at e
    injection e with e
    injection e with e
    injection e with e1 e
    injection e with e2 e
    injection e with e3 e
    injection e with e4 e
    injection e with e5 e
    injection e with e6 e
    injection e1 with _ e1
    injection e2 with _ e2
    injection e3 with e3
    injection e4 with e4
    injection e5 with e5
    injection e6 with e6
    subst h1
    refine ⟨rfl, e1.symm, e2.symm, ?_⟩
    unfold fTxt
    have hc : lnX (M : Int) us ad (X % (M : Int) ^ i) i = lnX (M : Int) us ad X i := lnX_cg hm (rest_of_pow hm X (Nat.le_refl _))
    simp only [Int.toNat_natCast]
    rw [hc, e3, e4, e5, e6]
  · exact absurd hh ((hits_no hM n).1 p hp)
/-- how many falls and rests of a sieve a number has -/
theorem all_count {M : Nat} {us ad : List Int} (hM : mapP (M : Int) us ad) {X : Int} {k : Nat} {b : Bool} {v : Value} (hF : FindC (M : Int) us ad X k v b) :
    (srtF (vis M us ad k k 0 0).1).countP (hitP (M : Int) X) = (if b = true then 1 else 0) ∧ (srtI (vis M us ad k k 0 0).2).countP (fun x => decide (x = X % (M : Int) ^ k)) = (if b = true then 0 else 1) := by
  have hL := sieve_left hM k
  have hn := strict_nodup strict_I hL.1
  have hc := count_one (p := fun x => decide (x = X % (M : Int) ^ k)) hn (a := X % (M : Int) ^ k) (fun x _ => by simp)
  rcases hF with ⟨rfl, i, i1, i2, i3, i4, -⟩ | ⟨rfl, -, n⟩
  · obtain ⟨-, h2, h3⟩ := hits_yes hM i1 i2 i3 i4
    refine ⟨by rw [h2]; rfl, ?_⟩
    rw [hc, if_neg (fun h => h3 h.2)]; rfl
  · obtain ⟨h1, h2⟩ := hits_no hM n
    refine ⟨?_, ?_⟩
    · rw [List.countP_eq_zero.2 (fun p hp => h1 p hp)]; rfl
    · rw [hc, if_pos ⟨by simp, h2⟩]; rfl
/-- what a fall of the list is -/
theorem all_at {M : Nat} {us ad : List Int} (hM : mapP (M : Int) us ad) {k : Nat} {j : Nat} {p : Int × Int} (hj : (srtF (vis M us ad k k 0 0).1)[j]? = some p) :
    (∃ i : Nat, p.1 = (i : Int) ∧ 1 ≤ i ∧ i ≤ k) ∧ p ∈ srtF (vis M us ad k k 0 0).1 ∧ ∀ p', j ≠ 0 → (srtF (vis M us ad k k 0 0).1)[j - 1]? = some p' → (p'.1 < p.1 ∨ p'.1 = p.1 ∧ p'.2 < p.2) := by
  have hF := sieve_falls hM k
  have hm := List.mem_of_getElem? hj
  obtain ⟨i, e, i1, i2, -⟩ := (hF.2 p).1 hm
  exact ⟨⟨i, e, i1, i2⟩, hm, fun p' h0 hj' => strict_at hF.1 (show j - 1 < j by omega) hj' hj⟩
end Go.Proofs.YtbmmilhinbfahaaDoor
/- the mathematics of the law SieveCollatz -/
namespace Go.Proofs.YtbmmilhinbfahaaDoor
open Go.RowKit
theorem coll_step {x : Int} (h : x % 2 = 1) : stepI 2 [1, 3] [0, 1] x = (3 * x + 1) / 2 := by
  have e : (x % 2).toNat = 1 := by rw [h]; rfl
  unfold stepI rOf
  rw [e]
  rfl
theorem coll_orb (k : Nat) : ∀ j : Nat, j ≤ k → orbN 2 [1, 3] [0, 1] j (2 ^ k - 1) = 3 ^ j * 2 ^ (k - j) - 1
  | 0, _ => by show (2 : Int) ^ k - 1 = _; simp
  | j + 1, h => by
    have ih := coll_orb k j (by omega)
    obtain ⟨d, hd⟩ : ∃ d, k - j = d + 1 := ⟨k - j - 1, by omega⟩
    have e : k - (j + 1) = d := by omega
    show stepI 2 [1, 3] [0, 1] (orbN 2 [1, 3] [0, 1] j (2 ^ k - 1)) = _
    rw [ih, hd, e]
    have e2 : (3 : Int) ^ j * 2 ^ (d + 1) = 2 * (3 ^ j * 2 ^ d) := by rw [Int.pow_succ, Int.mul_comm 2 (3 ^ j * 2 ^ d), Int.mul_assoc]
    have e3 : (3 : Int) ^ (j + 1) * 2 ^ d = 3 * (3 ^ j * 2 ^ d) := by rw [Int.pow_succ, Int.mul_comm ((3 : Int) ^ j) 3, Int.mul_assoc]
    rw [e2, e3]
    generalize (3 : Int) ^ j * 2 ^ d = a
    rw [coll_step (by omega)]
    omega
theorem coll_line (k : Nat) : ∀ j : Nat, j ≤ k → (lnX 2 [1, 3] [0, 1] (2 ^ k - 1) j).1 = 3 ^ j
  | 0, _ => rfl
  | j + 1, h => by
    have ih := coll_line k j (by omega)
    obtain ⟨d, hd⟩ : ∃ d, k - j = d + 1 := ⟨k - j - 1, by omega⟩
    have e2 : (3 : Int) ^ j * 2 ^ (d + 1) = 2 * (3 ^ j * 2 ^ d) := by rw [Int.pow_succ, Int.mul_comm 2 (3 ^ j * 2 ^ d), Int.mul_assoc]
    have hr : orbN 2 [1, 3] [0, 1] j (2 ^ k - 1) % 2 = 1 := by
      rw [coll_orb k j (by omega), hd, e2]
      omega
    rw [lnX_next, hr]
    show ([1, 3] : List Int).getD (1 : Int).toNat 0 * (lnX 2 [1, 3] [0, 1] (2 ^ k - 1) j).1 = _
    rw [ih, Int.pow_succ, Int.mul_comm]
    rfl
/-- 2^k - 1 is left -/
theorem coll_last (k : Nat) : InL 2 [1, 3] [0, 1] k (2 ^ k - 1) := by
  have hp : (0 : Int) < 2 ^ k := Int.pow_pos (by omega)
  refine ⟨by omega, by omega, fun j hj hf => ?_⟩
  unfold FallsAt at hf
  rw [coll_line k j hj] at hf
  have : ∀ j : Nat, (2 : Int) ^ j ≤ 3 ^ j := fun j => by
    induction j with
    | zero => simp
    | succ j ih =>
      rw [Int.pow_succ, Int.pow_succ]
      have : (0 : Int) < 2 ^ j := Int.pow_pos (by omega)
      omega
  have := this j
  omega
/-- a rest that is left at k + 1 is, modulo m^k, left at k -/
theorem left_mod {m : Int} {us ad : List Int} (hm : 0 < m) {k : Nat} {x : Int} (h : InL m us ad (k + 1) x) : InL m us ad k (x % m ^ k) := by
  have hp : (0 : Int) < m ^ k := Int.pow_pos hm
  exact ⟨Int.emod_nonneg _ (by omega), Int.emod_lt_of_pos _ hp, fun j hj hf => h.2.2 j (by omega) ((falls_congr hm (rest_of_pow hm x hj)).1 hf)⟩
/-- the last one of a rising list is its greatest -/
theorem last_max {l : List Int} (h : l.Pairwise (fun x y => x < y)) {y : Int} (hy : y ∈ l) (hb : ∀ x, x ∈ l → x ≤ y) : l[l.length - 1]? = some y := by
  obtain ⟨i, hi, e⟩ := List.getElem_of_mem hy
  have hl : l.length - 1 < l.length := by omega
  rw [List.getElem?_eq_getElem hl]
  rcases Nat.lt_or_ge i (l.length - 1) with h1 | h1
  · have h2 := strict_at h h1 (List.getElem?_eq_getElem hi) (List.getElem?_eq_getElem hl)
    have h3 := hb _ (List.getElem_mem hl)
    omega
  · have : i = l.length - 1 := by omega
    subst this
    rw [e]
end Go.Proofs.YtbmmilhinbfahaaDoor
