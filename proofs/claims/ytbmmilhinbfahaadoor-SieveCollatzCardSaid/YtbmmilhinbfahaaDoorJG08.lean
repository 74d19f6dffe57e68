/- Joined texts: package sieve: sortBy at Falls; one word, one rest; the reference's Alike at any two lists; package sieve: restsOf; package sieve: the mathematics of places along a word; a slice of ints appended to an own row; WordParts: numbers, and the linear map of a word behind another; the law WordParts, where both words together are not too long for one list; the law WordApplies; the reference's Rest of layer 3; package sieve: Find, where all suits. -/
import Derived.Test.YtbmmilhinbfahaaDoorJG07
import Derived.Test.YtbmmilhinbfahaaDoorJG06
import Derived.Test.YtbmmilhinbfahaaDoorJG05
import Derived.Deep.LoopGhost
import Derived.Test.YtbmmilhinbfahaaDoorJG02
set_option linter.unusedSimpArgs false
set_option linter.unusedVariables false
/- package sieve: sortBy at Falls -/
namespace Go.Proofs.YtbmmilhinbfahaaDoor
open Go.RowKit Go.Sort
theorem flat_at {α : Type} [Inhabited α] (enc : α → List Value) {k : Nat} (hk : 0 < k) (hl : ∀ x, (enc x).length = k) : ∀ (xs : List α) (i : Nat), (xs.flatMap enc)[i]? = if i < xs.length * k then some ((enc xs[i / k]!)[i % k]!) else none
  | [], i => by simp
  | x :: xs, i => by
    rw [List.flatMap_cons, List.getElem?_append, hl]
    by_cases h : i < k
    · rw [if_pos h, if_pos (by rw [List.length_cons, Nat.succ_mul]; omega), Nat.div_eq_of_lt h, Nat.mod_eq_of_lt h]
      have h2 : i < (enc x).length := by rw [hl]; exact h
      rw [List.getElem?_eq_getElem h2, getElem!_pos (x :: xs) 0 (by simp), List.getElem_cons_zero, getElem!_pos (enc x) i h2]
    · rw [if_neg h, flat_at enc hk hl xs (i - k)]
      obtain ⟨j, rfl⟩ : ∃ j, i = j + k := ⟨i - k, by omega⟩
      rw [Nat.add_sub_cancel, Nat.add_div_right _ hk, Nat.add_mod_right, List.length_cons, Nat.succ_mul]
      by_cases h3 : j < xs.length * k
      · rw [if_pos h3, if_pos (by omega)]
        have h4 : j / k < xs.length := (Nat.div_lt_iff_lt_mul hk).2 h3
        rw [getElem!_pos xs _ h4, getElem!_pos (x :: xs) _ (by simp; omega), List.getElem_cons_succ]
      · rw [if_neg h3, if_neg (by omega)]
theorem flatK_list {α : Type} [Inhabited α] (enc : α → List Value) {k : Nat} (hk : 0 < k) (hl : ∀ x, (enc x).length = k) (xs : List α) : (flatK enc k xs.toArray).toList = xs.flatMap enc := by
  apply List.ext_getElem?
  intro i
  rw [flat_at enc hk hl]
  by_cases h : i < xs.length * k
  · rw [if_pos h]
    simp [flatK, h]
  · rw [if_neg h, List.getElem?_eq_none (by simp [flatK]; omega)]
/-- the six cells of a fall by its steps and its rest; its texts hang on these -/
def encF (f : Int × Int → ByteArray × ByteArray × ByteArray × ByteArray) (p : Int × Int) : List Value := [.int .i64 p.1, .int .i64 p.2, .string (f p).1, .string (f p).2.1, .string (f p).2.2.1, .string (f p).2.2.2]
/-- by steps, then by rest -/
def cmpP (p q : Int × Int) : Int := cmpSR p.1 p.2 q.1 q.2
theorem lt_P (p q : Int × Int) : ltOf cmpP p q = decide (p.1 < q.1 ∨ p.1 = q.1 ∧ p.2 < q.2) := by
  have h1 := lt_int p.1 q.1
  have h2 := lt_int p.2 q.2
  unfold ltOf at *
  unfold cmpP cmpSR
  by_cases h : p.1 = q.1
  · rw [if_pos h, h2]
    exact decide_eq_decide.2 ⟨fun k => .inr ⟨h, k⟩, fun k => by rcases k with k | k; omega; exact k.2⟩
  · rw [if_neg h, h1]
    exact decide_eq_decide.2 ⟨fun k => .inl k, fun k => by rcases k with k | k; exact k; exact absurd k.1 h⟩
theorem swo_P : SWO (ltOf cmpP) where
  irrefl := fun x => by rw [lt_P]; simp
  trans := fun x y z h1 h2 => by
    rw [lt_P] at *
    simp only [decide_eq_true_eq] at *
    omega
  ntrans := fun x y z h1 h2 => by
    rw [lt_P] at *
    simp only [decide_eq_false_iff_not] at *
    omega
theorem tot_P : ∀ x y : Int × Int, ltOf cmpP x y = false → ltOf cmpP y x = false → x = y := by
  intro x y h1 h2
  rw [lt_P] at *
  simp only [decide_eq_false_iff_not] at *
  exact Prod.ext (by omega) (by omega)
/-- the falls in order -/
def srtF (ps : List (Int × Int)) : List (Int × Int) := ps.mergeSort fun x y => !(ltOf cmpP) y x
set_option maxRecDepth 100000 in
set_option maxHeartbeats 3200000 in
theorem sortFalls_any (f : Int × Int → ByteArray × ByteArray × ByteArray × ByteArray) (v : Value) (n : Nat) (ps : List (Int × Int)) (base HK : Nat) (w : World) (hown : w.ownsRow base 37 6 v n (ps.flatMap (encF f))) (hk : w.cell? ⟨HK, 0, none⟩ = some (.func (.func 20) #[] #[])) (hkk : w.cell? ⟨HK, 1, none⟩ = some (.func (.func 21) #[] #[])) (lk : HK < w.heap.size) (hne : ∀ g, v.ownBlock = some g → HK ≠ g) (hn : n < 4611686018427387904) :
    Calls Tryd.prog 19 #[v, .slice (some ⟨HK, 0, none⟩) 2 2] w (fun e w' => e = .returned (.tuple #[]) ∧ w'.ownsRow base 37 6 v n ((srtF ps).flatMap (encF f)) ∧ w.grownBy w' v.ownBlock) := by
  have hlen : ∀ x, (encF f x).length = 6 := fun x => rfl
  obtain ⟨w1, hw1⟩ : ∃ w1, w.alloc (.cells #[.slice (some ⟨HK, 0, none⟩) 2 2] 62) = w1 := ⟨_, rfl⟩
  have hx : Ext w w1 := by rw [← hw1]; exact (Ext.rfl' w).alloc' _
  have hr : Row w1 w.heap.size 62 [.slice (some ⟨HK, 0, none⟩) 2 2] := by rw [← hw1]; exact Row.new w _ _
  have hk1 : w1.cell? ⟨HK, 0, none⟩ = some (.func (.func 20) #[] #[]) := by rw [hx.cell lk, hk]
  have hk2 : w1.cell? ⟨HK, 1, none⟩ = some (.func (.func 21) #[] #[]) := by rw [hx.cell lk, hkk]
  have hsz : w1.heap.size = w.heap.size + 1 := by rw [← hw1]; simp
  have hbx : w1.cell? ⟨w.heap.size, 0, none⟩ = some (.slice (some ⟨HK, 0, none⟩) 2 2) := hr.cell 0
  have HW := hid hw1
  obtain ⟨hl, h⟩ := hown
  have hfl : ∀ qs : List (Int × Int), (qs.flatMap (encF f)).length = qs.length * 6 := fun qs => by
    induction qs with
    | nil => rfl
    | cons q r ih => rw [List.flatMap_cons, List.length_append, ih, hlen, List.length_cons]; omega
  have hlx : ps.length = n := by rw [hfl] at hl; omega
  rcases h with ⟨rfl, rfl⟩ | ⟨g, cap, cur, rfl, hb, hg, hnc, hcm, hcs, hct⟩
  · have hxs : ps = [] := List.eq_nil_of_length_eq_zero hlx
    have HF : Hid (w1.ownsRow base 37 6 (.slice none 0 0) 0 ((srtF ps).flatMap (encF f)) ∧ w.grownBy w1 (Value.ownBlock (.slice none 0 0))) := hid ⟨by rw [hxs, show (srtF []).flatMap (encF f) = [] by simp [srtF]]; exact World.ownsRow_nil _ _ _ _, ⟨hx.os, hx.tape, hx.output, hx.size, fun k hk _ => hx.block k hk⟩⟩
    clear hl hx hr hk1 hk2 hk hkk hbx hlx hxs hne hw1
    go_enter Tryd.func19, Tryd.ntmps19
    go_upto_region 1 with fail
    rw [HW.out]
    go_wp2_with fail
    refine (ShelfC.l_sortFall_none (α := Int) none 0 _ w1).mono ?_
    rintro e w' ⟨rfl, rfl⟩
    go_wp2
    go_end0
    exact ⟨rfl, HF.out⟩
  · have hgw : g < w.heap.size := by
      rcases Nat.lt_or_ge g w.heap.size with h1 | h1
      · exact h1
      · rw [Array.getElem?_eq_none h1] at hg; cases hg
    have hg1 : w1.heap[g]? = some (.cells cur 37 (0, 0)) := by rw [hx.block g hgw, hg]
    have hfs : ∀ qs : List (Int × Int), (flatK (encF f) 6 qs.toArray).size = qs.length * 6 := fun qs => by simp [flatK]
    have hH : HoldsK (encF f) 6 w1 g 0 ps.toArray := own_holds id (flatK (encF f) 6 ps.toArray) (n := n * 6) hg1 (by rw [hfs, hlx]) (by omega) (by rw [hct, flatK_list (encF f) (by omega) hlen, List.map_id])
    have hcmp : CmpLays Tryd.prog 31 #[.pointer (some ⟨w.heap.size, 0, none⟩)] (encF f) 6 cmpP g 0 ps.toArray.size w1 := by
      intro m os dk hs x y
      have hother : ∀ b, b < w1.heap.size → b ≠ g → (sortWorldK (encF f) 6 w1 g 0 m dk os).heap[b]? = w1.heap[b]? := fun b h1 h2 => (sortWorld_grown id w1 g m (flatK (encF f) 6 dk) os).block b h1 (fun e => h2 (by cases e; rfl))
      have hsz2 : w1.heap.size ≤ (sortWorldK (encF f) 6 w1 g 0 m dk os).heap.size := (sortWorld_grown id w1 g m (flatK (encF f) 6 dk) os).size
      refine (cmpFall_any x.1 x.2 y.1 y.2 (f x).1 (f x).2.1 (f x).2.2.1 (f x).2.2.2 (f y).1 (f y).2.1 (f y).2.2.1 (f y).2.2.2 w.heap.size HK _ ?_ ?_ ?_ (by omega) (by omega)).mono ?_
      · rw [World.cell?_of_block (hother _ (by show w.heap.size < _; omega) (by show w.heap.size ≠ g; omega)), hbx]
      · rw [World.cell?_of_block (hother _ (by show HK < _; omega) (by show HK ≠ g; exact hne g rfl)), hk1]
      · rw [World.cell?_of_block (hother _ (by show HK < _; omega) (by show HK ≠ g; exact hne g rfl)), hk2]
      · rintro e w' ⟨rfl, hq⟩
        exact ⟨rfl, hq⟩
    have hcon := ShelfC.l_sortFall_total 6 Tryd.isAgg37 Tryd.sizeOf37 (encF f) hlen (fun x v hv => by simp [encF] at hv; rcases hv with rfl | rfl | rfl | rfl | rfl | rfl <;> rfl) cmpP swo_P 31 #[.pointer (some ⟨w.heap.size, 0, none⟩)] g 0 cap ps.toArray w1 (enters_of Tryd.func31 (by kernel_rfl) rfl) hcmp hH (by omega) (by simpa using (by omega : ps.length < 4611686018427387904)) tot_P
    have hsn : ps.toArray.size = n := by simpa using hlx
    rw [hsn] at hcon
    have HF : Hid (∀ (q : Nat) (os : Array Obj), (sortWorldK (encF f) 6 w1 g 0 q (srtF ps).toArray os).ownsRow base 37 6 (.slice (some ⟨g, 0, none⟩) n cap) n ((srtF ps).flatMap (encF f)) ∧ w.grownBy (sortWorldK (encF f) 6 w1 g 0 q (srtF ps).toArray os) (some g)) := hid (by
      intro q os
      have hln : (srtF ps).length = n := by simp [srtF, hlx]
      refine ⟨⟨by rw [hfl, hln], .inr ⟨g, cap, _, rfl, hb, sortWorld_row id w1 g q (flatK (encF f) 6 (srtF ps).toArray) os hg1, hnc, hcm, by rw [putCells_size, hcs], ?_⟩⟩, ?_⟩
      · have := putCells_take id (flatK (encF f) 6 (srtF ps).toArray) cur (by rw [hfs, hln]; omega)
        rw [hfs, hln, flatK_list (encF f) (by omega) hlen, List.map_id] at this
        exact this
      · have h1 := sortWorld_grown id w1 g q (flatK (encF f) 6 (srtF ps).toArray) os
        exact ⟨h1.os.trans hx.os, h1.tape.trans hx.tape, h1.output.trans hx.output, Nat.le_trans hx.size h1.size, fun k hk hne => (h1.block k (by omega) hne).trans (hx.block k hk)⟩)
    have HC := hid hcon
    clear hl hx hr hk1 hk2 hk hkk hbx hlx hne hw1 hH hcmp hcon hg1 hg hct hcs hcm
    go_enter Tryd.func19, Tryd.ntmps19
    go_upto_region 1 with fail
    rw [HW.out]
    go_wp2_with fail
    refine HC.out.mono ?_
    rintro e w' ⟨rfl, q, os, rfl⟩
    go_wp2
    go_end0
    exact ⟨rfl, HF.out q os⟩
end Go.Proofs.YtbmmilhinbfahaaDoor
/- one word, one rest; the reference's Alike at any two lists -/
namespace Go.Proofs.YtbmmilhinbfahaaDoor
open Go.RowKit
theorem dvd_of_cop {m D a : Int} (hc : Nat.gcd a.natAbs m.natAbs = 1) (h : (D * a) % m = 0) : ∃ E, D = E * m := by
  have h1 : m ∣ D * a := Int.dvd_of_emod_eq_zero h
  have h2 : m.natAbs ∣ D.natAbs * a.natAbs := by rw [← Int.natAbs_mul]; exact Int.natAbs_dvd_natAbs.2 h1
  have h3 : m.natAbs ∣ D.natAbs := Nat.Coprime.dvd_of_dvd_mul_right (by unfold Nat.Coprime; rw [Nat.gcd_comm]; exact hc) h2
  obtain ⟨E, hE⟩ := Int.natAbs_dvd_natAbs.1 h3
  exact ⟨E, by rw [hE, Int.mul_comm]⟩
theorem add_emod_zero {o d m : Int} (h : (o + d) % m = o % m) : d % m = 0 := by
  have h2 : (o + d - o) % m = 0 := by
    rw [Int.sub_emod, h, Int.sub_self]; rfl
  rwa [show o + d - o = d by omega] at h2
/-- two numbers of one word -/
theorem word_diff {m : Int} {us ad : List Int} (hM : mapP m us ad) (hR : regB m us = true) (k : Nat) : ∀ (ws : List Int), ws.length = k → (∀ r ∈ ws, 0 ≤ r ∧ r < m) → ∀ x y, IsWord m us ad ws x → IsWord m us ad ws y → ∃ D, y = x + D * m ^ k := by
  have hm : 0 < m := by have := hM.1; omega
  induction k with
  | zero => intro ws _ _ x y _ _; exact ⟨y - x, by rw [Int.pow_zero]; omega⟩
  | succ k ih =>
    intro ws hl hw x y hx hy
    rcases List.eq_nil_or_concat ws with rfl | ⟨p, r, rfl⟩
    · simp at hl
    · rw [List.concat_eq_append] at *
      have hp : p.length = k := by simpa using hl
      have pre : ∀ z, IsWord m us ad (p ++ [r]) z → IsWord m us ad p z := fun z hz i hi => by
        have := hz i (by simp; omega)
        rwa [List.getD_eq_getElem?_getD, List.getElem?_append_left hi, ← List.getD_eq_getElem?_getD] at this
      have lst : ∀ z, IsWord m us ad (p ++ [r]) z → orbN m us ad k z % m = r := fun z hz => by
        have := hz k (by simp; omega)
        rwa [List.getD_eq_getElem?_getD, List.getElem?_append_right (by omega), hp, Nat.sub_self] at this
      obtain ⟨D, hD⟩ := ih p hp (fun s hs => hw s (by simp [hs])) x y (pre x hx) (pre y hy)
      have ho := alike_orb (us := us) (ad := ad) hm k x D k (Nat.le_refl _)
      rw [← hD, Nat.sub_self, Int.pow_zero, Int.mul_one, growN_line k p hp (pre x hx)] at ho
      have hc := (line_cop hM hR p (fun s hs => hw s (by simp [hs]))).1
      have h1 : (orbN m us ad k x + D * (lineI m us ad p).1) % m = orbN m us ad k x % m := by
        rw [← ho, lst y hy, lst x hx]
      obtain ⟨E, hE⟩ := dvd_of_cop hc (add_emod_zero h1)
      exact ⟨E, by rw [hD, hE, Int.pow_succ, Int.mul_assoc, Int.mul_comm m]⟩
theorem word_mod {m : Int} {us ad : List Int} (hm : 0 < m) {ws : List Int} {x D : Int} (h : IsWord m us ad ws x) : IsWord m us ad ws (x + D * m ^ ws.length) := fun i hi => by
  rw [alike_rest hm ws.length x D i hi, h i hi]
/-- Terras -/
theorem word_iff {m : Int} {us ad : List Int} (hM : mapP m us ad) (hR : regB m us = true) {ws : List Int} (hw : ∀ r ∈ ws, 0 ≤ r ∧ r < m) {R : Int} (h0 : 0 ≤ R) (h1 : R < m ^ ws.length) (hI : IsWord m us ad ws R) (x : Int) : IsWord m us ad ws x ↔ x % m ^ ws.length = R := by
  have hm : 0 < m := by have := hM.1; omega
  constructor
  · intro hx
    obtain ⟨D, hD⟩ := word_diff hM hR ws.length ws rfl hw R x hI hx
    rw [hD, Int.add_mul_emod_self_right, Int.emod_eq_of_lt h0 h1]
  · intro hx
    have e : x = R + (x / m ^ ws.length) * m ^ ws.length := by
      have := Int.emod_add_mul_ediv x (m ^ ws.length)
      rw [hx, Int.mul_comm] at this
      exact this.symm
    rw [e]
    exact word_mod hm hI
theorem wordI_iff {m : Int} {us ad : List Int} {ws : List Int} {x : Int} : wordI m us ad ws.length x = ws ↔ IsWord m us ad ws x := by
  constructor
  · intro h i hi
    have h2 : (wordI m us ad ws.length x).getD i 0 = ws.getD i 0 := by rw [h]
    rw [← h2, List.getD_eq_getElem?_getD]
    unfold wordI
    rw [List.getElem?_map, List.getElem?_range hi]; rfl
  · intro h
    refine List.ext_getElem (word_len _ _ _ _ _) fun i h1 h2 => ?_
    have h3 := h i h2
    rw [List.getD_eq_getElem?_getD, List.getElem?_eq_getElem h2] at h3
    simp only [wordI, List.getElem_map, List.getElem_range]
    exact h3
set_option maxRecDepth 100000 in
set_option maxHeartbeats 1600000 in
theorem ralike_any (A B : Option Addr) (n c k d : Nat) (xs ys : List Int) (w : World) (ra : Rd w A (Is xs)) (rb : Rd w B (Is ys)) (hn : xs.length = n) (hk : ys.length = k) (hb : n ≤ 140737488351232) (hb2 : k ≤ 140737488351232) {b : Bool} (hb3 : Hid (b = true ↔ xs = ys)) :
    Calls Tryd.prog 9 #[.slice A n c, .slice B k d] w (fun e w' => e = .returned (.bool b) ∧ Ext w w') := by
  have HN := hid hn
  have HK := hid hk
  have HA := hid ra
  have HB := hid rb
  by_cases hnk : n = k
  case neg =>
    obtain rfl : b = false := by
      cases b with
      | false => rfl
      | true => exact absurd (by rw [← hn, ← hk, hb3.out.1 rfl]) hnk
    have q0 : ¬ ((n : Int) = (k : Int)) := by omega
    have q1 : ((n : Int) == (k : Int)) = false := beq_eq_false_iff_ne.2 q0
    have q2 : ((n : Int) != (k : Int)) = true := by rw [bne, q1]; rfl
    clear hn hk ra rb hb3
    go_enter Tryd.func9, Tryd.ntmps9
    go_wp2_with fail
    go_ret
    exact ⟨rfl, Ext.rfl' _⟩
  case pos =>
    subst hnk
    have hb4 : n ≤ 9223372036854775807 := by omega
    clear hn hk ra rb
    go_enter Tryd.func9, Tryd.ntmps9
    go_wp2_with fail
    go_loopw [5] (fun iz wr => ∃ j : Nat, j ≤ n ∧ iz = .int .i64 (j : Int) ∧ Hid (∀ i, i < j → xs.getD i 0 = ys.getD i 0) ∧ Ext w wr) (fun iz _ => n - (intOf iz).toNat)
    case atStart => exact ⟨0, by omega, rfl, hid (fun i hi => absurd hi (by omega)), Ext.rfl' _⟩
    case round =>
      obtain ⟨j, hj, rfl, HJ, hex⟩ := hrel
      by_cases hlt : j < n
      · obtain ⟨b1, o1, e1, -, hc1⟩ := (HA.out.ext hex).atI (k := j) (by rw [HN.out]; exact hlt)
        obtain ⟨b2, o2, e2, -, hc2⟩ := (HB.out.ext hex).atI (k := j) (by rw [HK.out]; exact hlt)
        subst e1 e2
        obtain ⟨u, hu⟩ : ∃ u, xs.getD j 0 = u := ⟨_, rfl⟩
        obtain ⟨v, hv⟩ : ∃ v, ys.getD j 0 = v := ⟨_, rfl⟩
        rw [hu] at hc1
        rw [hv] at hc2
        have HU := hid hu
        have HV := hid hv
        clear hu hv
        by_cases huv : u = v
        · subst huv
          go_wp2_with fail
          go_quiet (fail)
          have hex2 := hex.drewN nq
          go_wp2
          go_roundw
          case rel => exact ⟨j + 1, by omega, by simp, hid (fun i hi => by
            rcases Nat.lt_or_ge i j with h | h
            · exact HJ.out i h
            · obtain rfl : i = j := by omega
              rw [HU.out, HV.out]), hex2⟩
          case measure => simp [intOf]; omega
        · obtain rfl : b = false := by
            cases b with
            | false => rfl
            | true => exact absurd (by rw [← HU.out, ← HV.out, hb3.out.1 rfl]) huv
          have q1 : (u == v) = false := beq_eq_false_iff_ne.2 huv
          have q2 : (u != v) = true := by rw [bne, q1]; rfl
          go_wp2_with fail
          go_quiet (fail)
          have hex2 := hex.drewN nq
          have HX := hid hex2
          go_wp2
          go_ret
          exact ⟨rfl, HX.out⟩
      · have HX := hid hex
        obtain rfl : j = n := by omega
        obtain rfl : b = true := hb3.out.2 (List.ext_getElem (by rw [HN.out, HK.out]) fun i h1 h2 => by
          have := HJ.out i (by rw [← HN.out]; exact h1)
          rwa [List.getD_eq_getElem?_getD, List.getElem?_eq_getElem h1, List.getD_eq_getElem?_getD, List.getElem?_eq_getElem h2] at this)
        go_wp2
        go_ret
        exact ⟨rfl, HX.out⟩
end Go.Proofs.YtbmmilhinbfahaaDoor
/- package sieve: restsOf -/
namespace Go.Proofs.YtbmmilhinbfahaaDoor
open Go.RowKit
/-- the map and k suit a sieve -/
def SuitP (m : Int) (us : List Int) (k : Int) : Prop := regB m us = true ∧ 1 ≤ k ∧ m ^ k.toNat ≤ 65536
/-- what restsOf tells -/
def RestsC (m : Int) (us : List Int) (k wh c : Int) : Prop := (SuitP m us k ∧ wh = m ^ k.toNat ∧ c = 0) ∨ (¬ SuitP m us k ∧ wh = 0 ∧ c = 2)
theorem pow_grow {m : Int} (hm : 2 ≤ m) {i j : Nat} (h : i ≤ j) : m ^ i ≤ m ^ j := by
  obtain ⟨d, rfl⟩ := Nat.exists_eq_add_of_le h
  rw [Int.pow_add]
  have h1 : 0 < m ^ i := Int.pow_pos (by omega)
  have h2 : 0 < m ^ d := Int.pow_pos (by omega)
  have : m ^ i * 1 ≤ m ^ i * m ^ d := Int.mul_le_mul_of_nonneg_left (by omega) (by omega)
  omega
set_option maxRecDepth 100000 in
set_option maxHeartbeats 3200000 in
theorem restsOf_any (v : Value) (m : Int) (us ad : List Int) (k : Int) (w : World) (hv : MapV w v m us ad) (hM : Hid (mapP m us ad)) (hk : -9223372036854775808 ≤ k) (hk2 : k ≤ 9223372036854775807) :
    Calls Tryd.prog 11 #[v, .int .i64 k] w (fun e w' => ∃ wh c, e = .returned (.tuple #[.int .i64 wh, .int .i64 c]) ∧ RestsC m us k wh c ∧ Ext w w') := by
  have hm := hM.out.1
  have hm2 := hM.out.2.1
  have HV := hid hv
  obtain ⟨A, n, cc, B, n2, d, rfl, -⟩ := hv
  have hx : Ext w (w.alloc (.cells #[.int .i64 m, .slice A n cc, .slice B n2 d] 24)) := (Ext.rfl' w).alloc' _
  have hr : Row (w.alloc (.cells #[.int .i64 m, .slice A n cc, .slice B n2 d] 24)) w.heap.size 24 [.int .i64 m, .slice A n cc, .slice B n2 d] := Row.new w _ _
  obtain ⟨W1, hW1⟩ : ∃ W1, (w.alloc (.cells #[.int .i64 m, .slice A n cc, .slice B n2 d] 24)) = W1 := ⟨_, rfl⟩
  rw [hW1] at hx hr
  have HX := hid hx
  have HR := hid hr
  have HW1 := hid hW1
  obtain ⟨f0, f1, f2, -, -, -⟩ := row_facts3 hr
  obtain ⟨rb, hrb⟩ : ∃ rb, regB m us = rb := ⟨_, rfl⟩
  have HRB := hid hrb
  have hcon := regular_ok (.agg #[.int .i64 m, .slice A n cc, .slice B n2 d]) m us ad W1 (HV.out.ext hx) hM
  rw [hrb] at hcon
  have HC := hid hcon
  clear hW1 hx hr hrb hcon
  go_enter Tryd.func11, Tryd.ntmps11
  go_upto_region 1 with fail
  rw [HW1.out]
  go_wp2_with fail
  refine HC.out.mono ?_
  rintro e w2 ⟨rfl, hx2⟩
  have HX2 := hid (HX.out.step hx2)
  have H12 := hid hx2
  clear f0 f1 f2 hx2
  cases rb with
  | false =>
    have HN : Hid (RestsC m us k 0 2) := hid (.inr ⟨(fun h => by have e := HRB.out; rw [h.1] at e; cases e), rfl, rfl⟩)
    go_wp2
    go_ret2
    exact ⟨0, 2, rfl, HN.out, HX2.out⟩
  | true =>
    by_cases h1 : k < 1
    · have HN : Hid (RestsC m us k 0 2) := hid (.inr ⟨(fun h => by have := h.2.1; omega), rfl, rfl⟩)
      go_wp2
      go_ret2
      exact ⟨0, 2, rfl, HN.out, HX2.out⟩
    · obtain ⟨q, rfl⟩ : ∃ q : Nat, k = (q : Int) := ⟨k.toNat, by omega⟩
      have HK1 := hid h1
      go_wp2_with fail
      go_loopw [8, 24] (fun wv iv wr => ∃ j : Nat, j ≤ q ∧ wv = .int .i64 (m ^ j) ∧ iv = .int .i64 (j : Int) ∧ Hid (m ^ j ≤ 65536) ∧ Ext w2 wr) (fun _ iv _ => q - (intOf iv).toNat)
      case atStart => exact ⟨0, by omega, by simp, rfl, hid (by simp), Ext.rfl' _⟩
      case round =>
        obtain ⟨j, hj, rfl, rfl, HP, hex⟩ := hrel
        by_cases hlt : j < q
        · obtain ⟨P, hP⟩ : ∃ P, m ^ j = P := ⟨_, rfl⟩
          have hp0 : 0 < m ^ j := Int.pow_pos (by omega)
          rw [hP] at hp0
          have hp1 : P ≤ 65536 := by rw [← hP]; exact HP.out
          have c1 : (P * m).natAbs ≤ 65536 * 12 := by rw [Int.natAbs_mul]; exact Nat.mul_le_mul (by omega) (by omega)
          have W1w : IntKind.i64.wrap (P * m) = P * m := IntWalk.i64_in _ (by omega)
          have HPE := hid hP
          have HEX := hid hex
          rw [hP]
          obtain ⟨f0, f1, f2, -, -, -⟩ := row_facts3 (HR.out.ext (H12.out.step hex))
          clear hP hp0 hp1 c1 hex
          by_cases hg : 65536 < P * m
          · have HN : Hid (RestsC m us (q : Int) 0 2) := hid (.inr ⟨(fun h => by
              have h2 := h.2.2
              rw [Int.toNat_natCast] at h2
              have h3 := pow_grow (m := m) hm (show j + 1 ≤ q by omega)
              rw [Int.pow_succ, HPE.out] at h3
              omega), rfl, rfl⟩)
            have HF := hid (HX2.out.step HEX.out)
            go_wp2
            go_ret2
            exact ⟨0, 2, rfl, HN.out, HF.out⟩
          · have HPN := hid (show m ^ (j + 1) ≤ 65536 by rw [Int.pow_succ, HPE.out]; omega)
            go_wp2
            go_roundw
            case rel => exact ⟨j + 1, by omega, by rw [Int.pow_succ, HPE.out], by simp, HPN, HEX.out⟩
            case measure => first | (simp [intOf]; done) | (simp [intOf]; omega)
        · obtain rfl : j = q := by omega
          have HN : Hid (RestsC m us (j : Int) (m ^ j) 0) := hid (.inl ⟨⟨HRB.out, by have := HK1.out; omega, by rw [Int.toNat_natCast]; exact HP.out⟩, by rw [Int.toNat_natCast], rfl⟩)
          have HF := hid (HX2.out.step hex)
          go_wp2
          go_ret2
          exact ⟨m ^ j, 0, rfl, HN.out, HF.out⟩
end Go.Proofs.YtbmmilhinbfahaaDoor
/- package sieve: the mathematics of places along a word -/
namespace Go.Proofs.YtbmmilhinbfahaaDoor
open Go.RowKit
theorem mod_diff {X Y M : Int} (h : X % M = Y % M) : ∃ D, Y = X + D * M := by
  refine ⟨Y / M - X / M, ?_⟩
  have h1 := Int.emod_add_mul_ediv X M
  have h2 := Int.emod_add_mul_ediv Y M
  rw [Int.sub_mul, Int.mul_comm (Y / M), Int.mul_comm (X / M)]
  omega
theorem wordI_congr {m : Int} {us ad : List Int} (hm : 0 < m) {s : Nat} {X Y : Int} (h : X % m ^ s = Y % m ^ s) : wordI m us ad s Y = wordI m us ad s X := by
  obtain ⟨D, rfl⟩ := mod_diff h
  unfold wordI
  refine List.map_congr_left fun i hi => ?_
  exact alike_rest hm s X D i (List.mem_range.1 hi)
theorem orb_congr {m : Int} {us ad : List Int} (hm : 0 < m) {s : Nat} {X Y : Int} (h : X % m ^ (s + 1) = Y % m ^ (s + 1)) : orbN m us ad s Y % m = orbN m us ad s X % m := by
  obtain ⟨D, rfl⟩ := mod_diff h
  exact alike_rest hm (s + 1) X D s (Nat.lt_succ_self s)
theorem mod_next {m : Int} (hm : 0 < m) (s : Nat) (X : Int) : X % m ^ (s + 1) = X % m ^ s + (X / m ^ s) % m * m ^ s := by
  have hp : 0 < m ^ s := Int.pow_pos hm
  have h1 := Int.emod_add_mul_ediv X (m ^ s)
  have h2 := Int.emod_add_mul_ediv (X / m ^ s) m
  have h3 := Int.emod_nonneg X (show m ^ s ≠ 0 by omega)
  have h4 := Int.emod_lt_of_pos X hp
  have h5 := Int.emod_nonneg (X / m ^ s) (show m ≠ 0 by omega)
  have h6 := Int.emod_lt_of_pos (X / m ^ s) hm
  have e1 : m ^ (s + 1) = m ^ s * m := Int.pow_succ m s
  generalize m ^ s = P at *
  generalize X / P = q at *
  generalize X % P = r at *
  generalize q / m = qq at *
  generalize q % m = t at *
  have e : X = (r + t * P) + m ^ (s + 1) * qq := by
    rw [e1, ← h1, ← h2, Int.mul_add, Int.mul_assoc, Int.mul_comm P t]
    omega
  have b1 : 0 ≤ t * P := Int.mul_nonneg h5 (by omega)
  have b2 : t * P ≤ (m - 1) * P := Int.mul_le_mul_of_nonneg_right (by omega) (by omega)
  have b3 : (m - 1) * P = P * m - P := by rw [Int.sub_mul, Int.one_mul, Int.mul_comm]
  rw [e, Int.add_mul_emod_self_left, Int.emod_eq_of_lt (by omega) (by omega)]
theorem digit_eq {m : Int} (hm : 0 < m) {s k : Nat} (h : s < k) (X : Int) : (X % m ^ k) / m ^ s % m = (X / m ^ s) % m := by
  obtain ⟨d, rfl⟩ := Nat.exists_eq_add_of_lt h
  have hp : 0 < m ^ s := Int.pow_pos hm
  have h1 := Int.emod_add_mul_ediv X (m ^ (s + d + 1))
  have e1 : m ^ (s + d + 1) = m ^ s * (m ^ d * m) := by rw [Nat.add_assoc, Int.pow_add, Int.pow_succ]
  have e2 : X = X % m ^ (s + d + 1) + m ^ s * (m * (m ^ d * (X / m ^ (s + d + 1)))) := by
    rw [e1] at h1 ⊢
    rw [show m ^ s * (m * (m ^ d * (X / (m ^ s * (m ^ d * m))))) = m ^ s * (m ^ d * m) * (X / (m ^ s * (m ^ d * m))) by
      rw [Int.mul_assoc (m ^ s), Int.mul_comm (m ^ d) m, Int.mul_assoc m]]
    exact h1.symm
  conv => rhs; rw [e2]
  rw [Int.add_mul_ediv_left _ _ (by omega), Int.add_mul_emod_self_left]
/-- the linear map of the word of X, s steps long -/
def lnX (m : Int) (us ad : List Int) (X : Int) (s : Nat) : Int × Int × Int := lineI m us ad (wordI m us ad s X)
theorem lnX_div (m : Int) (us ad : List Int) (X : Int) (s : Nat) : (lnX m us ad X s).2.2 = m ^ s := by rw [lnX, lineI_div, word_len]
theorem lnX_next (m : Int) (us ad : List Int) (X : Int) (s : Nat) : lnX m us ad X (s + 1) = thenL m us ad (lnX m us ad X s) (orbN m us ad s X % m) := by
  unfold lnX; rw [word_snoc, lineI_snoc]
/-- the word of X falls, s steps long -/
def FallsAt (m : Int) (us ad : List Int) (X : Int) (s : Nat) : Prop := (lnX m us ad X s).1 < m ^ s
theorem rest_ok2 {m : Int} (hm : 0 < m) (x : Int) : 0 ≤ x % m ∧ x % m < m := ⟨Int.emod_nonneg _ (by omega), Int.emod_lt_of_pos _ hm⟩
theorem lnX_grow {m : Int} {us ad : List Int} (hM : mapP m us ad) (X : Int) : ∀ (d s : Nat), 1 ≤ (lnX m us ad X s).1 → (lnX m us ad X s).1 ≤ (lnX m us ad X (s + d)).1
  | 0, s, _ => Int.le_refl _
  | d + 1, s, h => by
    have ih := lnX_grow hM X d s h
    have hr := rest_ok2 (show 0 < m by have := hM.1; omega) (orbN m us ad (s + d) X)
    obtain ⟨u1, u2, -⟩ := rule_of hM hr.1 hr.2
    rw [← Nat.add_assoc, lnX_next]
    show _ ≤ us.getD (orbN m us ad (s + d) X % m).toNat 0 * (lnX m us ad X (s + d)).1
    have : 1 * (lnX m us ad X (s + d)).1 ≤ us.getD (orbN m us ad (s + d) X % m).toNat 0 * (lnX m us ad X (s + d)).1 := Int.mul_le_mul_of_nonneg_right u1 (by omega)
    omega
theorem lnX_pos {m : Int} {us ad : List Int} (hM : mapP m us ad) (X : Int) (s : Nat) : 1 ≤ (lnX m us ad X s).1 := by
  have h := lnX_grow hM X s 0 (by show (1 : Int) ≤ 1; omega)
  rw [Nat.zero_add] at h
  have : (lnX m us ad X 0).1 = 1 := rfl
  omega
theorem no_fall {m : Int} {us ad : List Int} (hM : mapP m us ad) {X : Int} {k s : Nat} (h : m ^ k ≤ (lnX m us ad X s).1) (j : Nat) (h1 : s ≤ j) (h2 : j ≤ k) : ¬ FallsAt m us ad X j := by
  obtain ⟨d, rfl⟩ := Nat.exists_eq_add_of_le h1
  have h3 := lnX_grow hM X d s (lnX_pos hM X s)
  have h4 := pow_grow (m := m) hM.1 h2
  unfold FallsAt
  omega
theorem lnX_add {m : Int} {us ad : List Int} (hM : mapP m us ad) (X : Int) : ∀ s : Nat, (lnX m us ad X s).2.1.natAbs ≤ 1000000 * ((lnX m us ad X s).1.natAbs * (m ^ s).natAbs)
  | 0 => by show (0 : Int).natAbs ≤ _; simp
  | s + 1 => by
    have ih := lnX_add hM X s
    have hp := lnX_pos hM X s
    have hm := hM.1
    have hr := rest_ok2 (show 0 < m by omega) (orbN m us ad s X)
    obtain ⟨u1, u2, a1, a2, -⟩ := rule_of hM hr.1 hr.2
    have hd := lnX_div m us ad X s
    rw [lnX_next]
    unfold thenL
    rw [hd]
    generalize us.getD (orbN m us ad s X % m).toNat 0 = u at *
    generalize ad.getD (orbN m us ad s X % m).toNat 0 = a at *
    generalize (lnX m us ad X s).1 = M at *
    generalize (lnX m us ad X s).2.1 = A at *
    rw [Int.pow_succ]
    generalize m ^ s = P at *
    show (u * A + a * P).natAbs ≤ 1000000 * ((u * M).natAbs * (P * m).natAbs)
    have e1 : (u * A + a * P).natAbs ≤ u.natAbs * A.natAbs + a.natAbs * P.natAbs := by
      have := Int.natAbs_add_le (u * A) (a * P)
      rwa [Int.natAbs_mul, Int.natAbs_mul] at this
    have e2 : u.natAbs * A.natAbs ≤ u.natAbs * (1000000 * (M.natAbs * P.natAbs)) := Nat.mul_le_mul_left _ ih
    have e3 : a.natAbs * P.natAbs ≤ 1000000 * (u.natAbs * M.natAbs * P.natAbs) := by
      have h1 : 1 ≤ u.natAbs * M.natAbs := Nat.mul_pos (by omega) (by omega)
      have h2 : a.natAbs * P.natAbs ≤ 1000000 * P.natAbs := Nat.mul_le_mul_right _ (by omega)
      have h3 : 1 * P.natAbs ≤ u.natAbs * M.natAbs * P.natAbs := Nat.mul_le_mul_right _ h1
      omega
    have e4 : u.natAbs * (1000000 * (M.natAbs * P.natAbs)) = 1000000 * (u.natAbs * M.natAbs * P.natAbs) := by
      rw [Nat.mul_left_comm, Nat.mul_assoc u.natAbs M.natAbs P.natAbs]
    have e5 : (u * M).natAbs * (P * m).natAbs = (u.natAbs * M.natAbs * P.natAbs) * m.natAbs := by
      rw [Int.natAbs_mul, Int.natAbs_mul]
      exact (Nat.mul_assoc (u.natAbs * M.natAbs) P.natAbs m.natAbs).symm
    have e6 : (u.natAbs * M.natAbs * P.natAbs) * 2 ≤ (u.natAbs * M.natAbs * P.natAbs) * m.natAbs := Nat.mul_le_mul_left _ (by omega)
    rw [e5]
    omega
end Go.Proofs.YtbmmilhinbfahaaDoor
/- a slice of ints appended to an own row -/
namespace Go.Proofs.YtbmmilhinbfahaaDoor
open Go.RowKit
section
variable {P : Program}
theorem run_append_slice (w : World) (base : Nat) (t ty e : TypeId) (i : TypeInfo) (ht : P.underlying t = some (.slice e)) (hi : P.info? e = some i) (hz : i.zero = some (.int .i64 0))
    (hsize : i.size = 1) (hby : i.bytes = 8) (V : Option Addr) (n cap : Nat) (xs : List Value) (hown : w.ownsRow base e 1 (.slice V n cap) n xs)
    (B : Option Addr) (k c : Nat) (vs : List Int) (hl : vs.length = k) (hr : Rd w B (Is vs)) (hb : (n + k) * 8 ≤ 140737488355328) (hbase : base ≤ w.heap.size) :
    ∃ V' cap' w', (Builtin.append_ #[t, t] ty #[.slice V n cap, .slice B k c]).run P w = .ok (.slice V' (n + k) cap') w' ∧ w'.ownsRow base e 1 (.slice V' (n + k) cap') (n + k) (xs ++ Is vs) ∧ w.grownBy w' (Value.ownBlock (.slice V n cap)) := by
  rcases Nat.eq_zero_or_pos k with h0 | h0
  · subst h0
    have hvs : vs = [] := List.eq_nil_of_length_eq_zero hl
    subst hvs
    have hsrc : Src P i.size t (.slice B 0 c) 0 [] w := by
      cases B with
      | none => exact Src.ofNil w ht c
      | some ad => exact Src.ofSlice w ht ad 0 c [] (by simp) (by simp) (by simp)
    have hcap : n ≤ cap := by
      rcases hown.2 with ⟨h, h0⟩ | ⟨g, cap0, cur, h, _, _, hc, _⟩
      · injection h with h1 h2 h3; omega
      · injection h with h1 h2 h3; omega
    have hrun := run_append_nothing (P := P) w t t ty e i ht hi V n cap hcap (.slice B 0 c) hsrc
    exact ⟨V, cap, w, hrun, by simpa using hown, ⟨rfl, rfl, rfl, Nat.le_refl _, fun _ _ _ => rfl⟩⟩
  · rcases hr with hn | ⟨g, off, rfl, hlt, hc⟩
    · rw [List.map_eq_nil_iff] at hn; subst hn; simp at hl; omega
    · obtain ⟨v', w', hrun, h2, h3, -⟩ := run_append_own (P := P) w base t ty e i _ 1 8 ht hi hz hsize hby (by rfl) (by omega) _ n xs hown ⟨g, off, none⟩ k c (Is vs) (by simp [hl]) (fun j u hu => by
        have : (⟨g, off, none⟩ : Addr).add j = ⟨g, off + j, none⟩ := by unfold Addr.add; split <;> simp_all
        rw [this]; exact hc j u hu) (fun u hu => by obtain ⟨y, _, rfl⟩ := List.mem_map.1 hu; rfl) (by unfold maxLen; omega) hb hbase
      obtain ⟨g', cap', sp, rfl, -⟩ := own_form h2 (by omega)
      exact ⟨_, _, w', hrun, h2, h3⟩
theorem wpList_append_slice {w : World} {ops : Array Oper} {rest : List Oper} {o : Oper} {a : Act} {Q : Exit → Act → World → Prop} (hgd : o.guard = none) (s x : Operand) (t : TypeId)
    (ho : o.op = .call { callee := .builtin .append, args := #[s, x], argTypes := #[t, t] })
    (base : Nat) (e : TypeId) (i : TypeInfo) (ht : P.underlying t = some (.slice e)) (hi : P.info? e = some i) (hz : i.zero = some (.int .i64 0))
    (hsize : i.size = 1) (hby : i.bytes = 8) (V : Option Addr) (n cap : Nat) (xs : List Value) (hs : a.eval s = .slice V n cap) (hown : w.ownsRow base e 1 (.slice V n cap) n xs)
    (B : Option Addr) (k c : Nat) (vs : List Int) (hx : a.eval x = .slice B k c) (hl : vs.length = k) (hr : Rd w B (Is vs)) (hb : (n + k) * 8 ≤ 140737488355328) (hbase : base ≤ w.heap.size)
    (h : ∀ V' cap' w', w'.ownsRow base e 1 (.slice V' (n + k) cap') (n + k) (xs ++ Is vs) → w.grownBy w' (Value.ownBlock (.slice V n cap)) → wpList P ops Q rest (a.put o.dst (.slice V' (n + k) cap')) w') : wpList P ops Q (o :: rest) a w :=
  wpList_plain hgd fun _ hK => by
    obtain ⟨V', cap', w', hr, h2, h3⟩ := run_append_slice (P := P) w base t o.type e i ht hi hz hsize hby V n cap xs hown B k c vs hl hr hb hbase
    unfold Oper.wp execOp
    simp only [ho, resolve, invoke, builtin, Sem.run_bind, Sem.run_pure, Result.andThen_ok, List.map_toArray, List.map_cons, List.map_nil, hs, hx, hr]
    exact hK _ _ (h V' cap' w' h2 h3)
end
theorem own_new (w : World) (e : TypeId) : (w.alloc (.cells #[] e)).ownsRow w.heap.size e 1 (.slice (some ⟨w.heap.size, 0, none⟩) 0 0) 0 [] :=
  World.ownsRow_made w #[] 0 (Nat.le_refl _) (Nat.zero_le _) rfl
end Go.Proofs.YtbmmilhinbfahaaDoor
/- WordParts: numbers, and the linear map of a word behind another -/
namespace Go.Proofs.YtbmmilhinbfahaaDoor
open Go.RowKit
theorem line_append (m : Int) (us ad : List Int) (u : List Int) : ∀ (k : Nat) (v : List Int), v.length = k →
    lineI m us ad (u ++ v) = ((lineI m us ad v).1 * (lineI m us ad u).1, (lineI m us ad v).1 * (lineI m us ad u).2.1 + (lineI m us ad v).2.1 * (lineI m us ad u).2.2, (lineI m us ad u).2.2 * (lineI m us ad v).2.2)
  | 0, v, h => by
    rw [List.eq_nil_of_length_eq_zero h, List.append_nil, show lineI m us ad [] = (1, 0, 1) from rfl]
    simp
  | k + 1, v, h => by
    rcases List.eq_nil_or_concat v with rfl | ⟨p, r, rfl⟩
    · simp at h
    · rw [List.concat_eq_append] at *
      have ih := line_append m us ad u k p (by simpa using h)
      rw [← List.append_assoc, lineI_snoc, lineI_snoc, ih]
      unfold thenL
      generalize lineI m us ad u = x
      generalize lineI m us ad p = y
      generalize us.getD r.toNat 0 = s
      generalize ad.getD r.toNat 0 = t
      obtain ⟨M, A, D⟩ := x
      obtain ⟨P, Q, R⟩ := y
      simp only
      refine Prod.ext ?_ (Prod.ext ?_ ?_)
      · show s * (P * M) = s * P * M
        rw [Int.mul_assoc]
      · show s * (P * A + Q * D) + t * (D * R) = s * P * A + (s * Q + t * R) * D
        rw [Int.mul_add, Int.add_mul, Int.mul_assoc s P A, Int.mul_assoc s Q D, Int.mul_assoc t R D, Int.mul_comm D R, Int.add_assoc]
      · show D * R * m = D * (R * m)
        rw [Int.mul_assoc]
end Go.Proofs.YtbmmilhinbfahaaDoor
/- the law WordParts, where both words together are not too long for one list -/
namespace Go.Proofs.YtbmmilhinbfahaaDoor
open Go.RowKit
theorem wordB_parts {m : Int} {u v : List Int} (h : wordB m (u ++ v) = true) : wordB m u = true ∧ wordB m v = true := by
  have h1 := wordB_iff.1 h
  have hl : u.length + v.length ≤ 200 := by simpa using h1.1
  exact ⟨wordB_iff.2 ⟨by omega, fun r hr => h1.2 r (by simp [hr])⟩, wordB_iff.2 ⟨by omega, fun r hr => h1.2 r (by simp [hr])⟩⟩
theorem mulF_big {M N : Int} (h1 : K.fits M) (h2 : K.fits N) : (M * N).natAbs ≤ BIG := by
  rw [Int.natAbs_mul]; exact le_big (mul_top (fits_top h1) (fits_top h2)) (by omega)
end Go.Proofs.YtbmmilhinbfahaaDoor
/- the law WordApplies -/
namespace Go.Proofs.YtbmmilhinbfahaaDoor
open Go.RowKit
theorem lin_big {M N A : Int} (h1 : K.fits M) (h2 : K.fits N) (h3 : K.fits A) : (M * N + A).natAbs ≤ BIG := by
  have a1 := fits_top h1
  have a2 := fits_top h2
  have a3 := fits_top h3
  have a4 := mul_top a1 a2
  have a5 : (M * N).natAbs = M.natAbs * N.natAbs := Int.natAbs_mul _ _
  have a6 := Int.natAbs_add_le (M * N) A
  have e1 : TOP (223 + 223) = TOP 223 * TOP 223 := TOP_add _ _
  have e2 : TOP (223 + 223 + 1) = TOP (223 + 223) * TOP 1 := TOP_add _ _
  have e3 : TOP 1 = 1000000000 := rfl
  have e4 := TOP_pos 223
  have e5 : TOP 223 * 1 ≤ TOP 223 * TOP 223 := Nat.mul_le_mul_left _ e4
  refine le_big (a := 223 + 223 + 1) ?_ (by omega)
  rw [e2, e3]
  generalize TOP (223 + 223) = P at *
  generalize TOP 223 = Q at *
  omega
/-- what Apply tells -/
def AppP (M A D N : Int) (s : ByteArray) (b : Bool) (c : Int) : Prop :=
  (D ≤ 0 → s = ⟨#[]⟩ ∧ b = false ∧ c = 2) ∧ (0 < D → ¬ K.fits (M * N + A) → s = ⟨#[]⟩ ∧ b = false ∧ c = 3) ∧ (0 < D → K.fits (M * N + A) → (M * N + A) % D ≠ 0 → s = ⟨#[]⟩ ∧ b = false ∧ c = 0) ∧
    (0 < D → K.fits (M * N + A) → (M * N + A) % D = 0 → s = Str (K.txt ((M * N + A) / D)) ∧ b = true ∧ c = 0)
end Go.Proofs.YtbmmilhinbfahaaDoor
/- the reference's Rest of layer 3 -/
namespace Go.Proofs.YtbmmilhinbfahaaDoor
open Go.RowKit
theorem NB.two_lt {B : Nat} {w : World} (_ : B ≤ w.heap.size) : w.heap.size < w.heap.size + 1 := Nat.lt_succ_self _
theorem no_int2 (b : Bool) (P : Option Addr) (q c : Nat) : NoInt [.bool b, .slice P q c] := by
  intro v hv k x e
  subst e
  simp at hv
theorem KeepRd.rfl' (w : World) : KeepRd w w := fun _ _ h => h
theorem KeepRd.allocN {w w1 : World} {o : Obj} (h : KeepRd w w1) : KeepRd w (w1.alloc o) := h.trans (KeepRd.of_ext ((Ext.rfl' w1).alloc' o))
theorem KeepRd.setN {w w1 : World} {g i : Nat} {u : Value} (h : KeepRd w w1) (hn : NoIntB w1 g) : KeepRd w (w1.setCell ⟨g, i, none⟩ u) :=
  h.trans (KeepRd.but hn (by rw [World.size_setCell]; exact Nat.le_refl _) (fun j _ hj => Below.heap_setCell w1 ⟨g, i, none⟩ u j hj))
theorem NoIntB.newN (w : World) (t : TypeId) (b : Bool) (P : Option Addr) (q c : Nat) : NoIntB (w.alloc (.cells #[.bool b, .slice P q c] t)) w.heap.size := ⟨_, _, _, Row.new w t [.bool b, .slice P q c], by simpa using no_int2 b P q c⟩
theorem NoIntB.allocN {w : World} {g : Nat} {o : Obj} (h : NoIntB w g) : NoIntB (w.alloc o) g := by
  refine h.keep (Below.heap_alloc w o g ?_)
  obtain ⟨cs, t, fr, h1, -⟩ := h
  rcases Nat.lt_or_ge g w.heap.size with hl | hl
  · exact hl
  · rw [Array.getElem?_eq_none hl] at h1; cases h1
theorem NoIntB.setN {w : World} {g h i : Nat} {u : Value} (hn : NoIntB w g) (hu : ∀ k x, u ≠ .int k x) : NoIntB (w.setCell ⟨h, i, none⟩ u) g := by
  by_cases hg : g = h
  · subst hg
    obtain ⟨cs, t, fr, h1, h2⟩ := hn
    refine ⟨cs.setIfInBounds i u, t, fr, by simp [World.setCell, Array.getElem?_modify, h1], fun v hv k x => ?_⟩
    rw [Array.toList_setIfInBounds] at hv
    rcases List.mem_or_eq_of_mem_set hv with h3 | h3
    · exact h2 v h3 k x
    · rw [h3]; exact hu k x
  · exact hn.keep (Below.heap_setCell w ⟨h, i, none⟩ u g hg)
theorem NoIntB.setB {w : World} {g h i : Nat} {b : Bool} (hn : NoIntB w g) : NoIntB (w.setCell ⟨h, i, none⟩ (.bool b)) g := hn.setN (fun k x => by simp)
theorem NoIntB.setS {w : World} {g h i : Nat} {P : Option Addr} {q c : Nat} (hn : NoIntB w g) : NoIntB (w.setCell ⟨h, i, none⟩ (.slice P q c)) g := hn.setN (fun k x => by simp)
theorem Row.new2 (w : World) (o : Obj) (t : TypeId) (vs : List Value) : Row ((w.alloc o).alloc (.cells vs.toArray t)) (w.heap.size + 1) t vs := by
  have := Row.new (w.alloc o) t vs
  rwa [World.size_alloc] at this
theorem Row.put2 {w : World} {H : Nat} {t : TypeId} {a b a' b' : Value} (h : Row w H t [a, b]) : Row ((w.setCell ⟨H, 0, none⟩ a').setCell ⟨H, 1, none⟩ b') H t [a', b'] := (h.set 0 a').set 1 b'
theorem Row.far2 {w : World} {H g : Nat} {t : TypeId} {vs : List Value} {a' b' : Value} (h : Row w g t vs) (hne : g ≠ H) : Row ((w.setCell ⟨H, 0, none⟩ a').setCell ⟨H, 1, none⟩ b') g t vs := (h.far (by exact hne) a').far (by exact hne) b'
/-- the rest after j rounds -/
def RestAt (m : Int) (us ad : List Int) (ws : List Int) (j : Nat) (T : Int) : Prop := 0 ≤ T ∧ T < m ^ j ∧ IsWord m us ad (ws.take j) T
theorem fits_pow {m : Int} {us ad ws : List Int} (hM : mapP m us ad) (hW : wordB m ws = true) {j : Nat} (hj : j ≤ ws.length) : K.fits (m ^ j) := by
  have hB := take_B (us := us) (ad := ad) hM hW hj
  have h200 := (wordB_iff.1 hW).1
  have hm := hM.1
  have h := (hB.fits hM (by omega) (r := 0) (by omega) (by omega)).2.2.1
  rw [lineI_div, List.length_take, Nat.min_eq_left hj] at h
  exact h
/-- what a place of the search knows -/
def Spot (m : Int) (M A0 D : Int) (T0 : Int) (a o r : Int) (t0 : Nat) : Prop := ∀ t : Nat, t ≤ t0 → M * (T0 + (t : Int) * D) + A0 = D * (o + (t : Int) * a) ∧ K.fits (T0 + (t : Int) * D) ∧ K.fits (T0 + (t : Int) * D + D)
theorem spot_of {m : Int} {us ad ws : List Int} (hM : mapP m us ad) (hR : regB m us = true) (hW : wordB m ws = true) {j : Nat} (hj : j < ws.length) {T0 : Int} (h : RestAt m us ad ws j T0) :
    ∃ t0 : Nat, (t0 : Int) < m ∧ (orbN m us ad j T0 + (t0 : Int) * (lineI m us ad (ws.take j)).1) % m = ws.getD j 0 ∧
      (∀ t : Nat, (t : Int) < m → (lineI m us ad (ws.take j)).1 * (T0 + (t : Int) * m ^ j) + (lineI m us ad (ws.take j)).2.1 = m ^ j * (orbN m us ad j T0 + (t : Int) * (lineI m us ad (ws.take j)).1) ∧
        0 ≤ T0 + (t : Int) * m ^ j ∧ T0 + (t : Int) * m ^ j < m ^ (j + 1)) ∧
      (∀ t : Nat, (t : Int) < m → (orbN m us ad j T0 + (t : Int) * (lineI m us ad (ws.take j)).1) % m = ws.getD j 0 → RestAt m us ad ws (j + 1) (T0 + (t : Int) * m ^ j)) := by
  have hm := hM.1
  have hm2 := hM.2.1
  have hp : 0 < m ^ j := Int.pow_pos (by omega)
  have hlen : (ws.take j).length = j := by rw [List.length_take]; omega
  have hwt : ∀ r ∈ ws.take j, 0 ≤ r ∧ r < m := fun r hr => (wordB_iff.1 hW).2 r (List.mem_of_mem_take hr)
  have hcop := line_cop hM hR (ws.take j) hwt
  have hrr := word_at hW hj
  obtain ⟨t0, h1, h2⟩ := sol_int (m := m) (a := (lineI m us ad (ws.take j)).1) (x := orbN m us ad j T0) (r := ws.getD j 0) (by omega) (by omega) (by omega) hcop.1 hrr.1 hrr.2
  have hbd : ∀ t : Nat, (t : Int) < m → 0 ≤ T0 + (t : Int) * m ^ j ∧ T0 + (t : Int) * m ^ j < m ^ (j + 1) := fun t ht => by
    have e1 : 0 ≤ (t : Int) * m ^ j := Int.mul_nonneg (by omega) (by omega)
    have e2 : (t : Int) * m ^ j ≤ (m - 1) * m ^ j := Int.mul_le_mul_of_nonneg_right (by omega) (by omega)
    have e3 : m ^ (j + 1) = m ^ j * m := Int.pow_succ m j
    have e4 : (m - 1) * m ^ j = m ^ j * m - m ^ j := by rw [Int.sub_mul, Int.one_mul, Int.mul_comm]
    have := h.1
    have := h.2.1
    omega
  refine ⟨t0, h1, h2, fun t ht => ⟨?_, hbd t ht⟩, fun t ht e => ?_⟩
  · have hw : IsWord m us ad (ws.take j) (T0 + (t : Int) * m ^ (ws.take j).length) := word_mod (by omega) h.2.2
    rw [hlen] at hw
    have e1 := lin_orb hM (T0 + (t : Int) * m ^ j) j
    have e2 : wordI m us ad j (T0 + (t : Int) * m ^ j) = ws.take j := by
      have := (wordI_iff (ws := ws.take j)).2 hw
      rwa [hlen] at this
    rw [e2, lineI_div, hlen] at e1
    rw [e1, alike_orb (by omega) j T0 t j (Nat.le_refl _), Nat.sub_self, Int.pow_zero, Int.mul_one, growN_line j (ws.take j) hlen h.2.2]
  · have hn := IsWord.next (ws := ws.take j) (x := T0) (t := t) (r := ws.getD j 0) (by omega) h.2.2 (by rw [hlen]; exact e)
    rw [hlen, ← take_next hj] at hn
    exact ⟨(hbd t ht).1, (hbd t ht).2, hn.1⟩
end Go.Proofs.YtbmmilhinbfahaaDoor
/- package sieve: Find, where all suits -/
namespace Go.Proofs.YtbmmilhinbfahaaDoor
open Go.RowKit
/-- the place of X after s steps -/
def PlP (m : Int) (us ad : List Int) (X : Int) (s : Nat) (r mu a di : Int) : Prop := r = X % m ^ s ∧ mu = (lnX m us ad X s).1 ∧ a = (lnX m us ad X s).2.1 ∧ di = m ^ s
theorem nn_mod {m : Int} (hm : 0 < m) (s : Nat) (X : Int) : 0 ≤ X % m ^ s ∧ X % m ^ s < m ^ s := by
  have hp : 0 < m ^ s := Int.pow_pos hm
  exact ⟨Int.emod_nonneg _ (by omega), Int.emod_lt_of_pos _ hp⟩
/-- what a step of the search wants -/
theorem place_next {m : Int} {us ad : List Int} (hM : mapP m us ad) {q s : Nat} (hs : s < q) (X : Int) :
    X % m ^ s + (X % m ^ q) / m ^ s % m * m ^ s = X % m ^ (s + 1) ∧
    (lnX m us ad X s).1 * (X % m ^ (s + 1)) + (lnX m us ad X s).2.1 = m ^ s * orbN m us ad s (X % m ^ (s + 1)) ∧
    orbN m us ad s (X % m ^ (s + 1)) % m = orbN m us ad s X % m ∧ (X % m ^ q) / m ^ s / m = (X % m ^ q) / m ^ (s + 1) := by
  have hm : 0 < m := by have := hM.1; omega
  have hp : 0 < m ^ s := Int.pow_pos hm
  have e0 : X % m ^ (s + 1) % m ^ (s + 1) = X % m ^ (s + 1) := Int.emod_emod_of_dvd X (Int.dvd_refl _)
  have e1 : X % m ^ (s + 1) % m ^ s = X % m ^ s := Int.emod_emod_of_dvd X ⟨m, Int.pow_succ m s⟩
  refine ⟨by rw [digit_eq hm hs, mod_next hm], ?_, orb_congr hm e0.symm, ?_⟩
  · have h := lin_orb hM (X % m ^ (s + 1)) s
    rw [wordI_congr hm e1.symm] at h
    have hd := lnX_div m us ad X s
    unfold lnX at hd ⊢
    rw [hd] at h
    exact h
  · rw [Int.pow_succ, Int.ediv_ediv_of_nonneg (by omega)]
/-- what Find tells where all suits -/
def FindC (m : Int) (us ad : List Int) (X : Int) (k : Nat) (v : Value) (b : Bool) : Prop :=
  (b = true ∧ ∃ i : Nat, 1 ≤ i ∧ i ≤ k ∧ FallsAt m us ad X i ∧ (∀ j, 1 ≤ j → j < i → ¬ FallsAt m us ad X j) ∧
    v = FaV (i : Int) (X % m ^ i) (Str (K.txt (lnX m us ad X i).1)) (Str (K.txt (lnX m us ad X i).2.1)) (Str (K.txt (m ^ i))) (Str (K.txt ((lnX m us ad X i).2.1 / (m ^ i - (lnX m us ad X i).1))))) ∨
  (b = false ∧ v = .agg #[.int .i64 0, .int .i64 0, .string ⟨#[]⟩, .string ⟨#[]⟩, .string ⟨#[]⟩, .string ⟨#[]⟩] ∧ ∀ j, 1 ≤ j → j ≤ k → ¬ FallsAt m us ad X j)
theorem row5_put6 {w : World} {H : Nat} {t : TypeId} {a b c d e a' b' c' d' e' : Value} (h : Row w H t [a, b, c, d, e]) : Row (((((w.setCell ⟨H, 0, none⟩ a').setCell ⟨H, 1, none⟩ b').setCell ⟨H, 2, none⟩ c').setCell ⟨H, 3, none⟩ d').setCell ⟨H, 4, none⟩ e') H t [a', b', c', d', e'] :=
  ((((h.set 0 a').set 1 b').set 2 c').set 3 d').set 4 e'
theorem child_any (v : Value) (m : Int) (us ads : List Int) (s r mu ad di t x q2 u2 a2 d2 : Int) (w : World) (hv : MapV w v m us ads) (hM : Hid (mapP m us ads)) (hs : 0 ≤ s) (hs2 : s ≤ 1000) (hr : 0 ≤ r) (hr2 : r < di) (hd : 1 ≤ di) (hd2 : di ≤ 65536) (ht : 0 ≤ t) (ht2 : t < m) (hu1 : 1 ≤ mu) (hu2 : mu ≤ 65536) (hA : ad.natAbs ≤ 4294967296000000)
    (hx : Hid (r + t * di = x)) (hq : Hid (mu * x + ad = di * q2)) (h1 : Hid (us.getD (q2 % m).toNat 0 * mu = u2)) (h2 : Hid (us.getD (q2 % m).toNat 0 * ad + ads.getD (q2 % m).toNat 0 * di = a2)) (h3 : Hid (di * m = d2)) :
    Calls Tryd.prog 17 #[PlV s r mu ad di, v, .int .i64 t] w (fun e w' => e = .returned (PlV (s + 1) x u2 a2 d2) ∧ Ext w w') := by
  have hm := hM.out.1
  have hm2 := hM.out.2.1
  have hq0 := Int.emod_nonneg q2 (show m ≠ 0 by omega)
  have hq1 := Int.emod_lt_of_pos q2 (show 0 < m by omega)
  have hru := rule_of hM.out hq0 hq1
  obtain ⟨A, n, cc, B, n2, d, rfl, e1, e2, e3, e4, e5, e6, -, -⟩ := hv
  obtain ⟨ba, oa, eA, -, -⟩ := e5.atI (k := (q2 % m).toNat) hru.2.2.2.2.1
  obtain ⟨bb, ob, eB, -, -⟩ := e6.atI (k := (q2 % m).toNat) hru.2.2.2.2.2
  subst eA eB
  have h := child_l ba oa bb ob n cc n2 d (q2 % m).toNat s r mu ad di m t q2 (us.getD (q2 % m).toNat 0) (ads.getD (q2 % m).toNat 0) us ads w e5 e6 e1 e3 hm hm2 hs hs2 hr hr2 hd hd2 ht ht2 hu1 hu2 hA (hid (by rw [hx.out]; exact hq.out)) (hid (by omega)) (by have := hru.2.2.2.2.1; omega) (by have := hru.2.2.2.2.2; omega) (hid rfl) (hid rfl) hru.1 hru.2.1 hru.2.2.1 hru.2.2.2.1
  rw [hx.out, h1.out, h2.out, Int.mul_comm m di, h3.out] at h
  exact h
theorem valid_b (l : List UInt8) (w : World) (hl : l.length ≤ 140737488351232) {b : Bool} (hb : Hid (K.validL l = b)) :
    Calls Tryd.prog 24 #[.string (Str l)] w (fun e w' => e = .returned (.bool b) ∧ Ext w w') := by
  rw [← hb.out]; exact valid_any l w hl
theorem rest_w (l : List UInt8) (d : Nat) (X : Int) (w : World) (hl : l.length ≤ 140737488351232) (hv : Hid (K.validL l = true)) (hX : Hid (K.numL l = X)) (hd2 : d ≤ 65536) (hd : 1 ≤ d) :
    Calls Tryd.prog 25 #[.string (Str l), .int .i64 (d : Int)] w (fun e w' => e = .returned (.tuple #[.int .i64 (X % (d : Int)), .int .i64 0]) ∧ Ext w w') := by
  rw [← hX.out]; exact rest_ok l d w hl hv.out hd (by omega)
set_option maxRecDepth 100000 in
set_option maxHeartbeats 12800000 in
theorem find_ok (v : Value) (m : Int) (us ad : List Int) (l : List UInt8) (X : Int) (q : Nat) (w : World) (hv : MapV w v m us ad) (hM : Hid (mapP m us ad)) (hlen : l.length ≤ 140737488351232) (hb2 : Hid (K.validL l = true)) (hX : Hid (K.numL l = X)) (hS : Hid (SuitP m us (q : Int))) (hqq : (q : Int) ≤ 9223372036854775807) (ht : Tab w) :
    Calls Tryd.prog 8 #[v, .string (Str l), .int .i64 (q : Int)] w (fun e w' => ∃ fv b, e = .returned (.tuple #[fv, .bool b, .int .i64 0]) ∧ FindC m us ad X q fv b ∧ Ext w w') := by
  have hm := hM.out.1
  have hm2 := hM.out.2.1
  have hb1 : Hid (mapB m us ad = true) := hid ((mapB_iff m us ad).2 hM.out)
  have hk1 : 1 ≤ q := by have := hS.out.2.1; omega
  have hk2 : m ^ q ≤ 65536 := by have := hS.out.2.2; rwa [Int.toNat_natCast] at this
  have hkp : 0 < m ^ q := Int.pow_pos (by omega)
  obtain ⟨wh, hwh⟩ : ∃ wh : Nat, m ^ q = (wh : Int) := ⟨(m ^ q).toNat, by omega⟩
  have HWH := hid hwh
  have HK1 := hid hk1
  have HK2 := hid hk2
  have HT := hid ht
  have HV := hid hv
  obtain ⟨A, n, cc, B, n2, d, rfl, -⟩ := hv
  have hx : Ext w ((w.alloc (.cells #[.int .i64 m, .slice A n cc, .slice B n2 d] 24)).alloc (.cells #[.int .i64 0, .int .i64 0, .string ⟨#[]⟩, .string ⟨#[]⟩, .string ⟨#[]⟩, .string ⟨#[]⟩] 37)) := ((Ext.rfl' w).alloc' _).alloc' _
  have hr1 : Row ((w.alloc (.cells #[.int .i64 m, .slice A n cc, .slice B n2 d] 24)).alloc (.cells #[.int .i64 0, .int .i64 0, .string ⟨#[]⟩, .string ⟨#[]⟩, .string ⟨#[]⟩, .string ⟨#[]⟩] 37)) w.heap.size 24 [.int .i64 m, .slice A n cc, .slice B n2 d] := (Row.new w _ _).alloc _
  have hr2 : Row ((w.alloc (.cells #[.int .i64 m, .slice A n cc, .slice B n2 d] 24)).alloc (.cells #[.int .i64 0, .int .i64 0, .string ⟨#[]⟩, .string ⟨#[]⟩, .string ⟨#[]⟩, .string ⟨#[]⟩] 37)) (w.heap.size + 1) 37 [.int .i64 0, .int .i64 0, .string ⟨#[]⟩, .string ⟨#[]⟩, .string ⟨#[]⟩, .string ⟨#[]⟩] := by
    have := Row.new (w.alloc (.cells #[.int .i64 m, .slice A n cc, .slice B n2 d] 24)) 37 [.int .i64 0, .int .i64 0, .string ⟨#[]⟩, .string ⟨#[]⟩, .string ⟨#[]⟩, .string ⟨#[]⟩]
    rwa [World.size_alloc] at this
  obtain ⟨W, hW⟩ : ∃ W, ((w.alloc (.cells #[.int .i64 m, .slice A n cc, .slice B n2 d] 24)).alloc (.cells #[.int .i64 0, .int .i64 0, .string ⟨#[]⟩, .string ⟨#[]⟩, .string ⟨#[]⟩, .string ⟨#[]⟩] 37)) = W := ⟨_, rfl⟩
  rw [hW] at hx hr1 hr2
  have HW := hid hW
  have HX := hid hx
  have R1 := hid hr1
  have R2 := hid hr2
  obtain ⟨f0, f1, f2, -, -, -⟩ := row_facts3 hr1
  clear hW hx hr1 hr2 hwh hk1 hk2 hkp
  go_enter Tryd.func8, Tryd.ntmps8
  go_upto_region 1 with fail
  rw [HW.out]
  go_wp2_with fail
  refine (stepvalid_any _ m us ad W (HV.out.ext HX.out) hb1).mono ?_
  rintro e w2 ⟨rfl, hx⟩
  have E2 := hid hx
  clear f0 f1 f2 hx
  go_wp2_with fail
  refine (valid_b l w2 hlen hb2).mono ?_
  rintro e w3 ⟨rfl, hx⟩
  have E3 := hid (E2.out.step hx)
  clear hx
  obtain ⟨f0, f1, f2, -, -, -⟩ := row_facts3 (R1.out.ext E3.out)
  go_wp2_with fail
  refine (restsOf_any _ m us ad (q : Int) w3 (HV.out.ext (HX.out.step E3.out)) hM (by omega) hqq).mono ?_
  rintro e w4 ⟨wh2, c2, rfl, hrc, hx⟩
  obtain ⟨-, rfl, rfl⟩ | ⟨hn, -, -⟩ := hrc
  case inr => exact absurd hS.out hn
  rw [Int.toNat_natCast, HWH.out]
  have E4 := hid (E3.out.step hx)
  clear f0 f1 f2 hx
  go_wp2_with fail
  refine (rest_w l wh X w4 hlen hb2 hX (by have := HWH.out; have := HK2.out; omega) (by have := HWH.out; have := HK2.out; have : 0 < m ^ q := Int.pow_pos (by omega); omega)).mono ?_
  rintro e w5 ⟨rfl, hx⟩
  rw [← HWH.out]
  have E5 := hid (E4.out.step hx)
  clear hx
  go_wp2_with fail
  refine (root_any w5).mono ?_
  rintro e w6 ⟨rfl, hx⟩
  unfold PlV
  have hy := hx.alloc' (.cells #[.int .i64 0, .int .i64 0, .int .i64 1, .int .i64 0, .int .i64 1] 46)
  have hr := Row.new w6 46 [.int .i64 0, .int .i64 0, .int .i64 1, .int .i64 0, .int .i64 1]
  obtain ⟨HP, hHP⟩ : ∃ HP, w6.heap.size = HP := ⟨_, rfl⟩
  have hgt : w.heap.size + 1 < HP := by
    have e1 := (R2.out.ext E5.out).lt
    have e2 := hx.size
    omega
  obtain ⟨W7, hW7⟩ : ∃ W7, w6.alloc (.cells #[.int .i64 0, .int .i64 0, .int .i64 1, .int .i64 0, .int .i64 1] 46) = W7 := ⟨_, rfl⟩
  rw [hW7] at hy hr
  rw [hHP] at hr
  have HW7 := hid hW7
  have E7 := hid (E5.out.step hy)
  have RP := hid hr
  have HGT := hid hgt
  clear hx hy hr hW7 hgt
  go_upto_region 10 with fail
  rw [HW7.out]
  clear hHP
  go_loopg [11] q (fun g dv wr => ∃ (s : Nat) (r mu a di : Int), s ≤ q ∧ g = q - s ∧ dv = .int .i64 ((X % m ^ q) / m ^ s) ∧ Row wr w.heap.size 24 [.int .i64 m, .slice A n cc, .slice B n2 d] ∧ Row wr (w.heap.size + 1) 37 [.int .i64 0, .int .i64 0, .string ⟨#[]⟩, .string ⟨#[]⟩, .string ⟨#[]⟩, .string ⟨#[]⟩] ∧ Row wr HP 46 [.int .i64 (s : Int), .int .i64 r, .int .i64 mu, .int .i64 a, .int .i64 di] ∧ Hid (PlP m us ad X s r mu a di) ∧ Hid (∀ j, 1 ≤ j → j < s → ¬ FallsAt m us ad X j) ∧ Ext w wr)
  case atStart =>
    refine ⟨0, 0, 1, 0, 1, by omega, by omega, by simp, R1.out.ext E7.out, R2.out.ext E7.out, by simpa using RP.out, hid ⟨by simp, rfl, rfl, by simp⟩, hid (fun j h1 h2 => by omega), HX.out.step E7.out⟩
  case round =>
    clear R1 R2 RP E2 E3 E4 E5 E7 HW HW7
    obtain ⟨s, r, mu, a, di, hs, rfl, rfl, hr1, hr2, hr3, HPL, HNF, hex⟩ := hrel
    have R1 := hid hr1
    have R2 := hid hr2
    have RP := hid hr3
    have EX := hid hex
    clear hr1 hr2 hr3 hex
    obtain ⟨p0, p1, p2, p3, p4⟩ := row_facts5 RP.out
    have HMU := hid (show 1 ≤ mu by rw [HPL.out.2.1]; exact lnX_pos hM.out X s)
    have HDI := hid (show 1 ≤ di ∧ di ≤ 65536 by
      have h1 := pow_grow (m := m) hm hs
      have h2 : 0 < m ^ s := Int.pow_pos (by omega)
      have h3 := HK2.out
      rw [HPL.out.2.2.2]; omega)
    by_cases hf : mu < di
    · have HF0 := hid hf
      go_wp2_with fail
      refine (falls_any (s : Int) r mu a di wr (b := true) (hid ⟨fun _ => HF0.out, fun _ => rfl⟩)).mono ?_
      rintro e w8 ⟨rfl, hx⟩
      have E8 := hid hx
      clear p0 p1 p2 p3 p4 hx
      obtain ⟨p0, p1, p2, p3, p4⟩ := row_facts5 (RP.out.ext E8.out)
      have hs1 : 1 ≤ s := by
        rcases Nat.eq_zero_or_pos s with h | h
        · subst h
          have h1 := HPL.out.2.1
          have h2 := HPL.out.2.2.2
          have h3 : (lnX m us ad X 0).1 = 1 := rfl
          rw [h3] at h1
          rw [Int.pow_zero] at h2
          omega
        · exact h
      have HADD : Hid (a.natAbs ≤ 9000000000000000000) := hid (by
        have h1 := lnX_add hM.out X s
        rw [← HPL.out.2.1, ← HPL.out.2.2.1, ← HPL.out.2.2.2] at h1
        have h2 : mu.natAbs * di.natAbs ≤ 65536 * 65536 := Nat.mul_le_mul (by have := HDI.out; have := HMU.out; omega) (by have := HDI.out; omega)
        omega)
      obtain ⟨su, hsu⟩ : ∃ su, Str (K.txt mu) = su := ⟨_, rfl⟩
      obtain ⟨sa, hsa⟩ : ∃ sa, Str (K.txt a) = sa := ⟨_, rfl⟩
      obtain ⟨sd, hsd⟩ : ∃ sd, Str (K.txt di) = sd := ⟨_, rfl⟩
      obtain ⟨sb, hsb⟩ : ∃ sb, Str (K.txt (a / (di - mu))) = sb := ⟨_, rfl⟩
      have HFC : Hid (FindC m us ad X q (FaV (s : Int) r su sa sd sb) true) := hid (.inl ⟨rfl, s, hs1, hs, by unfold FallsAt; rw [← HPL.out.2.1, ← HPL.out.2.2.2]; exact HF0.out, HNF.out, by
        rw [← hsu, ← hsa, ← hsd, ← hsb, ← HPL.out.2.1, ← HPL.out.2.2.1, ← HPL.out.1, ← HPL.out.2.2.2]⟩)
      have Hsu := hid hsu
      have Hsa := hid hsa
      have Hsd := hid hsd
      have Hsb := hid hsb
      clear hsu hsa hsd hsb hf
      go_wp2_with fail
      refine (fall_l (s : Int) r mu a di (a / (di - mu)) su sa sd sb w8 (HT.out.ext (EX.out.step E8.out)) HF0.out (hid ⟨by have := HMU.out; omega, by have := HDI.out; omega⟩) HADD (hid rfl) Hsu Hsa Hsd Hsb).mono ?_
      rintro e w9 ⟨rfl, hx⟩
      have E9 := hid (E8.out.step hx)
      have r2 := R2.out.ext E9.out
      obtain ⟨⟨y0, y1, y2, y3, y4, y5⟩, z0, z1, z2, z3, z4, z5⟩ := row_facts6 r2
      have HF := hid ((EX.out.step E9.out).set6 (H := w.heap.size + 1) (a := .int .i64 (s : Int)) (b := .int .i64 r) (c := .string su) (d := .string sa) (e := .string sd) (f := .string sb) (by omega))
      clear p0 p1 p2 p3 p4 hx r2
      unfold FaV
      go_wp2
      refine bodyPost_ret (v := .tuple #[.agg #[.int .i64 (s : Int), .int .i64 r, .string su, .string sa, .string sd, .string sb], .bool true, .int .i64 0]) (by simp [results, Tryd.results8, go_sem, y0, y1, y2, y3, y4, y5]) rfl ⟨_, _, rfl, HFC.out, HF.out⟩
    · have HF0 := hid hf
      go_wp2_with fail
      refine (falls_any (s : Int) r mu a di wr (b := false) (hid ⟨fun h => Bool.noConfusion h, fun h => by have := HF0.out; omega⟩)).mono ?_
      rintro e w8 ⟨rfl, hx⟩
      have E8 := hid hx
      clear p0 p1 p2 p3 p4 hx hf
      obtain ⟨p0, p1, p2, p3, p4⟩ := row_facts5 (RP.out.ext E8.out)
      have HNS : Hid (∀ j, 1 ≤ j → j < s + 1 → ¬ FallsAt m us ad X j) := hid (fun j h1 h2 => by
        rcases Nat.lt_or_ge j s with h3 | h3
        · exact HNF.out j h1 h3
        · obtain rfl : j = s := by omega
          unfold FallsAt
          rw [← HPL.out.2.1, ← HPL.out.2.2.2]
          have := HF0.out
          omega)
      by_cases hst : m ^ q ≤ mu ∨ di = m ^ q
      · have HST := hid hst
        have HFC : Hid (FindC m us ad X q (.agg #[.int .i64 0, .int .i64 0, .string ⟨#[]⟩, .string ⟨#[]⟩, .string ⟨#[]⟩, .string ⟨#[]⟩]) false) := hid (.inr ⟨rfl, rfl, fun j h1 h2 => by
          rcases Nat.lt_or_ge j (s + 1) with h3 | h3
          · exact HNS.out j h1 h3
          · rcases hst with h4 | h4
            · rw [HPL.out.2.1] at h4
              exact no_fall hM.out h4 j (by omega) h2
            · exfalso
              have h5 := pow_grow (m := m) hm (show s + 1 ≤ q by omega)
              have h6 : 0 < m ^ s := Int.pow_pos (by omega)
              rw [← h4, HPL.out.2.2.2, Int.pow_succ] at h5
              have h7 : m ^ s * 2 ≤ m ^ s * m := Int.mul_le_mul_of_nonneg_left hm (by omega)
              omega⟩)
        go_wp2_with fail
        refine (stays_any (s : Int) r mu a di (m ^ q) w8 (b := true) (hid ⟨fun _ => HST.out, fun _ => rfl⟩)).mono ?_
        rintro e w9 ⟨rfl, hx⟩
        have E9 := hid (E8.out.step hx)
        have r2 := R2.out.ext E9.out
        obtain ⟨⟨y0, y1, y2, y3, y4, y5⟩, z0, z1, z2, z3, z4, z5⟩ := row_facts6 r2
        have HF := hid ((EX.out.step E9.out).set6 (H := w.heap.size + 1) (a := .int .i64 0) (b := .int .i64 0) (c := .string ⟨#[]⟩) (d := .string ⟨#[]⟩) (e := .string ⟨#[]⟩) (f := .string ⟨#[]⟩) (by omega))
        clear p0 p1 p2 p3 p4 hx r2 hst
        go_wp2
        refine bodyPost_ret (v := .tuple #[.agg #[.int .i64 0, .int .i64 0, .string ⟨#[]⟩, .string ⟨#[]⟩, .string ⟨#[]⟩, .string ⟨#[]⟩], .bool false, .int .i64 0]) (by simp [results, Tryd.results8, go_sem, y0, y1, y2, y3, y4, y5]) rfl ⟨_, _, rfl, HFC.out, HF.out⟩
      · have HST := hid hst
        have hsq : s < q := by
          rcases Nat.lt_or_ge s q with h | h
          · exact h
          · obtain rfl : s = q := by omega
            exact absurd (.inr HPL.out.2.2.2) hst
        have hmu2 : mu ≤ 65536 := by
          have := HK2.out
          rcases Int.lt_or_le mu (m ^ q) with h | h
          · omega
          · exact absurd (.inl h) hst
        have hnx := place_next hM.out hsq X
        have hln := lnX_next m us ad X s
        have hdv := lnX_div m us ad X s
        obtain ⟨dg, hdg⟩ : ∃ dg, (X % m ^ q) / m ^ s = dg := ⟨_, rfl⟩
        obtain ⟨x, hxx⟩ : ∃ x, X % m ^ (s + 1) = x := ⟨_, rfl⟩
        obtain ⟨⟨u2, a2, dd⟩, hl2⟩ : ∃ y, lnX m us ad X (s + 1) = y := ⟨_, rfl⟩
        obtain ⟨d2, hd2⟩ : ∃ d2, m ^ (s + 1) = d2 := ⟨_, rfl⟩
        obtain ⟨q2, hq2⟩ : ∃ q2, orbN m us ad s x = q2 := ⟨_, rfl⟩
        have hnn := nn_mod (m := m) (by omega) q X
        have hsp : 0 < m ^ s := Int.pow_pos (by omega)
        have hdg0 : 0 ≤ dg := by rw [← hdg]; exact Int.ediv_nonneg hnn.1 (by omega)
        have hdg1 : dg ≤ 65536 := by
          have h1 : dg ≤ X % m ^ q := by rw [← hdg]; exact Int.ediv_le_self _ hnn.1
          have := HK2.out
          omega
        rw [hdg, hxx, hq2] at hnx
        rw [hdg]
        rw [hl2] at hln
        have HPN : Hid (PlP m us ad X (s + 1) x u2 a2 d2) := hid ⟨hxx.symm, by rw [hl2], by rw [hl2], hd2.symm⟩
        have HX1 : Hid (r + dg % m * di = x) := hid (by rw [HPL.out.1, HPL.out.2.2.2]; exact hnx.1)
        have HQ1 : Hid (mu * x + a = di * q2) := hid (by rw [HPL.out.2.1, HPL.out.2.2.1, HPL.out.2.2.2]; exact hnx.2.1)
        have hth := hln
        unfold thenL at hth
        rw [← hnx.2.2.1, hdv, ← HPL.out.2.1, ← HPL.out.2.2.1, ← HPL.out.2.2.2] at hth
        have HU2 : Hid (us.getD (q2 % m).toNat 0 * mu = u2) := hid (by have := congrArg (·.1) hth; exact this.symm)
        have HA2 : Hid (us.getD (q2 % m).toNat 0 * a + ad.getD (q2 % m).toNat 0 * di = a2) := hid (by have := congrArg (·.2.1) hth; exact this.symm)
        have HD2 : Hid (di * m = d2) := hid (by rw [HPL.out.2.2.2, ← hd2, Int.pow_succ])
        have HAD : Hid (a.natAbs ≤ 4294967296000000) := hid (by
          have h1 := lnX_add hM.out X s
          rw [← HPL.out.2.1, ← HPL.out.2.2.1, ← HPL.out.2.2.2] at h1
          have h2 : mu.natAbs * di.natAbs ≤ 65536 * 65536 := Nat.mul_le_mul (by have := HMU.out; omega) (by have := HDI.out; omega)
          omega)
        have HRR : Hid (0 ≤ r ∧ r < di) := hid (by rw [HPL.out.1, HPL.out.2.2.2]; exact nn_mod (by omega) s X)
        obtain ⟨tt, htt⟩ : ∃ tt, dg % m = tt := ⟨_, rfl⟩
        have hT : Int.tmod dg m = tt := by rw [Int.tmod_eq_emod_of_nonneg hdg0, htt]
        have HTT := hid (show 0 ≤ tt ∧ tt < m by rw [← htt]; exact rest_ok2 (by omega) dg)
        obtain ⟨d3, hd3⟩ : ∃ d3, dg / m = d3 := ⟨_, rfl⟩
        have hQ : Int.tdiv dg m = d3 := by rw [Int.tdiv_eq_ediv_of_nonneg hdg0, hd3]
        have HD3 : Hid ((X % m ^ q) / m ^ (s + 1) = d3) := hid (by rw [← hnx.2.2.2, hd3])
        have hd3b : d3 ≤ dg ∧ 0 ≤ d3 := by rw [← hd3]; exact ⟨Int.ediv_le_self _ hdg0, Int.ediv_nonneg hdg0 (by omega)⟩
        have hW : IntKind.i64.wrap d3 = d3 := IntWalk.i64_in _ (by omega)
        rw [htt] at HX1
        have M0 : ¬ m = 0 := by omega
        have hs200 : Hid ((s : Int) ≤ 1000) := hid (by
          have h1 : ∀ i : Nat, (i : Int) ≤ m ^ i := fun i => by
            induction i with
            | zero => simp
            | succ i ih =>
              have h2 : 0 < m ^ i := Int.pow_pos (by omega)
              have h3 : m ^ i * 2 ≤ m ^ i * m := Int.mul_le_mul_of_nonneg_left hm (by omega)
              rw [Int.pow_succ]; omega
          have h4 : ∀ i : Nat, (2 : Int) ^ i ≤ m ^ i := fun i => by
            induction i with
            | zero => simp
            | succ i ih =>
              have h2 : 0 < m ^ i := Int.pow_pos (by omega)
              have h3 : m ^ i * 2 ≤ m ^ i * m := Int.mul_le_mul_of_nonneg_left hm (by omega)
              rw [Int.pow_succ, Int.pow_succ]; omega
          rcases Nat.lt_or_ge s 17 with h5 | h5
          · omega
          · exfalso
            have h6 := pow_grow (m := (2 : Int)) (by omega) h5
            have h7 := h4 s
            have h8 := HDI.out.2
            rw [HPL.out.2.2.2] at h8
            have h9 : (2 : Int) ^ 17 = 131072 := by decide
            omega)
        have HMU2 := hid hmu2
        have HSQ := hid hsq
        clear hst hsq hmu2 hnx hln hdv hdg hxx hl2 hd2 hq2 hnn hsp hth htt hd3 hd3b hdg0 hdg1
        go_wp2_with fail
        refine (stays_any (s : Int) r mu a di (m ^ q) w8 (b := false) (hid ⟨fun h => Bool.noConfusion h, fun h => absurd h HST.out⟩)).mono ?_
        rintro e w9 ⟨rfl, hx⟩
        have E9 := hid (E8.out.step hx)
        clear p0 p1 p2 p3 p4 hx
        obtain ⟨p0, p1, p2, p3, p4⟩ := row_facts5 (RP.out.ext E9.out)
        obtain ⟨f0, f1, f2, -, -, -⟩ := row_facts3 (R1.out.ext E9.out)
        have hcur : Ext w9 w9 := Ext.rfl' _
        go_upto_region 13 with fail
        go_region_with (go_at_call 17; refine (child_any _ m us ad (s : Int) r mu a di tt x q2 u2 a2 d2 _ (HV.out.ext ((EX.out.step E9.out).step ?_)) hM (by omega) hs200.out HRR.out.1 HRR.out.2 HDI.out.1 HDI.out.2 HTT.out.1 HTT.out.2 HMU.out HMU2.out HAD.out HX1 HQ1 HU2 HA2 HD2).mono ?_; (first | exact hcur | exact hcur.drew' | exact hcur.alloc' _ | exact hcur.drew'.alloc' _ | exact (hcur.alloc' _).drew'); rintro e w10 ⟨rfl, hx⟩; unfold PlV; have hcur := Ext.step hcur (by first | exact hx | exact Ext.undrew hx | exact Ext.step ((Ext.rfl' _).alloc' _) hx | exact Ext.step ((Ext.rfl' _).drew'.alloc' _) hx); obtain ⟨p0, p1, p2, p3, p4⟩ := row_facts5 (RP.out.ext (E9.out.step hcur)); have z0 := (RP.out.ext (E9.out.step hcur)).free 0; have z1 := (RP.out.ext (E9.out.step hcur)).free 1; have z2 := (RP.out.ext (E9.out.step hcur)).free 2; have z3 := (RP.out.ext (E9.out.step hcur)).free 3; have z4 := (RP.out.ext (E9.out.step hcur)).free 4; obtain ⟨f0, f1, f2, -, -, -⟩ := row_facts3 (R1.out.ext (E9.out.step hcur)))
        all_goals
          have rp := RP.out.ext (E9.out.step hcur)
          have HFIN : Hid (∀ WF, WF = (((((w10.setCell ⟨HP, 0, none⟩ (.int .i64 ((s : Int) + 1))).setCell ⟨HP, 1, none⟩ (.int .i64 x)).setCell ⟨HP, 2, none⟩ (.int .i64 u2)).setCell ⟨HP, 3, none⟩ (.int .i64 a2)).setCell ⟨HP, 4, none⟩ (.int .i64 d2)) → ∃ (sn : Nat) (r mu a di : Int), sn ≤ q ∧ (q - (s + 1)) = q - sn ∧ Value.int .i64 d3 = .int .i64 ((X % m ^ q) / m ^ sn) ∧ Row WF w.heap.size 24 [.int .i64 m, .slice A n cc, .slice B n2 d] ∧ Row WF (w.heap.size + 1) 37 [.int .i64 0, .int .i64 0, .string ⟨#[]⟩, .string ⟨#[]⟩, .string ⟨#[]⟩, .string ⟨#[]⟩] ∧ Row WF HP 46 [.int .i64 (sn : Int), .int .i64 r, .int .i64 mu, .int .i64 a, .int .i64 di] ∧ Hid (PlP m us ad X sn r mu a di) ∧ Hid (∀ j, 1 ≤ j → j < sn → ¬ FallsAt m us ad X j) ∧ Ext w WF) := hid (by
            rintro WF rfl
            have hgt := HGT.out
            have ho : Off w10 (((((w10.setCell ⟨HP, 0, none⟩ (.int .i64 ((s : Int) + 1))).setCell ⟨HP, 1, none⟩ (.int .i64 x)).setCell ⟨HP, 2, none⟩ (.int .i64 u2)).setCell ⟨HP, 3, none⟩ (.int .i64 a2)).setCell ⟨HP, 4, none⟩ (.int .i64 d2)) HP := (((((Off.rfl' w10 HP).set 0 _).set 1 _).set 2 _).set 3 _).set 4 _
            refine ⟨s + 1, x, u2, a2, d2, by have := HSQ.out; omega, rfl, by rw [HD3.out], ho.row (R1.out.ext (E9.out.step hcur)) (by omega), ho.row (R2.out.ext (E9.out.step hcur)) (by omega), by simpa using row5_put6 rp, HPN, HNS, ?_⟩
            exact (((((EX.out.step (E9.out.step hcur)).set' (by show w.heap.size ≤ HP; omega) _).set' (by show w.heap.size ≤ HP; omega) _).set' (by show w.heap.size ≤ HP; omega) _).set' (by show w.heap.size ≤ HP; omega) _).set' (by show w.heap.size ≤ HP; omega) _)
          have HMEAS : Hid (q - (s + 1) < q - s) := hid (by have := HSQ.out; omega)
          have ro : Row (((((w10.setCell ⟨HP, 0, none⟩ (.int .i64 ((s : Int) + 1))).setCell ⟨HP, 1, none⟩ (.int .i64 x)).setCell ⟨HP, 2, none⟩ (.int .i64 u2)).setCell ⟨HP, 3, none⟩ (.int .i64 a2)).setCell ⟨HP, 4, none⟩ (.int .i64 d2)) w.heap.size 24 [.int .i64 m, .slice A n cc, .slice B n2 d] := ((((((Off.rfl' w10 HP).set 0 _).set 1 _).set 2 _).set 3 _).set 4 _).row (R1.out.ext (E9.out.step hcur)) (by have := HGT.out; omega)
          have g0 := (row_facts3 ro).1
          clear rp ro hcur
          go_wp2
          go_roundg (q - (s + 1))
          case measure => exact HMEAS.out
          case rel => exact HFIN.out _ rfl
end Go.Proofs.YtbmmilhinbfahaaDoor
