/- Joined texts: package sieve: sortBy at Falls; package sieve: Find, where all suits; package sieve: restsBelow; package sieve: what the closure visit does: its lists, and what it leaves alone; package sieve: the closure visit, at a place that falls; package sieve: the closure visit, at a place that stays. -/
import Derived.Test.YtimokpcopeldfaaGreatDoorJG23
import Derived.Test.YtimokpcopeldfaaGreatDoorJG19
import Derived.Test.YtimokpcopeldfaaGreatDoorJG10
import Derived.Test.YtimokpcopeldfaaGreatDoorJG04
import Derived.Test.YtimokpcopeldfaaGreatDoorJG20
import Derived.Test.YtimokpcopeldfaaGreatDoorJG18
import Derived.Deep.RegionHeldLaw
import Derived.Deep.AppendLies
set_option linter.unusedSimpArgs false
set_option linter.unusedVariables false
/- package sieve: sortBy at Falls -/
namespace Go.Proofs.YtimokpcopeldfaaGreatDoor
open Go.RowKit Go.Sort
theorem flat_at {α : Type} [Inhabited α] (enc : α → List Value) {k : Nat} (hk : 0 < k) (hl : ∀ x, (enc x).length = k) : ∀ (xs : List α) (i : Nat), (xs.flatMap enc)[i]? = if i < xs.length * k then some ((enc xs[i / k]!)[i % k]!) else none
  | [], i => by simp
  | x :: xs, i => by
    rw [List.flatMap_cons, List.getElem?_append, hl]
    by_cases h : i < k
    · rw [if_pos h, if_pos (by rw [List.length_cons, Nat.succ_mul]; omega), Nat.div_eq_of_lt h, Nat.mod_eq_of_lt h]
      have h2 : i < (enc x).length := by rw [hl]; exact h
      rw [List.getElem?_eq_getElem h2, getElem!_pos (x :: xs) 0 (by simp), List.getElem_cons_zero, getElem!_pos (enc x) i h2]
    · rw [if_neg h, flat_at enc hk hl xs (i - k)]
      obtain ⟨j, rfl⟩ : ∃ j, i = j + k := ⟨i - k, by omega⟩
      rw [Nat.add_sub_cancel, Nat.add_div_right _ hk, Nat.add_mod_right, List.length_cons, Nat.succ_mul]
      by_cases h3 : j < xs.length * k
      · rw [if_pos h3, if_pos (by omega)]
        have h4 : j / k < xs.length := (Nat.div_lt_iff_lt_mul hk).2 h3
        rw [getElem!_pos xs _ h4, getElem!_pos (x :: xs) _ (by simp; omega), List.getElem_cons_succ]
      · rw [if_neg h3, if_neg (by omega)]
theorem flatK_list {α : Type} [Inhabited α] (enc : α → List Value) {k : Nat} (hk : 0 < k) (hl : ∀ x, (enc x).length = k) (xs : List α) : (flatK enc k xs.toArray).toList = xs.flatMap enc := by
  apply List.ext_getElem?
  intro i
  rw [flat_at enc hk hl]
  by_cases h : i < xs.length * k
  · rw [if_pos h]
    simp [flatK, h]
  · rw [if_neg h, List.getElem?_eq_none (by simp [flatK]; omega)]
/-- the six cells of a fall by its steps and its rest; its texts hang on these -/
def encF (f : Int × Int → ByteArray × ByteArray × ByteArray × ByteArray) (p : Int × Int) : List Value := [.int .i64 p.1, .int .i64 p.2, .string (f p).1, .string (f p).2.1, .string (f p).2.2.1, .string (f p).2.2.2]
/-- by steps, then by rest -/
def cmpP (p q : Int × Int) : Int := cmpSR p.1 p.2 q.1 q.2
theorem lt_P (p q : Int × Int) : ltOf cmpP p q = decide (p.1 < q.1 ∨ p.1 = q.1 ∧ p.2 < q.2) := by
  have h1 := lt_int p.1 q.1
  have h2 := lt_int p.2 q.2
  unfold ltOf at *
  unfold cmpP cmpSR
  by_cases h : p.1 = q.1
  · rw [if_pos h, h2]
    exact decide_eq_decide.2 ⟨fun k => .inr ⟨h, k⟩, fun k => by rcases k with k | k; omega; exact k.2⟩
  · rw [if_neg h, h1]
    exact decide_eq_decide.2 ⟨fun k => .inl k, fun k => by rcases k with k | k; exact k; exact absurd k.1 h⟩
theorem swo_P : SWO (ltOf cmpP) where
  irrefl := fun x => by rw [lt_P]; simp
  trans := fun x y z h1 h2 => by
    rw [lt_P] at *
    simp only [decide_eq_true_eq] at *
    omega
  ntrans := fun x y z h1 h2 => by
    rw [lt_P] at *
    simp only [decide_eq_false_iff_not] at *
    omega
theorem tot_P : ∀ x y : Int × Int, ltOf cmpP x y = false → ltOf cmpP y x = false → x = y := by
  intro x y h1 h2
  rw [lt_P] at *
  simp only [decide_eq_false_iff_not] at *
  exact Prod.ext (by omega) (by omega)
/-- the falls in order -/
def srtF (ps : List (Int × Int)) : List (Int × Int) := ps.mergeSort fun x y => !(ltOf cmpP) y x
set_option maxRecDepth 100000 in
set_option maxHeartbeats 3200000 in
theorem sortFalls_any (f : Int × Int → ByteArray × ByteArray × ByteArray × ByteArray) (v : Value) (n : Nat) (ps : List (Int × Int)) (base HK : Nat) (w : World) (hown : w.ownsRow base 40 6 v n (ps.flatMap (encF f))) (hk : w.cell? ⟨HK, 0, none⟩ = some (.func (.func 63) #[] #[])) (hkk : w.cell? ⟨HK, 1, none⟩ = some (.func (.func 64) #[] #[])) (lk : HK < w.heap.size) (hne : ∀ g, v.ownBlock = some g → HK ≠ g) (hn : n < 4611686018427387904) :
    Calls Tryz.prog 62 #[v, .slice (some ⟨HK, 0, none⟩) 2 2] w (fun e w' => e = .returned (.tuple #[]) ∧ w'.ownsRow base 40 6 v n ((srtF ps).flatMap (encF f)) ∧ w.grownBy w' v.ownBlock) := by
  have hlen : ∀ x, (encF f x).length = 6 := fun x => rfl
  obtain ⟨w1, hw1⟩ : ∃ w1, w.alloc (.cells #[.slice (some ⟨HK, 0, none⟩) 2 2] 140) = w1 := ⟨_, rfl⟩
  have hx : Ext w w1 := by rw [← hw1]; exact (Ext.rfl' w).alloc' _
  have hr : Row w1 w.heap.size 140 [.slice (some ⟨HK, 0, none⟩) 2 2] := by rw [← hw1]; exact Row.new w _ _
  have hk1 : w1.cell? ⟨HK, 0, none⟩ = some (.func (.func 63) #[] #[]) := by rw [hx.cell lk, hk]
  have hk2 : w1.cell? ⟨HK, 1, none⟩ = some (.func (.func 64) #[] #[]) := by rw [hx.cell lk, hkk]
  have hsz : w1.heap.size = w.heap.size + 1 := by rw [← hw1]; simp
  have hbx : w1.cell? ⟨w.heap.size, 0, none⟩ = some (.slice (some ⟨HK, 0, none⟩) 2 2) := hr.cell 0
  have HW := hid hw1
  obtain ⟨hl, h⟩ := hown
  have hfl : ∀ qs : List (Int × Int), (qs.flatMap (encF f)).length = qs.length * 6 := fun qs => by
    induction qs with
    | nil => rfl
    | cons q r ih => rw [List.flatMap_cons, List.length_append, ih, hlen, List.length_cons]; omega
  have hlx : ps.length = n := by rw [hfl] at hl; omega
  rcases h with ⟨rfl, rfl⟩ | ⟨g, cap, cur, rfl, hb, hg, hnc, hcm, hcs, hct⟩
  · have hxs : ps = [] := List.eq_nil_of_length_eq_zero hlx
    have HF : Hid (w1.ownsRow base 40 6 (.slice none 0 0) 0 ((srtF ps).flatMap (encF f)) ∧ w.grownBy w1 (Value.ownBlock (.slice none 0 0))) := hid ⟨by rw [hxs, show (srtF []).flatMap (encF f) = [] by simp [srtF]]; exact World.ownsRow_nil _ _ _ _, ⟨hx.os, hx.tape, hx.output, hx.size, fun k hk _ => hx.block k hk⟩⟩
    clear hl hx hr hk1 hk2 hk hkk hbx hlx hxs hne hw1
    go_enter Tryz.func62, Tryz.ntmps62
    go_upto_region 1 with fail
    rw [HW.out]
    go_wp2_with fail
    refine (ShelfC.l_sortFall_none (α := Int) none 0 _ w1).mono ?_
    rintro e w' ⟨rfl, rfl⟩
    go_wp2
    go_end0
    exact ⟨rfl, HF.out⟩
  · have hgw : g < w.heap.size := by
      rcases Nat.lt_or_ge g w.heap.size with h1 | h1
      · exact h1
      · rw [Array.getElem?_eq_none h1] at hg; cases hg
    have hg1 : w1.heap[g]? = some (.cells cur 40 (0, 0)) := by rw [hx.block g hgw, hg]
    have hfs : ∀ qs : List (Int × Int), (flatK (encF f) 6 qs.toArray).size = qs.length * 6 := fun qs => by simp [flatK]
    have hH : HoldsK (encF f) 6 w1 g 0 ps.toArray := own_holds id (flatK (encF f) 6 ps.toArray) (n := n * 6) hg1 (by rw [hfs, hlx]) (by omega) (by rw [hct, flatK_list (encF f) (by omega) hlen, List.map_id])
    have hcmp : CmpLays Tryz.prog 101 #[.pointer (some ⟨w.heap.size, 0, none⟩)] (encF f) 6 cmpP g 0 ps.toArray.size w1 := by
      intro m os dk hs x y
      have hother : ∀ b, b < w1.heap.size → b ≠ g → (sortWorldK (encF f) 6 w1 g 0 m dk os).heap[b]? = w1.heap[b]? := fun b h1 h2 => (sortWorld_grown id w1 g m (flatK (encF f) 6 dk) os).block b h1 (fun e => h2 (by cases e; rfl))
      have hsz2 : w1.heap.size ≤ (sortWorldK (encF f) 6 w1 g 0 m dk os).heap.size := (sortWorld_grown id w1 g m (flatK (encF f) 6 dk) os).size
      refine (cmpFall_any x.1 x.2 y.1 y.2 (f x).1 (f x).2.1 (f x).2.2.1 (f x).2.2.2 (f y).1 (f y).2.1 (f y).2.2.1 (f y).2.2.2 w.heap.size HK _ ?_ ?_ ?_ (by omega) (by omega)).mono ?_
      · rw [World.cell?_of_block (hother _ (by show w.heap.size < _; omega) (by show w.heap.size ≠ g; omega)), hbx]
      · rw [World.cell?_of_block (hother _ (by show HK < _; omega) (by show HK ≠ g; exact hne g rfl)), hk1]
      · rw [World.cell?_of_block (hother _ (by show HK < _; omega) (by show HK ≠ g; exact hne g rfl)), hk2]
      · rintro e w' ⟨rfl, hq⟩
        exact ⟨rfl, hq⟩
    have hcon := ShelfC.l_sortFall_total 6 Tryz.isAgg40 Tryz.sizeOf40 (encF f) hlen (fun x v hv => by simp [encF] at hv; rcases hv with rfl | rfl | rfl | rfl | rfl | rfl <;> rfl) cmpP swo_P 101 #[.pointer (some ⟨w.heap.size, 0, none⟩)] g 0 cap ps.toArray w1 (enters_of Tryz.func101 (by kernel_rfl) rfl) hcmp hH (by omega) (by simpa using (by omega : ps.length < 4611686018427387904)) tot_P
    have hsn : ps.toArray.size = n := by simpa using hlx
    rw [hsn] at hcon
    have HF : Hid (∀ (q : Nat) (os : Array Obj), (sortWorldK (encF f) 6 w1 g 0 q (srtF ps).toArray os).ownsRow base 40 6 (.slice (some ⟨g, 0, none⟩) n cap) n ((srtF ps).flatMap (encF f)) ∧ w.grownBy (sortWorldK (encF f) 6 w1 g 0 q (srtF ps).toArray os) (some g)) := hid (by
      intro q os
      have hln : (srtF ps).length = n := by simp [srtF, hlx]
      refine ⟨⟨by rw [hfl, hln], .inr ⟨g, cap, _, rfl, hb, sortWorld_row id w1 g q (flatK (encF f) 6 (srtF ps).toArray) os hg1, hnc, hcm, by rw [putCells_size, hcs], ?_⟩⟩, ?_⟩
      · have := putCells_take id (flatK (encF f) 6 (srtF ps).toArray) cur (by rw [hfs, hln]; omega)
        rw [hfs, hln, flatK_list (encF f) (by omega) hlen, List.map_id] at this
        exact this
      · have h1 := sortWorld_grown id w1 g q (flatK (encF f) 6 (srtF ps).toArray) os
        exact ⟨h1.os.trans hx.os, h1.tape.trans hx.tape, h1.output.trans hx.output, Nat.le_trans hx.size h1.size, fun k hk hne => (h1.block k (by omega) hne).trans (hx.block k hk)⟩)
    have HC := hid hcon
    clear hl hx hr hk1 hk2 hk hkk hbx hlx hne hw1 hH hcmp hcon hg1 hg hct hcs hcm
    go_enter Tryz.func62, Tryz.ntmps62
    go_upto_region 1 with fail
    rw [HW.out]
    go_wp2_with fail
    refine HC.out.mono ?_
    rintro e w' ⟨rfl, q, os, rfl⟩
    go_wp2
    go_end0
    exact ⟨rfl, HF.out q os⟩
end Go.Proofs.YtimokpcopeldfaaGreatDoor
/- package sieve: Find, where all suits -/
namespace Go.Proofs.YtimokpcopeldfaaGreatDoor
open Go.RowKit
/-- the place of X after s steps -/
def PlP (m : Int) (us ad : List Int) (X : Int) (s : Nat) (r mu a di : Int) : Prop := r = X % m ^ s ∧ mu = (lnX m us ad X s).1 ∧ a = (lnX m us ad X s).2.1 ∧ di = m ^ s
theorem nn_mod {m : Int} (hm : 0 < m) (s : Nat) (X : Int) : 0 ≤ X % m ^ s ∧ X % m ^ s < m ^ s := by
  have hp : 0 < m ^ s := Int.pow_pos hm
  exact ⟨Int.emod_nonneg _ (by omega), Int.emod_lt_of_pos _ hp⟩
/-- what a step of the search wants -/
theorem place_next {m : Int} {us ad : List Int} (hM : mapP m us ad) {q s : Nat} (hs : s < q) (X : Int) :
    X % m ^ s + (X % m ^ q) / m ^ s % m * m ^ s = X % m ^ (s + 1) ∧
    (lnX m us ad X s).1 * (X % m ^ (s + 1)) + (lnX m us ad X s).2.1 = m ^ s * orbN m us ad s (X % m ^ (s + 1)) ∧
    orbN m us ad s (X % m ^ (s + 1)) % m = orbN m us ad s X % m ∧ (X % m ^ q) / m ^ s / m = (X % m ^ q) / m ^ (s + 1) := by
  have hm : 0 < m := by have := hM.1; omega
  have hp : 0 < m ^ s := Int.pow_pos hm
  have e0 : X % m ^ (s + 1) % m ^ (s + 1) = X % m ^ (s + 1) := Int.emod_emod_of_dvd X (Int.dvd_refl _)
  have e1 : X % m ^ (s + 1) % m ^ s = X % m ^ s := Int.emod_emod_of_dvd X ⟨m, Int.pow_succ m s⟩
  refine ⟨by rw [digit_eq hm hs, mod_next hm], ?_, orb_congr hm e0.symm, ?_⟩
  · have h := lin_orb hM (X % m ^ (s + 1)) s
    rw [wordI_congr hm e1.symm] at h
    have hd := lnX_div m us ad X s
    unfold lnX at hd ⊢
    rw [hd] at h
    exact h
  · rw [Int.pow_succ, Int.ediv_ediv_of_nonneg (by omega)]
/-- what Find tells where all suits -/
def FindC (m : Int) (us ad : List Int) (X : Int) (k : Nat) (v : Value) (b : Bool) : Prop :=
  (b = true ∧ ∃ i : Nat, 1 ≤ i ∧ i ≤ k ∧ FallsAt m us ad X i ∧ (∀ j, 1 ≤ j → j < i → ¬ FallsAt m us ad X j) ∧
    v = FaV (i : Int) (X % m ^ i) (Str (K.txt (lnX m us ad X i).1)) (Str (K.txt (lnX m us ad X i).2.1)) (Str (K.txt (m ^ i))) (Str (K.txt ((lnX m us ad X i).2.1 / (m ^ i - (lnX m us ad X i).1))))) ∨
  (b = false ∧ v = .agg #[.int .i64 0, .int .i64 0, .string ⟨#[]⟩, .string ⟨#[]⟩, .string ⟨#[]⟩, .string ⟨#[]⟩] ∧ ∀ j, 1 ≤ j → j ≤ k → ¬ FallsAt m us ad X j)
theorem row5_put6 {w : World} {H : Nat} {t : TypeId} {a b c d e a' b' c' d' e' : Value} (h : Row w H t [a, b, c, d, e]) : Row (((((w.setCell ⟨H, 0, none⟩ a').setCell ⟨H, 1, none⟩ b').setCell ⟨H, 2, none⟩ c').setCell ⟨H, 3, none⟩ d').setCell ⟨H, 4, none⟩ e') H t [a', b', c', d', e'] :=
  ((((h.set 0 a').set 1 b').set 2 c').set 3 d').set 4 e'
theorem child_any (v : Value) (m : Int) (us ads : List Int) (s r mu ad di t x q2 u2 a2 d2 : Int) (w : World) (hv : MapV w v m us ads) (hM : Hid (mapP m us ads)) (hs : 0 ≤ s) (hs2 : s ≤ 1000) (hr : 0 ≤ r) (hr2 : r < di) (hd : 1 ≤ di) (hd2 : di ≤ 65536) (ht : 0 ≤ t) (ht2 : t < m) (hu1 : 1 ≤ mu) (hu2 : mu ≤ 65536) (hA : ad.natAbs ≤ 4294967296000000)
    (hx : Hid (r + t * di = x)) (hq : Hid (mu * x + ad = di * q2)) (h1 : Hid (us.getD (q2 % m).toNat 0 * mu = u2)) (h2 : Hid (us.getD (q2 % m).toNat 0 * ad + ads.getD (q2 % m).toNat 0 * di = a2)) (h3 : Hid (di * m = d2)) :
    Calls Tryz.prog 60 #[PlV s r mu ad di, v, .int .i64 t] w (fun e w' => e = .returned (PlV (s + 1) x u2 a2 d2) ∧ Ext w w') := by
  have hm := hM.out.1
  have hm2 := hM.out.2.1
  have hq0 := Int.emod_nonneg q2 (show m ≠ 0 by omega)
  have hq1 := Int.emod_lt_of_pos q2 (show 0 < m by omega)
  have hru := rule_of hM.out hq0 hq1
  obtain ⟨A, n, cc, B, n2, d, rfl, e1, e2, e3, e4, e5, e6, -, -⟩ := hv
  obtain ⟨ba, oa, eA, -, -⟩ := e5.atI (k := (q2 % m).toNat) hru.2.2.2.2.1
  obtain ⟨bb, ob, eB, -, -⟩ := e6.atI (k := (q2 % m).toNat) hru.2.2.2.2.2
  subst eA eB
  have h := child_l ba oa bb ob n cc n2 d (q2 % m).toNat s r mu ad di m t q2 (us.getD (q2 % m).toNat 0) (ads.getD (q2 % m).toNat 0) us ads w e5 e6 e1 e3 hm hm2 hs hs2 hr hr2 hd hd2 ht ht2 hu1 hu2 hA (hid (by rw [hx.out]; exact hq.out)) (hid (by omega)) (by have := hru.2.2.2.2.1; omega) (by have := hru.2.2.2.2.2; omega) (hid rfl) (hid rfl) hru.1 hru.2.1 hru.2.2.1 hru.2.2.2.1
  rw [hx.out, h1.out, h2.out, Int.mul_comm m di, h3.out] at h
  exact h
theorem valid_b (l : List UInt8) (w : World) (hl : l.length ≤ 140737488351232) {b : Bool} (hb : Hid (K.validL l = b)) :
    Calls Tryz.prog 70 #[.string (Str l)] w (fun e w' => e = .returned (.bool b) ∧ Ext w w') := by
  rw [← hb.out]; exact valid_any l w hl
theorem rest_w (l : List UInt8) (d : Nat) (X : Int) (w : World) (hl : l.length ≤ 140737488351232) (hv : Hid (K.validL l = true)) (hX : Hid (K.numL l = X)) (hd2 : d ≤ 65536) (hd : 1 ≤ d) :
    Calls Tryz.prog 71 #[.string (Str l), .int .i64 (d : Int)] w (fun e w' => e = .returned (.tuple #[.int .i64 (X % (d : Int)), .int .i64 0]) ∧ Ext w w') := by
  rw [← hX.out]; exact rest_ok l d w hl hv.out hd (by omega)
set_option maxRecDepth 100000 in
set_option maxHeartbeats 12800000 in
theorem find_ok (v : Value) (m : Int) (us ad : List Int) (l : List UInt8) (X : Int) (q : Nat) (w : World) (hv : MapV w v m us ad) (hM : Hid (mapP m us ad)) (hlen : l.length ≤ 140737488351232) (hb2 : Hid (K.validL l = true)) (hX : Hid (K.numL l = X)) (hS : Hid (SuitP m us (q : Int))) (hqq : (q : Int) ≤ 9223372036854775807) (ht : Tab w) :
    Calls Tryz.prog 18 #[v, .string (Str l), .int .i64 (q : Int)] w (fun e w' => ∃ fv b, e = .returned (.tuple #[fv, .bool b, .int .i64 0]) ∧ FindC m us ad X q fv b ∧ Ext w w') := by
  have hm := hM.out.1
  have hm2 := hM.out.2.1
  have hb1 : Hid (mapB m us ad = true) := hid ((mapB_iff m us ad).2 hM.out)
  have hk1 : 1 ≤ q := by have := hS.out.2.1; omega
  have hk2 : m ^ q ≤ 65536 := by have := hS.out.2.2; rwa [Int.toNat_natCast] at this
  have hkp : 0 < m ^ q := Int.pow_pos (by omega)
  obtain ⟨wh, hwh⟩ : ∃ wh : Nat, m ^ q = (wh : Int) := ⟨(m ^ q).toNat, by omega⟩
  have HWH := hid hwh
  have HK1 := hid hk1
  have HK2 := hid hk2
  have HT := hid ht
  have HV := hid hv
  obtain ⟨A, n, cc, B, n2, d, rfl, -⟩ := hv
  have hx : Ext w ((w.alloc (.cells #[.int .i64 m, .slice A n cc, .slice B n2 d] 24)).alloc (.cells #[.int .i64 0, .int .i64 0, .string ⟨#[]⟩, .string ⟨#[]⟩, .string ⟨#[]⟩, .string ⟨#[]⟩] 40)) := ((Ext.rfl' w).alloc' _).alloc' _
  have hr1 : Row ((w.alloc (.cells #[.int .i64 m, .slice A n cc, .slice B n2 d] 24)).alloc (.cells #[.int .i64 0, .int .i64 0, .string ⟨#[]⟩, .string ⟨#[]⟩, .string ⟨#[]⟩, .string ⟨#[]⟩] 40)) w.heap.size 24 [.int .i64 m, .slice A n cc, .slice B n2 d] := (Row.new w _ _).alloc _
  have hr2 : Row ((w.alloc (.cells #[.int .i64 m, .slice A n cc, .slice B n2 d] 24)).alloc (.cells #[.int .i64 0, .int .i64 0, .string ⟨#[]⟩, .string ⟨#[]⟩, .string ⟨#[]⟩, .string ⟨#[]⟩] 40)) (w.heap.size + 1) 40 [.int .i64 0, .int .i64 0, .string ⟨#[]⟩, .string ⟨#[]⟩, .string ⟨#[]⟩, .string ⟨#[]⟩] := by
    have := Row.new (w.alloc (.cells #[.int .i64 m, .slice A n cc, .slice B n2 d] 24)) 40 [.int .i64 0, .int .i64 0, .string ⟨#[]⟩, .string ⟨#[]⟩, .string ⟨#[]⟩, .string ⟨#[]⟩]
    rwa [World.size_alloc] at this
  obtain ⟨W, hW⟩ : ∃ W, ((w.alloc (.cells #[.int .i64 m, .slice A n cc, .slice B n2 d] 24)).alloc (.cells #[.int .i64 0, .int .i64 0, .string ⟨#[]⟩, .string ⟨#[]⟩, .string ⟨#[]⟩, .string ⟨#[]⟩] 40)) = W := ⟨_, rfl⟩
  rw [hW] at hx hr1 hr2
  have HW := hid hW
  have HX := hid hx
  have R1 := hid hr1
  have R2 := hid hr2
  obtain ⟨f0, f1, f2, -, -, -⟩ := row_facts3 hr1
  clear hW hx hr1 hr2 hwh hk1 hk2 hkp
  go_enter Tryz.func18, Tryz.ntmps18
  go_upto_region 1 with fail
  rw [HW.out]
  go_wp2_with fail
  refine (stepvalid_any _ m us ad W (HV.out.ext HX.out) hb1).mono ?_
  rintro e w2 ⟨rfl, hx⟩
  have E2 := hid hx
  clear f0 f1 f2 hx
  go_wp2_with fail
  refine (valid_b l w2 hlen hb2).mono ?_
  rintro e w3 ⟨rfl, hx⟩
  have E3 := hid (E2.out.step hx)
  clear hx
  obtain ⟨f0, f1, f2, -, -, -⟩ := row_facts3 (R1.out.ext E3.out)
  go_wp2_with fail
  refine (restsOf_any _ m us ad (q : Int) w3 (HV.out.ext (HX.out.step E3.out)) hM (by omega) hqq).mono ?_
  rintro e w4 ⟨wh2, c2, rfl, hrc, hx⟩
  obtain ⟨-, rfl, rfl⟩ | ⟨hn, -, -⟩ := hrc
  case inr => exact absurd hS.out hn
  rw [Int.toNat_natCast, HWH.out]
  have E4 := hid (E3.out.step hx)
  clear f0 f1 f2 hx
  go_wp2_with fail
  refine (rest_w l wh X w4 hlen hb2 hX (by have := HWH.out; have := HK2.out; omega) (by have := HWH.out; have := HK2.out; have : 0 < m ^ q := Int.pow_pos (by omega); omega)).mono ?_
  rintro e w5 ⟨rfl, hx⟩
  rw [← HWH.out]
  have E5 := hid (E4.out.step hx)
  clear hx
  go_wp2_with fail
  refine (root_any w5).mono ?_
  rintro e w6 ⟨rfl, hx⟩
  unfold PlV
  have hy := hx.alloc' (.cells #[.int .i64 0, .int .i64 0, .int .i64 1, .int .i64 0, .int .i64 1] 91)
  have hr := Row.new w6 91 [.int .i64 0, .int .i64 0, .int .i64 1, .int .i64 0, .int .i64 1]
  obtain ⟨HP, hHP⟩ : ∃ HP, w6.heap.size = HP := ⟨_, rfl⟩
  have hgt : w.heap.size + 1 < HP := by
    have e1 := (R2.out.ext E5.out).lt
    have e2 := hx.size
    omega
  obtain ⟨W7, hW7⟩ : ∃ W7, w6.alloc (.cells #[.int .i64 0, .int .i64 0, .int .i64 1, .int .i64 0, .int .i64 1] 91) = W7 := ⟨_, rfl⟩
  rw [hW7] at hy hr
  rw [hHP] at hr
  have HW7 := hid hW7
  have E7 := hid (E5.out.step hy)
  have RP := hid hr
  have HGT := hid hgt
  clear hx hy hr hW7 hgt
  go_upto_region 10 with fail
  rw [HW7.out]
  clear hHP
  go_loopg [11] q (fun g dv wr => ∃ (s : Nat) (r mu a di : Int), s ≤ q ∧ g = q - s ∧ dv = .int .i64 ((X % m ^ q) / m ^ s) ∧ Row wr w.heap.size 24 [.int .i64 m, .slice A n cc, .slice B n2 d] ∧ Row wr (w.heap.size + 1) 40 [.int .i64 0, .int .i64 0, .string ⟨#[]⟩, .string ⟨#[]⟩, .string ⟨#[]⟩, .string ⟨#[]⟩] ∧ Row wr HP 91 [.int .i64 (s : Int), .int .i64 r, .int .i64 mu, .int .i64 a, .int .i64 di] ∧ Hid (PlP m us ad X s r mu a di) ∧ Hid (∀ j, 1 ≤ j → j < s → ¬ FallsAt m us ad X j) ∧ Ext w wr)
  case atStart =>
    refine ⟨0, 0, 1, 0, 1, by omega, by omega, by simp, R1.out.ext E7.out, R2.out.ext E7.out, by simpa using RP.out, hid ⟨by simp, rfl, rfl, by simp⟩, hid (fun j h1 h2 => by omega), HX.out.step E7.out⟩
  case round =>
    clear R1 R2 RP E2 E3 E4 E5 E7 HW HW7
    obtain ⟨s, r, mu, a, di, hs, rfl, rfl, hr1, hr2, hr3, HPL, HNF, hex⟩ := hrel
    have R1 := hid hr1
    have R2 := hid hr2
    have RP := hid hr3
    have EX := hid hex
    clear hr1 hr2 hr3 hex
    obtain ⟨p0, p1, p2, p3, p4⟩ := row_facts5 RP.out
    have HMU := hid (show 1 ≤ mu by rw [HPL.out.2.1]; exact lnX_pos hM.out X s)
    have HDI := hid (show 1 ≤ di ∧ di ≤ 65536 by
      have h1 := pow_grow (m := m) hm hs
      have h2 : 0 < m ^ s := Int.pow_pos (by omega)
      have h3 := HK2.out
      rw [HPL.out.2.2.2]; omega)
    by_cases hf : mu < di
    · have HF0 := hid hf
      go_wp2_with fail
      refine (falls_any (s : Int) r mu a di wr (b := true) (hid ⟨fun _ => HF0.out, fun _ => rfl⟩)).mono ?_
      rintro e w8 ⟨rfl, hx⟩
      have E8 := hid hx
      clear p0 p1 p2 p3 p4 hx
      obtain ⟨p0, p1, p2, p3, p4⟩ := row_facts5 (RP.out.ext E8.out)
      have hs1 : 1 ≤ s := by
        rcases Nat.eq_zero_or_pos s with h | h
        · subst h
          have h1 := HPL.out.2.1
          have h2 := HPL.out.2.2.2
          have h3 : (lnX m us ad X 0).1 = 1 := rfl
          rw [h3] at h1
          rw [Int.pow_zero] at h2
          omega
        · exact h
      have HADD : Hid (a.natAbs ≤ 9000000000000000000) := hid (by
        have h1 := lnX_add hM.out X s
        rw [← HPL.out.2.1, ← HPL.out.2.2.1, ← HPL.out.2.2.2] at h1
        have h2 : mu.natAbs * di.natAbs ≤ 65536 * 65536 := Nat.mul_le_mul (by have := HDI.out; have := HMU.out; omega) (by have := HDI.out; omega)
        omega)
      obtain ⟨su, hsu⟩ : ∃ su, Str (K.txt mu) = su := ⟨_, rfl⟩
      obtain ⟨sa, hsa⟩ : ∃ sa, Str (K.txt a) = sa := ⟨_, rfl⟩
      obtain ⟨sd, hsd⟩ : ∃ sd, Str (K.txt di) = sd := ⟨_, rfl⟩
      obtain ⟨sb, hsb⟩ : ∃ sb, Str (K.txt (a / (di - mu))) = sb := ⟨_, rfl⟩
      have HFC : Hid (FindC m us ad X q (FaV (s : Int) r su sa sd sb) true) := hid (.inl ⟨rfl, s, hs1, hs, by unfold FallsAt; rw [← HPL.out.2.1, ← HPL.out.2.2.2]; exact HF0.out, HNF.out, by
        rw [← hsu, ← hsa, ← hsd, ← hsb, ← HPL.out.2.1, ← HPL.out.2.2.1, ← HPL.out.1, ← HPL.out.2.2.2]⟩)
      have Hsu := hid hsu
      have Hsa := hid hsa
      have Hsd := hid hsd
      have Hsb := hid hsb
      clear hsu hsa hsd hsb hf
      go_wp2_with fail
      refine (fall_l (s : Int) r mu a di (a / (di - mu)) su sa sd sb w8 (HT.out.ext (EX.out.step E8.out)) HF0.out (hid ⟨by have := HMU.out; omega, by have := HDI.out; omega⟩) HADD (hid rfl) Hsu Hsa Hsd Hsb).mono ?_
      rintro e w9 ⟨rfl, hx⟩
      have E9 := hid (E8.out.step hx)
      have r2 := R2.out.ext E9.out
      obtain ⟨⟨y0, y1, y2, y3, y4, y5⟩, z0, z1, z2, z3, z4, z5⟩ := row_facts6 r2
      have HF := hid ((EX.out.step E9.out).set6 (H := w.heap.size + 1) (a := .int .i64 (s : Int)) (b := .int .i64 r) (c := .string su) (d := .string sa) (e := .string sd) (f := .string sb) (by omega))
      clear p0 p1 p2 p3 p4 hx r2
      unfold FaV
      go_wp2
      refine bodyPost_ret (v := .tuple #[.agg #[.int .i64 (s : Int), .int .i64 r, .string su, .string sa, .string sd, .string sb], .bool true, .int .i64 0]) (by simp [results, Tryz.results18, go_sem, y0, y1, y2, y3, y4, y5]) rfl ⟨_, _, rfl, HFC.out, HF.out⟩
    · have HF0 := hid hf
      go_wp2_with fail
      refine (falls_any (s : Int) r mu a di wr (b := false) (hid ⟨fun h => Bool.noConfusion h, fun h => by have := HF0.out; omega⟩)).mono ?_
      rintro e w8 ⟨rfl, hx⟩
      have E8 := hid hx
      clear p0 p1 p2 p3 p4 hx hf
      obtain ⟨p0, p1, p2, p3, p4⟩ := row_facts5 (RP.out.ext E8.out)
      have HNS : Hid (∀ j, 1 ≤ j → j < s + 1 → ¬ FallsAt m us ad X j) := hid (fun j h1 h2 => by
        rcases Nat.lt_or_ge j s with h3 | h3
        · exact HNF.out j h1 h3
        · obtain rfl : j = s := by omega
          unfold FallsAt
          rw [← HPL.out.2.1, ← HPL.out.2.2.2]
          have := HF0.out
          omega)
      by_cases hst : m ^ q ≤ mu ∨ di = m ^ q
      · have HST := hid hst
        have HFC : Hid (FindC m us ad X q (.agg #[.int .i64 0, .int .i64 0, .string ⟨#[]⟩, .string ⟨#[]⟩, .string ⟨#[]⟩, .string ⟨#[]⟩]) false) := hid (.inr ⟨rfl, rfl, fun j h1 h2 => by
          rcases Nat.lt_or_ge j (s + 1) with h3 | h3
          · exact HNS.out j h1 h3
          · rcases hst with h4 | h4
            · rw [HPL.out.2.1] at h4
              exact no_fall hM.out h4 j (by omega) h2
            · exfalso
              have h5 := pow_grow (m := m) hm (show s + 1 ≤ q by omega)
              have h6 : 0 < m ^ s := Int.pow_pos (by omega)
              rw [← h4, HPL.out.2.2.2, Int.pow_succ] at h5
              have h7 : m ^ s * 2 ≤ m ^ s * m := Int.mul_le_mul_of_nonneg_left hm (by omega)
              omega⟩)
        go_wp2_with fail
        refine (stays_any (s : Int) r mu a di (m ^ q) w8 (b := true) (hid ⟨fun _ => HST.out, fun _ => rfl⟩)).mono ?_
        rintro e w9 ⟨rfl, hx⟩
        have E9 := hid (E8.out.step hx)
        have r2 := R2.out.ext E9.out
        obtain ⟨⟨y0, y1, y2, y3, y4, y5⟩, z0, z1, z2, z3, z4, z5⟩ := row_facts6 r2
        have HF := hid ((EX.out.step E9.out).set6 (H := w.heap.size + 1) (a := .int .i64 0) (b := .int .i64 0) (c := .string ⟨#[]⟩) (d := .string ⟨#[]⟩) (e := .string ⟨#[]⟩) (f := .string ⟨#[]⟩) (by omega))
        clear p0 p1 p2 p3 p4 hx r2 hst
        go_wp2
        refine bodyPost_ret (v := .tuple #[.agg #[.int .i64 0, .int .i64 0, .string ⟨#[]⟩, .string ⟨#[]⟩, .string ⟨#[]⟩, .string ⟨#[]⟩], .bool false, .int .i64 0]) (by simp [results, Tryz.results18, go_sem, y0, y1, y2, y3, y4, y5]) rfl ⟨_, _, rfl, HFC.out, HF.out⟩
      · have HST := hid hst
        have hsq : s < q := by
          rcases Nat.lt_or_ge s q with h | h
          · exact h
          · obtain rfl : s = q := by omega
            exact absurd (.inr HPL.out.2.2.2) hst
        have hmu2 : mu ≤ 65536 := by
          have := HK2.out
          rcases Int.lt_or_le mu (m ^ q) with h | h
          · omega
          · exact absurd (.inl h) hst
        have hnx := place_next hM.out hsq X
        have hln := lnX_next m us ad X s
        have hdv := lnX_div m us ad X s
        obtain ⟨dg, hdg⟩ : ∃ dg, (X % m ^ q) / m ^ s = dg := ⟨_, rfl⟩
        obtain ⟨x, hxx⟩ : ∃ x, X % m ^ (s + 1) = x := ⟨_, rfl⟩
        obtain ⟨⟨u2, a2, dd⟩, hl2⟩ : ∃ y, lnX m us ad X (s + 1) = y := ⟨_, rfl⟩
        obtain ⟨d2, hd2⟩ : ∃ d2, m ^ (s + 1) = d2 := ⟨_, rfl⟩
        obtain ⟨q2, hq2⟩ : ∃ q2, orbN m us ad s x = q2 := ⟨_, rfl⟩
        have hnn := nn_mod (m := m) (by omega) q X
        have hsp : 0 < m ^ s := Int.pow_pos (by omega)
        have hdg0 : 0 ≤ dg := by rw [← hdg]; exact Int.ediv_nonneg hnn.1 (by omega)
        have hdg1 : dg ≤ 65536 := by
          have h1 : dg ≤ X % m ^ q := by rw [← hdg]; exact Int.ediv_le_self _ hnn.1
          have := HK2.out
          omega
        rw [hdg, hxx, hq2] at hnx
        rw [hdg]
        rw [hl2] at hln
        have HPN : Hid (PlP m us ad X (s + 1) x u2 a2 d2) := hid ⟨hxx.symm, by rw [hl2], by rw [hl2], hd2.symm⟩
        have HX1 : Hid (r + dg % m * di = x) := hid (by rw [HPL.out.1, HPL.out.2.2.2]; exact hnx.1)
        have HQ1 : Hid (mu * x + a = di * q2) := hid (by rw [HPL.out.2.1, HPL.out.2.2.1, HPL.out.2.2.2]; exact hnx.2.1)
        have hth := hln
        unfold thenL at hth
        rw [← hnx.2.2.1, hdv, ← HPL.out.2.1, ← HPL.out.2.2.1, ← HPL.out.2.2.2] at hth
        have HU2 : Hid (us.getD (q2 % m).toNat 0 * mu = u2) := hid (by have := congrArg (·.1) hth; exact this.symm)
        have HA2 : Hid (us.getD (q2 % m).toNat 0 * a + ad.getD (q2 % m).toNat 0 * di = a2) := hid (by have := congrArg (·.2.1) hth; exact this.symm)
        have HD2 : Hid (di * m = d2) := hid (by rw [HPL.out.2.2.2, ← hd2, Int.pow_succ])
        have HAD : Hid (a.natAbs ≤ 4294967296000000) := hid (by
          have h1 := lnX_add hM.out X s
          rw [← HPL.out.2.1, ← HPL.out.2.2.1, ← HPL.out.2.2.2] at h1
          have h2 : mu.natAbs * di.natAbs ≤ 65536 * 65536 := Nat.mul_le_mul (by have := HMU.out; omega) (by have := HDI.out; omega)
          omega)
        have HRR : Hid (0 ≤ r ∧ r < di) := hid (by rw [HPL.out.1, HPL.out.2.2.2]; exact nn_mod (by omega) s X)
        obtain ⟨tt, htt⟩ : ∃ tt, dg % m = tt := ⟨_, rfl⟩
        have hT : Int.tmod dg m = tt := by rw [Int.tmod_eq_emod_of_nonneg hdg0, htt]
        have HTT := hid (show 0 ≤ tt ∧ tt < m by rw [← htt]; exact rest_ok2 (by omega) dg)
        obtain ⟨d3, hd3⟩ : ∃ d3, dg / m = d3 := ⟨_, rfl⟩
        have hQ : Int.tdiv dg m = d3 := by rw [Int.tdiv_eq_ediv_of_nonneg hdg0, hd3]
        have HD3 : Hid ((X % m ^ q) / m ^ (s + 1) = d3) := hid (by rw [← hnx.2.2.2, hd3])
        have hd3b : d3 ≤ dg ∧ 0 ≤ d3 := by rw [← hd3]; exact ⟨Int.ediv_le_self _ hdg0, Int.ediv_nonneg hdg0 (by omega)⟩
        have hW : IntKind.i64.wrap d3 = d3 := IntWalk.i64_in _ (by omega)
        rw [htt] at HX1
        have M0 : ¬ m = 0 := by omega
        have hs200 : Hid ((s : Int) ≤ 1000) := hid (by
          have h1 : ∀ i : Nat, (i : Int) ≤ m ^ i := fun i => by
            induction i with
            | zero => simp
            | succ i ih =>
              have h2 : 0 < m ^ i := Int.pow_pos (by omega)
              have h3 : m ^ i * 2 ≤ m ^ i * m := Int.mul_le_mul_of_nonneg_left hm (by omega)
              rw [Int.pow_succ]; omega
          have h4 : ∀ i : Nat, (2 : Int) ^ i ≤ m ^ i := fun i => by
            induction i with
            | zero => simp
            | succ i ih =>
              have h2 : 0 < m ^ i := Int.pow_pos (by omega)
              have h3 : m ^ i * 2 ≤ m ^ i * m := Int.mul_le_mul_of_nonneg_left hm (by omega)
              rw [Int.pow_succ, Int.pow_succ]; omega
          rcases Nat.lt_or_ge s 17 with h5 | h5
          · omega
          · exfalso
            have h6 := pow_grow (m := (2 : Int)) (by omega) h5
            have h7 := h4 s
            have h8 := HDI.out.2
            rw [HPL.out.2.2.2] at h8
            have h9 : (2 : Int) ^ 17 = 131072 := by decide
            omega)
        have HMU2 := hid hmu2
        have HSQ := hid hsq
        clear hst hsq hmu2 hnx hln hdv hdg hxx hl2 hd2 hq2 hnn hsp hth htt hd3 hd3b hdg0 hdg1
        go_wp2_with fail
        refine (stays_any (s : Int) r mu a di (m ^ q) w8 (b := false) (hid ⟨fun h => Bool.noConfusion h, fun h => absurd h HST.out⟩)).mono ?_
        rintro e w9 ⟨rfl, hx⟩
        have E9 := hid (E8.out.step hx)
        clear p0 p1 p2 p3 p4 hx
        obtain ⟨p0, p1, p2, p3, p4⟩ := row_facts5 (RP.out.ext E9.out)
        obtain ⟨f0, f1, f2, -, -, -⟩ := row_facts3 (R1.out.ext E9.out)
        have hcur : Ext w9 w9 := Ext.rfl' _
        go_upto_region 13 with fail
        go_region_with (go_at_call 60; refine (child_any _ m us ad (s : Int) r mu a di tt x q2 u2 a2 d2 _ (HV.out.ext ((EX.out.step E9.out).step ?_)) hM (by omega) hs200.out HRR.out.1 HRR.out.2 HDI.out.1 HDI.out.2 HTT.out.1 HTT.out.2 HMU.out HMU2.out HAD.out HX1 HQ1 HU2 HA2 HD2).mono ?_; (first | exact hcur | exact hcur.drew' | exact hcur.alloc' _ | exact hcur.drew'.alloc' _ | exact (hcur.alloc' _).drew'); rintro e w10 ⟨rfl, hx⟩; unfold PlV; have hcur := Ext.step hcur (by first | exact hx | exact Ext.undrew hx | exact Ext.step ((Ext.rfl' _).alloc' _) hx | exact Ext.step ((Ext.rfl' _).drew'.alloc' _) hx); obtain ⟨p0, p1, p2, p3, p4⟩ := row_facts5 (RP.out.ext (E9.out.step hcur)); have z0 := (RP.out.ext (E9.out.step hcur)).free 0; have z1 := (RP.out.ext (E9.out.step hcur)).free 1; have z2 := (RP.out.ext (E9.out.step hcur)).free 2; have z3 := (RP.out.ext (E9.out.step hcur)).free 3; have z4 := (RP.out.ext (E9.out.step hcur)).free 4; obtain ⟨f0, f1, f2, -, -, -⟩ := row_facts3 (R1.out.ext (E9.out.step hcur)))
        all_goals
          have rp := RP.out.ext (E9.out.step hcur)
          have HFIN : Hid (∀ WF, WF = (((((w10.setCell ⟨HP, 0, none⟩ (.int .i64 ((s : Int) + 1))).setCell ⟨HP, 1, none⟩ (.int .i64 x)).setCell ⟨HP, 2, none⟩ (.int .i64 u2)).setCell ⟨HP, 3, none⟩ (.int .i64 a2)).setCell ⟨HP, 4, none⟩ (.int .i64 d2)) → ∃ (sn : Nat) (r mu a di : Int), sn ≤ q ∧ (q - (s + 1)) = q - sn ∧ Value.int .i64 d3 = .int .i64 ((X % m ^ q) / m ^ sn) ∧ Row WF w.heap.size 24 [.int .i64 m, .slice A n cc, .slice B n2 d] ∧ Row WF (w.heap.size + 1) 40 [.int .i64 0, .int .i64 0, .string ⟨#[]⟩, .string ⟨#[]⟩, .string ⟨#[]⟩, .string ⟨#[]⟩] ∧ Row WF HP 91 [.int .i64 (sn : Int), .int .i64 r, .int .i64 mu, .int .i64 a, .int .i64 di] ∧ Hid (PlP m us ad X sn r mu a di) ∧ Hid (∀ j, 1 ≤ j → j < sn → ¬ FallsAt m us ad X j) ∧ Ext w WF) := hid (by
            rintro WF rfl
            have hgt := HGT.out
            have ho : Off w10 (((((w10.setCell ⟨HP, 0, none⟩ (.int .i64 ((s : Int) + 1))).setCell ⟨HP, 1, none⟩ (.int .i64 x)).setCell ⟨HP, 2, none⟩ (.int .i64 u2)).setCell ⟨HP, 3, none⟩ (.int .i64 a2)).setCell ⟨HP, 4, none⟩ (.int .i64 d2)) HP := (((((Off.rfl' w10 HP).set 0 _).set 1 _).set 2 _).set 3 _).set 4 _
            refine ⟨s + 1, x, u2, a2, d2, by have := HSQ.out; omega, rfl, by rw [HD3.out], ho.row (R1.out.ext (E9.out.step hcur)) (by omega), ho.row (R2.out.ext (E9.out.step hcur)) (by omega), by simpa using row5_put6 rp, HPN, HNS, ?_⟩
            exact (((((EX.out.step (E9.out.step hcur)).set' (by show w.heap.size ≤ HP; omega) _).set' (by show w.heap.size ≤ HP; omega) _).set' (by show w.heap.size ≤ HP; omega) _).set' (by show w.heap.size ≤ HP; omega) _).set' (by show w.heap.size ≤ HP; omega) _)
          have HMEAS : Hid (q - (s + 1) < q - s) := hid (by have := HSQ.out; omega)
          have ro : Row (((((w10.setCell ⟨HP, 0, none⟩ (.int .i64 ((s : Int) + 1))).setCell ⟨HP, 1, none⟩ (.int .i64 x)).setCell ⟨HP, 2, none⟩ (.int .i64 u2)).setCell ⟨HP, 3, none⟩ (.int .i64 a2)).setCell ⟨HP, 4, none⟩ (.int .i64 d2)) w.heap.size 24 [.int .i64 m, .slice A n cc, .slice B n2 d] := ((((((Off.rfl' w10 HP).set 0 _).set 1 _).set 2 _).set 3 _).set 4 _).row (R1.out.ext (E9.out.step hcur)) (by have := HGT.out; omega)
          have g0 := (row_facts3 ro).1
          clear rp ro hcur
          go_wp2
          go_roundg (q - (s + 1))
          case measure => exact HMEAS.out
          case rel => exact HFIN.out _ rfl
end Go.Proofs.YtimokpcopeldfaaGreatDoor
/- package sieve: restsBelow -/
namespace Go.Proofs.YtimokpcopeldfaaGreatDoor
open Go.RowKit
/-- the first n rests of a place -/
def belowL (r di : Int) (n : Nat) : List Int := (List.range n).map fun (i : Nat) => r + (i : Int) * di
theorem belowL_snoc (r di : Int) (n : Nat) : belowL r di (n + 1) = belowL r di n ++ [r + (n : Int) * di] := by
  unfold belowL; rw [List.range_succ, List.map_append]; rfl
theorem belowL_len (r di : Int) (n : Nat) : (belowL r di n).length = n := by simp [belowL]
set_option maxRecDepth 100000 in
set_option maxHeartbeats 6400000 in
theorem restsBelow_any (s r mu ad di wh : Int) (w : World) (hr : 0 ≤ r) (hd : 1 ≤ di) (hd2 : di ≤ 65536) (hw : wh ≤ 65536) :
    Calls Tryz.prog 59 #[PlV s r mu ad di, .int .i64 wh] w (fun e w' => ∃ (L : Option Addr) (n c : Nat), e = .returned (.slice L n c) ∧ n ≤ 65536 ∧ Rd w' L (Is (belowL r di n)) ∧ (∀ i : Nat, i < n → r + (i : Int) * di < wh) ∧ wh ≤ r + (n : Int) * di ∧ Ext w w') := by
  obtain ⟨i0, hi, hz0, hz1, hz2⟩ := info_parts infoI
  unfold PlV
  have hx : Ext w (w.alloc (.cells #[.int .i64 s, .int .i64 r, .int .i64 mu, .int .i64 ad, .int .i64 di] 91)) := (Ext.rfl' w).alloc' _
  have hr1 : Row (w.alloc (.cells #[.int .i64 s, .int .i64 r, .int .i64 mu, .int .i64 ad, .int .i64 di] 91)) w.heap.size 91 [.int .i64 s, .int .i64 r, .int .i64 mu, .int .i64 ad, .int .i64 di] := Row.new w _ _
  have hsz : (w.alloc (.cells #[.int .i64 s, .int .i64 r, .int .i64 mu, .int .i64 ad, .int .i64 di] 91)).heap.size = w.heap.size + 1 := by simp
  obtain ⟨W1, hW1⟩ : ∃ W1, (w.alloc (.cells #[.int .i64 s, .int .i64 r, .int .i64 mu, .int .i64 ad, .int .i64 di] 91)) = W1 := ⟨_, rfl⟩
  rw [hW1] at hx hr1 hsz
  have HX := hid hx
  have HW1 := hid hW1
  have R1 := hid hr1
  have HSZ := hid hsz
  obtain ⟨p0, p1, p2, p3, p4⟩ := row_facts5 hr1
  clear hW1 hx hr1 hsz
  go_enter Tryz.func59, Tryz.ntmps59
  go_upto_region 1 with fail
  rw [HW1.out]
  go_wp2_with fail
  go_loopw [5, 6] (fun lv rv wr => ∃ (j : Nat) (x : Int) (L : Option Addr) (cap : Nat), j ≤ 65536 ∧ lv = .slice L j cap ∧ rv = .int .i64 x ∧ Hid (x = r + (j : Int) * di) ∧ Hid (∀ i : Nat, i < j → r + (i : Int) * di < wh) ∧ Row wr w.heap.size 91 [.int .i64 s, .int .i64 r, .int .i64 mu, .int .i64 ad, .int .i64 di] ∧ wr.ownsRow (w.heap.size + 1) 3 1 (.slice L j cap) j (Is (belowL r di j)) ∧ Hid (∀ g c', Value.slice L j cap = .slice (some ⟨g, 0, none⟩) j c' → SpZ wr g j) ∧ Ext W1 wr) (fun _ rv _ => (wh - intOf rv).toNat)
  case atStart => exact ⟨0, r, none, 0, by omega, rfl, rfl, hid (by simp), hid (fun i hi => by omega), R1.out, World.ownsRow_nil _ _ _ _, hid (fun g c' h => by cases h), Ext.rfl' _⟩
  case round =>
    obtain ⟨j, x, L, cap, hj, rfl, rfl, HXE, HLT, hrw, hown, HSP, hex⟩ := hrel
    have RP := hid hrw
    have HOWN := hid hown
    have EX := hid hex
    clear hrw hown hex R1 p0 p1 p2 p3 p4
    by_cases hlt : x < wh
    · have hjx : (j : Int) ≤ x := by
        rw [HXE.out]
        have h1 : (j : Int) * 1 ≤ (j : Int) * di := Int.mul_le_mul_of_nonneg_left hd (by omega)
        omega
      have hx0 : 0 ≤ x := by omega
      have hbs : (w.heap.size + 1) ≤ (wr.alloc (.cells #[.int .i64 x] 3)).heap.size := by
        have h2 := EX.out.size
        have h3 := HSZ.out
        rw [World.size_alloc]; omega
      have W1w : IntKind.i64.wrap (x + di) = x + di := IntWalk.i64_in _ (by omega)
      go_wp2_with (at_builtin; refine wpList_append_int rfl _ _ 22 rfl (w.heap.size + 1) 3 i0 Tryz.underlying22 hi hz0 hz1 hz2 (.slice L j cap) j (Is (belowL r di j)) rfl (HOWN.out.alloc _) (fun g c' h => (HSP.out g c' h).keep (Below.heap_alloc wr _ g (by injection h with h1 h2 h3; subst h1; exact (HOWN.out.lt g rfl).2))) ⟨wr.heap.size, 0, none⟩ 1 x rfl (cell_one_new _ _ _) (by omega) hbs ?_)
      intro g' cap' w8 hown8 hgrow hcap8 hsp8 hkeep
      have hfar : ∀ kk, Value.ownBlock (.slice L j cap) = some kk → (w.heap.size + 1) ≤ kk := fun kk hkk => (HOWN.out.lt kk hkk).1
      have rp8 := RP.out.grownO hgrow (fun kk hkk => by have := hfar kk hkk; omega)
      have ex8 : Ext W1 w8 := (EX.out.alloc' _).grown hgrow (by have := EX.out.size; rw [World.size_alloc]; omega) (fun kk hkk => by have := hfar kk hkk; have := HSZ.out; omega)
      have HFIN : Hid (∃ (jn : Nat) (xn : Int) (L : Option Addr) (cap : Nat), jn ≤ 65536 ∧ Value.slice (some ⟨g', 0, none⟩) (j + 1) cap' = .slice L jn cap ∧ Value.int .i64 (x + di) = .int .i64 xn ∧ Hid (xn = r + (jn : Int) * di) ∧ Hid (∀ i : Nat, i < jn → r + (i : Int) * di < wh) ∧ Row w8 w.heap.size 91 [.int .i64 s, .int .i64 r, .int .i64 mu, .int .i64 ad, .int .i64 di] ∧ w8.ownsRow (w.heap.size + 1) 3 1 (.slice L jn cap) jn (Is (belowL r di jn)) ∧ Hid (∀ g c', Value.slice L jn cap = .slice (some ⟨g, 0, none⟩) jn c' → SpZ w8 g jn) ∧ Ext W1 w8) := hid (by
        refine ⟨j + 1, x + di, _, _, by omega, rfl, rfl, hid ?_, hid ?_, rp8, ?_, hid ?_, ex8⟩
        · rw [HXE.out, Int.natCast_add, Int.add_mul]; omega
        · intro i hi
          rcases Nat.lt_or_ge i j with h | h
          · exact HLT.out i h
          · obtain rfl : i = j := by omega
            rw [← HXE.out]; exact hlt
        · rw [belowL_snoc, ← HXE.out]
          simpa using hown8
        · intro g c' h
          injection h with h1 h2 h3
          injection h1 with h1
          injection h1 with h1
          subst h1
          exact hsp8)
      obtain ⟨p0, p1, p2, p3, p4⟩ := row_facts5 rp8
      clear hown8 hgrow hcap8 hsp8 hkeep hfar rp8 ex8 hbs
      go_wp2
      go_roundw
      case rel => exact HFIN.out
      case measure => first | (simp [intOf]; done) | (simp [intOf]; omega)
    · have HF := hid (HX.out.step EX.out)
      have HE := hid (show wh ≤ r + (j : Int) * di by rw [← HXE.out]; omega)
      have HRD := hid (Rd.of_own HOWN.out)
      go_wp2
      go_ret
      first | exact ⟨L, j, ⟨cap, rfl⟩, hj, HRD.out, HLT.out, HE.out, HF.out⟩ | exact ⟨L, j, cap, rfl, hj, HRD.out, HLT.out, HE.out, HF.out⟩
end Go.Proofs.YtimokpcopeldfaaGreatDoor
/- package sieve: what the closure visit does: its lists, and what it leaves alone -/
namespace Go.Proofs.YtimokpcopeldfaaGreatDoor
open Go.RowKit
/-- the texts of the fall at a place -/
def fTxt (m : Int) (us ad : List Int) (p : Int × Int) : ByteArray × ByteArray × ByteArray × ByteArray :=
  let l := lnX m us ad p.2 p.1.toNat
  (Str (K.txt l.1), Str (K.txt l.2.1), Str (K.txt (m ^ p.1.toNat)), Str (K.txt (l.2.1 / (m ^ p.1.toNat - l.1))))
/-- falls and rests below a place of s steps, d more to go -/
def vis (M : Nat) (us ad : List Int) (k : Nat) : Nat → Nat → Int → List (Int × Int) × List Int
  | 0, s, r => if (lnX (M : Int) us ad r s).1 < (M : Int) ^ s then ([((s : Int), r)], []) else ([], belowL r ((M : Int) ^ s) 1)
  | d + 1, s, r => if (lnX (M : Int) us ad r s).1 < (M : Int) ^ s then ([((s : Int), r)], []) else
      if (M : Int) ^ k ≤ (lnX (M : Int) us ad r s).1 then ([], belowL r ((M : Int) ^ s) (M ^ (d + 1))) else
        ((List.range M).flatMap (fun (t : Nat) => (vis M us ad k d (s + 1) (r + (t : Int) * (M : Int) ^ s)).1), (List.range M).flatMap (fun (t : Nat) => (vis M us ad k d (s + 1) (r + (t : Int) * (M : Int) ^ s)).2))
theorem flat_len {α β : Type} (f : α → List β) (B : Nat) : ∀ l : List α, (∀ x, x ∈ l → (f x).length ≤ B) → (l.flatMap f).length ≤ l.length * B
  | [], _ => by simp
  | x :: r, h => by
    have h1 := h x (by simp)
    have h2 := flat_len f B r (fun y hy => h y (by simp [hy]))
    rw [List.flatMap_cons, List.length_append, List.length_cons, Nat.succ_mul]
    omega
theorem vis_len {M : Nat} (hM : 1 ≤ M) (us ad : List Int) (k : Nat) : ∀ (d s : Nat) (r : Int), (vis M us ad k d s r).1.length ≤ M ^ d ∧ (vis M us ad k d s r).2.length ≤ M ^ d
  | 0, s, r => by
    unfold vis
    split <;> simp [belowL_len]
  | d + 1, s, r => by
    have hp : 1 ≤ M ^ (d + 1) := Nat.one_le_pow _ _ hM
    unfold vis
    split
    · simp; omega
    · split
      · simp [belowL_len]
      · have e : (List.range M).length * M ^ d = M ^ (d + 1) := by rw [List.length_range, Nat.pow_succ, Nat.mul_comm]
        have h1 := flat_len (fun (t : Nat) => (vis M us ad k d (s + 1) (r + (t : Int) * (M : Int) ^ s)).1) (M ^ d) (List.range M) (fun t _ => (vis_len hM us ad k d (s + 1) _).1)
        have h2 := flat_len (fun (t : Nat) => (vis M us ad k d (s + 1) (r + (t : Int) * (M : Int) ^ s)).2) (M ^ d) (List.range M) (fun t _ => (vis_len hM us ad k d (s + 1) _).2)
        rw [e] at h1 h2
        exact ⟨h1, h2⟩
/-- the two lists in their boxes -/
def St (base BF BL : Nat) (f : Int × Int → ByteArray × ByteArray × ByteArray × ByteArray) (w : World) (vF vL : Value) (ps : List (Int × Int)) (ls : List Int) : Prop :=
  Row w BF 26 [vF] ∧ Row w BL 22 [vL] ∧ w.ownsRow base 40 6 vF ps.length (ps.flatMap (encF f)) ∧ w.ownsRow base 3 1 vL ls.length (Is ls)
/-- what a visit leaves alone: all but the two boxes and the blocks of the two lists -/
structure Chg (BF BL : Nat) (w : World) (vF vL : Value) (w' : World) (vF' vL' : Value) : Prop where
  os : w'.os = w.os
  tape : w'.tape = w.tape
  output : w'.output = w.output
  size : w.heap.size ≤ w'.heap.size
  block : ∀ j, j < w.heap.size → j ≠ BF → j ≠ BL → vF.ownBlock ≠ some j → vL.ownBlock ≠ some j → w'.heap[j]? = w.heap[j]?
  newF : ∀ g, vF'.ownBlock = some g → vF.ownBlock = some g ∨ w.heap.size ≤ g
  newL : ∀ g, vL'.ownBlock = some g → vL.ownBlock = some g ∨ w.heap.size ≤ g
theorem Chg.of_ext {BF BL : Nat} {w w' : World} (e : Ext w w') (vF vL : Value) : Chg BF BL w vF vL w' vF vL :=
  ⟨e.os, e.tape, e.output, e.size, fun j hj _ _ _ _ => e.block j hj, fun _ h => .inl h, fun _ h => .inl h⟩
theorem Chg.trans {BF BL : Nat} {a b c : World} {f0 l0 f1 l1 f2 l2 : Value} (h : Chg BF BL a f0 l0 b f1 l1) (k : Chg BF BL b f1 l1 c f2 l2) : Chg BF BL a f0 l0 c f2 l2 where
  os := k.os.trans h.os
  tape := k.tape.trans h.tape
  output := k.output.trans h.output
  size := Nat.le_trans h.size k.size
  block := fun j hj h1 h2 h3 h4 => by
    refine (k.block j (Nat.lt_of_lt_of_le hj h.size) h1 h2 (fun e => ?_) (fun e => ?_)).trans (h.block j hj h1 h2 h3 h4)
    · rcases h.newF j e with h5 | h5
      · exact h3 h5
      · omega
    · rcases h.newL j e with h5 | h5
      · exact h4 h5
      · omega
  newF := fun g hg => by
    rcases k.newF g hg with h1 | h1
    · exact h.newF g h1
    · exact .inr (Nat.le_trans h.size h1)
  newL := fun g hg => by
    rcases k.newL g hg with h1 | h1
    · exact h.newL g h1
    · exact .inr (Nat.le_trans h.size h1)
theorem own_at {w w' : World} {base e size n : Nat} {v : Value} {xs : List Value} (h : w.ownsRow base e size v n xs) (hk : ∀ g, v.ownBlock = some g → w'.heap[g]? = w.heap[g]?) : w'.ownsRow base e size v n xs := by
  refine ⟨h.1, ?_⟩
  rcases h.2 with h2 | ⟨g, cap, cur, rfl, hb, hg, h3⟩
  · exact .inl h2
  · exact .inr ⟨g, cap, cur, rfl, hb, by rw [hk g rfl, hg], h3⟩
theorem St.ext {base BF BL : Nat} {f : Int × Int → ByteArray × ByteArray × ByteArray × ByteArray} {w w' : World} {vF vL : Value} {ps : List (Int × Int)} {ls : List Int} (h : St base BF BL f w vF vL ps ls) (e : Ext w w') : St base BF BL f w' vF vL ps ls :=
  ⟨h.1.ext e, h.2.1.ext e, own_at h.2.2.1 (fun g hg => e.block g (h.2.2.1.lt g hg).2), own_at h.2.2.2 (fun g hg => e.block g (h.2.2.2.lt g hg).2)⟩
/-- the blocks of the two lists are two -/
theorem St.apart {base BF BL : Nat} {f : Int × Int → ByteArray × ByteArray × ByteArray × ByteArray} {w : World} {vF vL : Value} {ps : List (Int × Int)} {ls : List Int} (h : St base BF BL f w vF vL ps ls) : ∀ g, vF.ownBlock = some g → vL.ownBlock = some g → False := by
  intro g h1 h2
  obtain ⟨-, -, ⟨-, hF⟩, -, hL⟩ := h
  rcases hF with ⟨rfl, -⟩ | ⟨g1, c1, u1, rfl, -, e1, -⟩
  · cases h1
  · rcases hL with ⟨rfl, -⟩ | ⟨g2, c2, u2, rfl, -, e2, -⟩
    · cases h2
    · injection h1 with h1
      injection h2 with h2
      have h1' : g1 = g := h1
      have h2' : g2 = g := h2
      subst h1' h2'
      rw [e1] at e2
      injection e2 with e2
      injection e2 with _ e3 _
      exact absurd e3 (by decide)
/-- the boxes that the closure reads: they lie below base, as the two that it writes -/
structure Env (w00 : World) (base BF BL BW BM BV : Nat) (wh : Int) (mc : List Value) (w : World) : Prop where
  ext : Ext w00 w
  rw_ : Row w BW 3 [.int .i64 wh]
  rm : Row w BM 24 mc
  rv : Row w BV 89 [.func (.func 55) #[] #[.pointer (some ⟨BF, 0, none⟩), .pointer (some ⟨BW, 0, none⟩), .pointer (some ⟨BL, 0, none⟩), .pointer (some ⟨BM, 0, none⟩), .pointer (some ⟨BV, 0, none⟩)]]
  hb : base ≤ w.heap.size
/-- where the boxes lie -/
def Lies (w00 : World) (base BF BL BW BM BV : Nat) : Prop := w00.heap.size ≤ BF ∧ w00.heap.size ≤ BL ∧ BF < base ∧ BL < base ∧ BW < base ∧ BM < base ∧ BV < base ∧ BF ≠ BL ∧ BW ≠ BF ∧ BW ≠ BL ∧ BM ≠ BF ∧ BM ≠ BL ∧ BV ≠ BF ∧ BV ≠ BL ∧ w00.heap.size ≤ base
theorem Env.of_ext {w00 : World} {base BF BL BW BM BV : Nat} {wh : Int} {mc : List Value} {w w' : World} (h : Env w00 base BF BL BW BM BV wh mc w) (e : Ext w w') : Env w00 base BF BL BW BM BV wh mc w' :=
  ⟨h.ext.step e, h.rw_.ext e, h.rm.ext e, h.rv.ext e, Nat.le_trans h.hb e.size⟩
theorem Env.chg {w00 : World} {base BF BL BW BM BV : Nat} {wh : Int} {mc : List Value} {w w' : World} {vF vL vF' vL' : Value} (h : Env w00 base BF BL BW BM BV wh mc w) (L : Lies w00 base BF BL BW BM BV)
    (oF : ∀ g, vF.ownBlock = some g → base ≤ g) (oL : ∀ g, vL.ownBlock = some g → base ≤ g) (c : Chg BF BL w vF vL w' vF' vL') : Env w00 base BF BL BW BM BV wh mc w' := by
  obtain ⟨l1, l2, l3, l4, l5, l6, l7, l8, l9, l10, l11, l12, l13, l14, l15⟩ := L
  have hb := h.hb
  have hk : ∀ j, j < base → j ≠ BF → j ≠ BL → w'.heap[j]? = w.heap[j]? := fun j hj h1 h2 => c.block j (by omega) h1 h2 (fun e => by have := oF j e; omega) (fun e => by have := oL j e; omega)
  refine ⟨⟨c.os.trans h.ext.os, c.tape.trans h.ext.tape, c.output.trans h.ext.output, Nat.le_trans h.ext.size c.size, fun j hj => (hk j (by omega) (by omega) (by omega)).trans (h.ext.block j hj)⟩, ?_, ?_, ?_, Nat.le_trans h.hb c.size⟩
  · exact (hk BW l5 l9 l10).trans h.rw_
  · exact (hk BM l6 l11 l12).trans h.rm
  · exact (hk BV l7 l13 l14).trans h.rv
theorem infoF : (Tryz.prog.info? 40).map (fun i => (i.zero, i.size, i.bytes)) = some (some (.agg #[.int .i64 0, .int .i64 0, .string ⟨#[]⟩, .string ⟨#[]⟩, .string ⟨#[]⟩, .string ⟨#[]⟩]), 6, 80) := by kernel_rfl
/-- what a visit tells -/
def VisPost (base BF BL : Nat) (f : Int × Int → ByteArray × ByteArray × ByteArray × ByteArray) (w : World) (vF vL : Value) (ps : List (Int × Int)) (ls : List Int) (e : Ending) (w' : World) : Prop :=
  e = .returned (.tuple #[]) ∧ ∃ vF' vL', St base BF BL f w' vF' vL' ps ls ∧ Chg BF BL w vF vL w' vF' vL'
end Go.Proofs.YtimokpcopeldfaaGreatDoor
/- package sieve: the closure visit, at a place that falls -/
namespace Go.Proofs.YtimokpcopeldfaaGreatDoor
open Go.RowKit
theorem row_news (w : World) (t : TypeId) (vs : List Value) : ∀ j u, vs[j]? = some u → (w.alloc (.cells vs.toArray t)).cell? (Addr.add ⟨w.heap.size, 0, none⟩ j) = some u := by
  exact World.news_of_block (Row.new w t vs)
set_option maxRecDepth 100000 in
set_option maxHeartbeats 6400000 in
theorem visit_fall (w00 : World) (base BF BL BW BM BV : Nat) (wh : Int) (A : Option Addr) (n cc : Nat) (B : Option Addr) (n2 d2 : Nat) (m : Int) (f : Int × Int → ByteArray × ByteArray × ByteArray × ByteArray) (s : Nat) (r mu a di : Int) (vF vL : Value) (ps : List (Int × Int)) (ls : List Int) (w : World) (HL : Hid (Lies w00 base BF BL BW BM BV)) (HE : Env w00 base BF BL BW BM BV wh [.int .i64 m, .slice A n cc, .slice B n2 d2] w) (HS0 : St base BF BL f w vF vL ps ls) (ht : Tab w) (hlt : mu < di) (hmu : Hid (0 ≤ mu ∧ di ≤ 786432)) (hA : Hid (a.natAbs ≤ 9000000000000000000))
    (hf : Hid (f ((s : Int), r) = (Str (K.txt mu), Str (K.txt a), Str (K.txt di), Str (K.txt (a / (di - mu)))))) (hn : ps.length ≤ 1000000) :
    Calls Tryz.prog 55 #[PlV (s : Int) r mu a di, .pointer (some ⟨BF, 0, none⟩), .pointer (some ⟨BW, 0, none⟩), .pointer (some ⟨BL, 0, none⟩), .pointer (some ⟨BM, 0, none⟩), .pointer (some ⟨BV, 0, none⟩)] w (VisPost base BF BL f w vF vL (ps ++ [((s : Int), r)]) ls) := by
  obtain ⟨i0, hi, hz0, hz1, hz2⟩ := info_parts infoF
  obtain ⟨su, hsu⟩ : ∃ su, Str (K.txt mu) = su := ⟨_, rfl⟩
  obtain ⟨sa, hsa⟩ : ∃ sa, Str (K.txt a) = sa := ⟨_, rfl⟩
  obtain ⟨sd, hsd⟩ : ∃ sd, Str (K.txt di) = sd := ⟨_, rfl⟩
  obtain ⟨sb, hsb⟩ : ∃ sb, Str (K.txt (a / (di - mu))) = sb := ⟨_, rfl⟩
  rw [hsu, hsa, hsd, hsb] at hf
  have HSU := hid hsu
  have HSA := hid hsa
  have HSD := hid hsd
  have HSB0 := hid hsb
  clear hsu hsa hsd hsb
  have hx : Ext w (w.alloc (.cells #[.int .i64 (s : Int), .int .i64 r, .int .i64 mu, .int .i64 a, .int .i64 di] 91)) := (Ext.rfl' w).alloc' _
  have hr : Row (w.alloc (.cells #[.int .i64 (s : Int), .int .i64 r, .int .i64 mu, .int .i64 a, .int .i64 di] 91)) w.heap.size 91 [.int .i64 (s : Int), .int .i64 r, .int .i64 mu, .int .i64 a, .int .i64 di] := Row.new w _ _
  have hsz : (w.alloc (.cells #[.int .i64 (s : Int), .int .i64 r, .int .i64 mu, .int .i64 a, .int .i64 di] 91)).heap.size = w.heap.size + 1 := by simp
  unfold PlV
  obtain ⟨w1, hw1⟩ : ∃ w1, w.alloc (.cells #[.int .i64 (s : Int), .int .i64 r, .int .i64 mu, .int .i64 a, .int .i64 di] 91) = w1 := ⟨_, rfl⟩
  rw [hw1] at hx hr hsz
  have HW := hid hw1
  have RP := hid hr
  have E1 := hid hx
  have HEN := hid (HE.of_ext hx)
  have HST := hid (HS0.ext hx)
  have HT := hid (ht.ext hx)
  have HSZ := hid hsz
  have HS00 := hid HS0
  obtain ⟨p0, p1, p2, p3, p4⟩ := row_facts5 hr
  clear hx hr hw1 hsz HS0
  go_enter Tryz.func55, Tryz.ntmps55
  go_upto_region 6 with fail
  rw [HW.out]
  go_wp2_with fail
  refine (falls_any (s : Int) r mu a di _ (b := true) (hid ⟨fun _ => hlt, fun _ => rfl⟩)).mono ?_
  rintro e w2 ⟨rfl, hx⟩
  have E2 := hid (E1.out.step hx)
  replace HEN := hid (HEN.out.of_ext hx)
  replace HST := hid (HST.out.ext hx)
  replace HT := hid (HT.out.ext hx)
  replace RP := hid (RP.out.ext hx)
  have HSB := hid (Nat.le_trans (show w.heap.size + 1 ≤ w1.heap.size by rw [HSZ.out]; exact Nat.le_refl _) hx.size)
  clear hx p0 p1 p2 p3 p4
  have l3 : BF < base := HL.out.2.2.1
  have l4 : BL < base := HL.out.2.2.2.1
  have l8 : BF ≠ BL := HL.out.2.2.2.2.2.2.2.1
  have hbs : base ≤ w2.heap.size := HEN.out.hb
  have hpB : w.heap.size ≠ BF := by
    have := HE.hb
    omega
  have HOF := hid HST.out.2.2.1
  have HOL := hid HST.out.2.2.2
  obtain ⟨q0, -⟩ : w2.cell? ⟨BF, 0, none⟩ = some vF ∧ True := ⟨HST.out.1.cell 0, trivial⟩
  have q1 := HST.out.1.free 0
  obtain ⟨p0, p1, p2, p3, p4⟩ := row_facts5 RP.out
  have hcur : Ext w2 w2 := Ext.rfl' _
  go_upto_region 7 with fail
  go_region_law (first
    | (refine step_append_lies _ (by rfl) _ _ _ (by rfl) base 40 i0 (.agg #[.int .i64 0, .int .i64 0, .string ⟨#[]⟩, .string ⟨#[]⟩, .string ⟨#[]⟩, .string ⟨#[]⟩]) 6 80 Tryz.underlying26 hi hz0 hz1 hz2 rfl (by omega) vF ps.length (ps.flatMap (encF f)) (by rfl) ((own_at HOF.out (fun g hg => hcur.block g (HOF.out.lt g hg).2)).alloc _) ⟨w10.heap.size, 0, none⟩ 1 1 [.int .i64 (s : Int), .int .i64 r, .string su, .string sa, .string sd, .string sb] (by rfl) rfl (row_news _ _ _) (by simp [Value.oneCell']) (by omega) (by have : maxLen = 9223372036854775807 := rfl; omega) (by omega) (by have := hcur.size; simp; omega) _ rfl ?_; intro g' cap' w8 hown8 hgrow hat hlt8; have rf8 := (HST.out.1.ext hcur).grownO hgrow (fun kk hkk => by have := (HOF.out.lt kk hkk).1; omega); have q0 : w8.cell? ⟨BF, 0, none⟩ = some vF := rf8.cell 0; have q1 := rf8.free 0)
    | (go_simp; go_at_call 57; refine (fall_l (s : Int) r mu a di (a / (di - mu)) su sa sd sb _ (HT.out.ext ?_) hlt hmu hA (hid rfl) HSU HSA HSD HSB0).mono ?_; (first | exact hcur | exact hcur.drew' | exact hcur.alloc' _ | exact hcur.drew'.alloc' _ | exact (hcur.alloc' _).drew'); rintro e w10 ⟨rfl, hx⟩; unfold FaV; have hcur := Ext.step hcur (by first | exact hx | exact Ext.undrew hx | exact Ext.step ((Ext.rfl' _).alloc' _) hx | exact Ext.step ((Ext.rfl' _).drew'.alloc' _) hx); have q0 : w10.cell? ⟨BF, 0, none⟩ = some vF := (HST.out.1.ext hcur).cell 0; have q1 := (HST.out.1.ext hcur).free 0; have q2 : ∀ o, (w10.alloc o).cell? ⟨BF, 0, none⟩ = some vF := (fun o => ((HST.out.1.ext hcur).alloc o).cell 0); obtain ⟨p0, p1, p2, p3, p4⟩ := row_facts5 (RP.out.ext hcur)))
  all_goals
    have HF : Hid (∀ WF, WF = w8.setCell ⟨BF, 0, none⟩ (.slice (some ⟨g', 0, none⟩) (ps.length + 1) cap') → VisPost base BF BL f w vF vL (ps ++ [((s : Int), r)]) ls (.returned (.tuple #[])) WF) := hid (by
      rintro WF rfl
      have hs10 := (E2.out.step hcur).size
      have hbk : ∀ j, j < w10.heap.size → j ≠ BF → vF.ownBlock ≠ some j → (w8.setCell ⟨BF, 0, none⟩ (.slice (some ⟨g', 0, none⟩) (ps.length + 1) cap')).heap[j]? = w10.heap[j]? := fun j h1 h2 h3 => by
        rw [Below.heap_setCell _ _ _ j (by exact h2), hgrow.block j (by rw [World.size_alloc]; omega) (fun e => h3 e.symm), Below.heap_alloc _ _ _ h1]
      refine ⟨rfl, .slice (some ⟨g', 0, none⟩) (ps.length + 1) cap', vL, ⟨rf8.set 0 _, ?_, ?_, ?_⟩, ?_⟩
      · exact (hbk BL (HST.out.2.1.ext hcur).lt (by omega) (fun e => by have := (HOF.out.lt BL e).1; omega)).trans (HST.out.2.1.ext hcur)
      · have h1 : (ps ++ [((s : Int), r)]).flatMap (encF f) = ps.flatMap (encF f) ++ [.int .i64 (s : Int), .int .i64 r, .string su, .string sa, .string sd, .string sb] := by
          rw [List.flatMap_append]
          simp only [List.flatMap_cons, List.flatMap_nil, List.append_nil, encF, hf.out]
        rw [h1, List.length_append, List.length_singleton]
        exact own_at hown8 (fun g hg => Below.heap_setCell _ _ _ g (by show g ≠ BF; have := (hown8.lt g hg).1; omega))
      · refine own_at HOL.out (fun g hg => (hbk g (Nat.lt_of_lt_of_le (HOL.out.lt g hg).2 hcur.size) (by have := (HOL.out.lt g hg).1; omega) (fun e => HST.out.apart g e hg)).trans (hcur.block g (HOL.out.lt g hg).2))
      · exact ⟨hgrow.os.trans (E2.out.step hcur).os, hgrow.tape.trans (E2.out.step hcur).tape, hgrow.output.trans (E2.out.step hcur).output, Nat.le_trans hs10 (by have := hgrow.size; rw [World.size_alloc] at this; simp; omega), fun j h1 h2 h3 h4 h5 => (hbk j (by omega) h2 h4).trans ((E2.out.step hcur).block j h1), fun g hg => by
          have hg' : g' = g := by injection hg
          subst hg'
          rcases hat with h6 | h6
          · exact .inl h6
          · right; rw [h6, World.size_alloc]; omega, fun g hg => .inl hg⟩)
    clear hown8 hgrow hat hcur
    go_wp2
    go_end0
    exact HF.out _ rfl
end Go.Proofs.YtimokpcopeldfaaGreatDoor
/- package sieve: the closure visit, at a place that stays -/
namespace Go.Proofs.YtimokpcopeldfaaGreatDoor
open Go.RowKit
theorem Row.grownR {W w1 : World} {row : Option Nat} {H : Nat} {t : TypeId} {vs : List Value} (h : Row W H t vs) (hg : W.grownBy w1 row) (hne : ∀ k, row = some k → H ≠ k) : Row w1 H t vs :=
  (hg.block H h.lt (fun e => hne H e.symm rfl)).trans h
theorem rd_news {w : World} {b o : Nat} {vs : List Value} (h : Rd w (some ⟨b, o, none⟩) vs) : ∀ j u, vs[j]? = some u → w.cell? (Addr.add ⟨b, o, none⟩ j) = some u := by
  intro j u hj
  have hadd : (⟨b, o, none⟩ : Addr).add j = ⟨b, o + j, none⟩ := by unfold Addr.add; split <;> simp_all
  rw [hadd]
  rcases h with h | ⟨b2, o2, e, -, hc⟩
  · rw [h] at hj; simp at hj
  · cases e
    exact hc j u hj
theorem below_n {r di : Int} {n N : Nat} (h0 : 0 ≤ r) (h1 : r < di) (ha : ∀ i : Nat, i < n → r + (i : Int) * di < di * (N : Int)) (hb : di * (N : Int) ≤ r + (n : Int) * di) : n = N := by
  rcases Nat.lt_trichotomy n N with h | h | h
  · exfalso
    have h2 : ((n : Int) + 1) * di ≤ (N : Int) * di := Int.mul_le_mul_of_nonneg_right (by omega) (by omega)
    rw [Int.add_mul, Int.one_mul] at h2
    rw [Int.mul_comm di] at hb
    omega
  · exact h
  · exfalso
    have h2 := ha N h
    rw [Int.mul_comm di] at h2
    omega
set_option maxRecDepth 100000 in
set_option maxHeartbeats 6400000 in
theorem visit_stay (w00 : World) (base BF BL BW BM BV : Nat) (wh : Int) (A : Option Addr) (n cc : Nat) (B : Option Addr) (n2 d2 : Nat) (m : Int) (f : Int × Int → ByteArray × ByteArray × ByteArray × ByteArray) (s : Nat) (r mu a di : Int) (vF vL : Value) (ps : List (Int × Int)) (ls : List Int) (w : World) (N : Nat) (HL : Hid (Lies w00 base BF BL BW BM BV)) (HE : Env w00 base BF BL BW BM BV wh [.int .i64 m, .slice A n cc, .slice B n2 d2] w) (HS0 : St base BF BL f w vF vL ps ls) (ht : Tab w) (hlt : Hid (¬ mu < di)) (hst : Hid (wh ≤ mu ∨ di = wh)) (hwh : Hid (wh = di * (N : Int))) (hN : 1 ≤ N) (hr0 : 0 ≤ r) (hr1 : r < di) (hdi : di ≤ 65536) (hw6 : wh ≤ 65536) (hn : ls.length ≤ 1000000) :
    Calls Tryz.prog 55 #[PlV (s : Int) r mu a di, .pointer (some ⟨BF, 0, none⟩), .pointer (some ⟨BW, 0, none⟩), .pointer (some ⟨BL, 0, none⟩), .pointer (some ⟨BM, 0, none⟩), .pointer (some ⟨BV, 0, none⟩)] w (VisPost base BF BL f w vF vL ps (ls ++ belowL r di N)) := by
  obtain ⟨i0, hi, hz0, hz1, hz2⟩ := info_parts infoI
  have hx : Ext w (w.alloc (.cells #[.int .i64 (s : Int), .int .i64 r, .int .i64 mu, .int .i64 a, .int .i64 di] 91)) := (Ext.rfl' w).alloc' _
  have hr : Row (w.alloc (.cells #[.int .i64 (s : Int), .int .i64 r, .int .i64 mu, .int .i64 a, .int .i64 di] 91)) w.heap.size 91 [.int .i64 (s : Int), .int .i64 r, .int .i64 mu, .int .i64 a, .int .i64 di] := Row.new w _ _
  have hsz : (w.alloc (.cells #[.int .i64 (s : Int), .int .i64 r, .int .i64 mu, .int .i64 a, .int .i64 di] 91)).heap.size = w.heap.size + 1 := by simp
  unfold PlV
  obtain ⟨w1, hw1⟩ : ∃ w1, w.alloc (.cells #[.int .i64 (s : Int), .int .i64 r, .int .i64 mu, .int .i64 a, .int .i64 di] 91) = w1 := ⟨_, rfl⟩
  rw [hw1] at hx hr hsz
  have HW := hid hw1
  have RP := hid hr
  have E1 := hid hx
  have HEN := hid (HE.of_ext hx)
  have HST := hid (HS0.ext hx)
  have HT := hid (ht.ext hx)
  have HSZ := hid hsz
  have HS00 := hid HS0
  obtain ⟨p0, p1, p2, p3, p4⟩ := row_facts5 hr
  clear hx hr hw1 hsz HS0
  go_enter Tryz.func55, Tryz.ntmps55
  go_upto_region 6 with fail
  rw [HW.out]
  go_wp2_with fail
  refine (falls_any (s : Int) r mu a di _ (b := false) (hid ⟨fun h => Bool.noConfusion h, fun h => by have := hlt.out; omega⟩)).mono ?_
  rintro e w2 ⟨rfl, hx⟩
  have E2 := hid (E1.out.step hx)
  replace HEN := hid (HEN.out.of_ext hx)
  replace HST := hid (HST.out.ext hx)
  replace HT := hid (HT.out.ext hx)
  replace RP := hid (RP.out.ext hx)
  have HSB := hid (Nat.le_trans (show w.heap.size + 1 ≤ w1.heap.size by rw [HSZ.out]; exact Nat.le_refl _) hx.size)
  clear hx p0 p1 p2 p3 p4
  have l3 : BF < base := HL.out.2.2.1
  have l4 : BL < base := HL.out.2.2.2.1
  have l5 : BW < base := HL.out.2.2.2.2.1
  have l8 : BF ≠ BL := HL.out.2.2.2.2.2.2.2.1
  have hk0 := HEN.out.rw_.cell 0
  have hk0 : w2.cell? ⟨BW, 0, none⟩ = some (.int .i64 wh) := hk0
  obtain ⟨p0, p1, p2, p3, p4⟩ := row_facts5 RP.out
  go_wp2_with fail
  refine (stays_any (s : Int) r mu a di wh _ (b := true) (hid ⟨fun _ => hst.out, fun _ => rfl⟩)).mono ?_
  rintro e w3 ⟨rfl, hx⟩
  replace E2 := hid (E2.out.step hx)
  replace HEN := hid (HEN.out.of_ext hx)
  replace HST := hid (HST.out.ext hx)
  replace RP := hid (RP.out.ext hx)
  clear hx p0 p1 p2 p3 p4 hk0
  have hbs : base ≤ w3.heap.size := HEN.out.hb
  have HOF := hid HST.out.2.2.1
  have HOL := hid HST.out.2.2.2
  have q0 : w3.cell? ⟨BL, 0, none⟩ = some vL := HST.out.2.1.cell 0
  have q1 := HST.out.2.1.free 0
  have k0 : w3.cell? ⟨BW, 0, none⟩ = some (.int .i64 wh) := HEN.out.rw_.cell 0
  obtain ⟨p0, p1, p2, p3, p4⟩ := row_facts5 RP.out
  have hcur : Ext w3 w3 := Ext.rfl' _
  have HN1 := hid hN
  go_upto_region 9 with fail
  go_region_law (first
    | (refine step_append_lies _ (by rfl) _ _ _ (by rfl) base 3 i0 (.int .i64 0) 1 8 Tryz.underlying22 hi hz0 hz1 hz2 rfl (by omega) vL ls.length (Is ls) (by rfl) (own_at HOL.out (fun g hg => hcur.block g (HOL.out.lt g hg).2)) ⟨bl, ol, none⟩ N cl (Is (belowL r di N)) (by rfl) (by simp [belowL_len]) (rd_news HRL.out) (by simp [Value.oneCell']) hN (by have : maxLen = 9223372036854775807 := rfl; omega) (by omega) (by have := hcur.size; omega) _ rfl ?_; intro g' cap' w8 hown8 hgrow hat hlt8; have rf8 := (HST.out.2.1.ext hcur).grownR hgrow (fun kk hkk => by have := (HOL.out.lt kk hkk).1; omega); have q0 : w8.cell? ⟨BL, 0, none⟩ = some vL := rf8.cell 0; have q1 := rf8.free 0)
    | (go_simp; go_at_call 59; refine (restsBelow_any (s : Int) r mu a di wh _ hr0 (by omega) hdi hw6).mono ?_; rintro e w10 ⟨L, nn, cl, rfl, hn6, hrl, hia, hib, hx⟩; have hcur := Ext.step hcur (by first | exact hx | exact Ext.undrew hx | exact Ext.step ((Ext.rfl' _).alloc' _) hx | exact Ext.step ((Ext.rfl' _).drew'.alloc' _) hx); (rw [hwh.out] at hia hib); (obtain rfl : N = nn := (below_n hr0 hr1 hia hib).symm); (obtain ⟨bl, ol, rfl, -, -⟩ := hrl.atI (k := 0) (by rw [belowL_len]; exact HN1.out)); have HRL := hid hrl; clear hia hib hrl; have q0 : w10.cell? ⟨BL, 0, none⟩ = some vL := (HST.out.2.1.ext hcur).cell 0; have q1 := (HST.out.2.1.ext hcur).free 0))
  all_goals
    have HF : Hid (∀ WF, WF = w8.setCell ⟨BL, 0, none⟩ (.slice (some ⟨g', 0, none⟩) (ls.length + N) cap') → VisPost base BF BL f w vF vL ps (ls ++ belowL r di N) (.returned (.tuple #[])) WF) := hid (by
      rintro WF rfl
      have hs10 := (E2.out.step hcur).size
      have hbk : ∀ j, j < w10.heap.size → j ≠ BL → vL.ownBlock ≠ some j → (w8.setCell ⟨BL, 0, none⟩ (.slice (some ⟨g', 0, none⟩) (ls.length + N) cap')).heap[j]? = w10.heap[j]? := fun j h1 h2 h3 => by
        rw [Below.heap_setCell _ _ _ j (by exact h2), hgrow.block j h1 (fun e => h3 e.symm)]
      refine ⟨rfl, vF, .slice (some ⟨g', 0, none⟩) (ls.length + N) cap', ⟨?_, rf8.set 0 _, ?_, ?_⟩, ?_⟩
      · exact (hbk BF (HST.out.1.ext hcur).lt (by omega) (fun e => by have := (HOL.out.lt BF e).1; omega)).trans (HST.out.1.ext hcur)
      · refine own_at HOF.out (fun g hg => (hbk g (Nat.lt_of_lt_of_le (HOF.out.lt g hg).2 hcur.size) (by have := (HOF.out.lt g hg).1; omega) (fun e => HST.out.apart g hg e)).trans (hcur.block g (HOF.out.lt g hg).2))
      · have h1 : Is (ls ++ belowL r di N) = Is ls ++ Is (belowL r di N) := by simp
        rw [h1, List.length_append, belowL_len]
        exact own_at hown8 (fun g hg => Below.heap_setCell _ _ _ g (by show g ≠ BL; have := (hown8.lt g hg).1; omega))
      · exact ⟨hgrow.os.trans (E2.out.step hcur).os, hgrow.tape.trans (E2.out.step hcur).tape, hgrow.output.trans (E2.out.step hcur).output, Nat.le_trans hs10 (by have := hgrow.size; simp; omega), fun j h1 h2 h3 h4 h5 => (hbk j (by omega) h3 h5).trans ((E2.out.step hcur).block j h1), fun g hg => .inl hg, fun g hg => by
          have hg' : g' = g := by injection hg
          subst hg'
          rcases hat with h6 | h6
          · exact .inl h6
          · right; omega⟩)
    clear hown8 hgrow hat hcur
    go_wp2
    go_end0
    exact HF.out _ rfl
end Go.Proofs.YtimokpcopeldfaaGreatDoor
