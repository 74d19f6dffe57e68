/- Joined texts: the reference's Of, at negative numbers; numbers whose difference is a multiple of a power of the modulus: plain mathematics; the reference of layer 2: Rest, Step; word.lineOfNoStep, lineOfStep, the function literal of Line; the function literal of word.Line. -/
import Derived.Test.YtimokpcopeldfaaGreatDoorJG08
import Derived.IntWalk
import Derived.Test.YtimokpcopeldfaaGreatDoorJG10
import Derived.Test.YtimokpcopeldfaaGreatDoorJG05
import Derived.Test.YtimokpcopeldfaaGreatDoorJG11
import Derived.Test.YtimokpcopeldfaaGreatDoorJG07
import Derived.Test.YtimokpcopeldfaaGreatDoorJG13
import Derived.Deep.RegionHeld3
import Derived.Deep.DeepCutAuto
import Derived.Test.YtimokpcopeldfaaGreatDoorJG06
set_option linter.unusedSimpArgs false
set_option linter.unusedVariables false
/- the reference's Of, at negative numbers -/
namespace Go.Proofs.YtimokpcopeldfaaGreatDoor
open Go.RowKit
set_option maxRecDepth 100000 in
set_option maxHeartbeats 3200000 in
theorem of_neg (n : Nat) (w : World) (hn : n < 1000000000000000000) (hp : 0 < n) :
    Calls Tryz.prog 29 #[.int .i64 (-(n : Int))] w (RefPost (-(n : Int)) w) := by
  obtain ⟨i0, hi, hz0, hz1, hz2⟩ := info_parts infoI
  have hlt : -(n : Int) < 0 := by omega
  have hwr : IntKind.i64.wrap (n : Int) = (n : Int) := IntWalk.i64_in _ (by omega)
  go_enter Tryz.func29, Tryz.ntmps29
  go_wp2_with fail
  generalize hW0 : w.alloc (.cells #[.bool false, .slice none 0 0] 47) = W0
  have hE : Ext w W0 := by rw [← hW0]; exact (Ext.rfl' w).alloc' _
  have hR : Row W0 w.heap.size 47 [.bool false, .slice none 0 0] := by rw [← hW0]; exact Row.new w _ _
  clear hW0
  go_loopw [0, 4] (fun z v wr => ∃ (j q : Nat) (xs : List Nat) (A : Option Addr) (c : Nat), v = .slice A j c ∧ z = .int .i64 (q : Int) ∧ q ≤ n ∧ wr.ownsRow W0.heap.size 3 1 (.slice A j c) j (I64s xs) ∧ Ext W0 wr ∧ W0.heap.size ≤ wr.heap.size ∧
      Hid (xs.length = j ∧ K.lv xs + 1000000000 ^ j * q = n ∧ (∀ x ∈ xs, x < 1000000000) ∧ (0 < q ∨ xs.getLast? ≠ some 0) ∧ j ≤ 2)) (fun z _ _ => (intOf z).toNat)
  case atStart =>
    exact ⟨0, n, [], none, 0, rfl, rfl, Nat.le_refl _, World.ownsRow_nil _ _ _ _, Ext.rfl' _, Nat.le_refl _, hid ⟨rfl, by simp [K.lv], by simp, by simp, by omega⟩⟩
  case round =>
    obtain ⟨j, q, xs, A, c, rfl, rfl, hqn, hown, hex, hsz, hxs⟩ := hrel
    have HOWN := hid hown
    clear hown
    by_cases hq : 0 < q
    · have hj : j < 2 := by
        have h1 := hxs.out.2.1
        have h2 := hxs.out.2.2.2.2
        rcases Nat.lt_or_ge j 2 with h | h
        · exact h
        · obtain rfl : j = 2 := by omega
          simp at h1
          omega
      go_wp2_with (at_builtin; refine wpList_append_own _ rfl _ _ 22 rfl W0.heap.size 3 i0 (.int .i64 0) 1 8 Tryz.underlying22 hi hz0 hz1 hz2 rfl (by decide) _ _ _ rfl (HOWN.out.alloc _) ⟨wr.heap.size, 0, none⟩ 1 1 [.int .i64 ((q : Int) % 1000000000)] rfl rfl (cell_one_new _ _ _) (fun u hu => by simp at hu; subst hu; rfl) ?c1 ?c2 ?c3 ?_)
      case c1 => unfold maxLen; omega
      case c2 => omega
      case c3 => first | omega | (simp; omega)
      intro v' w1 hown' hgrow hnil
      obtain ⟨g, cap, sp, rfl, hg, hc1, hc2, hrow1, hvl, hsl⟩ := own_form hown' (by omega)
      have hex' : Ext W0 w1 := (hex.alloc' _).grown hgrow (by simp; omega) (by
        intro k hk
        exact (HOWN.out.lt k hk).1)
      have hsz' : W0.heap.size ≤ w1.heap.size := hex'.size
      have HO := hid hown'
      clear hown' hgrow hnil hrow1 hvl hsl hg hc1 hc2
      go_wp2
      go_roundw
      case rel =>
        have hx := hxs.out
        refine ⟨j + 1, q / 1000000000, xs ++ [q % 1000000000], _, _, rfl, by simp, by omega, by simpa using HO.out, hex', hsz', hid ⟨by simp [hx.1], ?_, ?_, ?_, by omega⟩⟩
        · rw [lv_snoc, hx.1, ← hx.2.1, Nat.pow_succ, Nat.mul_assoc, Nat.add_assoc, ← Nat.mul_add]
          congr 2
          omega
        · intro y hy
          rcases List.mem_append.1 hy with h | h
          · exact hx.2.2.1 y h
          · obtain rfl : y = q % 1000000000 := by simpa using h
            omega
        · by_cases h0 : 0 < q / 1000000000
          · exact .inl h0
          · refine .inr ?_
            rw [List.getLast?_append]
            simp
            omega
      case measure => simp [intOf]; omega
    · have hjc : j ≤ c := by
        rcases HOWN.out.2 with ⟨h, h0⟩ | ⟨g, cap, cur, h, hg, hh, hc, _⟩
        · injection h with h1 h2 h3; omega
        · injection h with h1 h2 h3; omega
      have hx := hxs.out
      have hrd := Rd.of_own HOWN.out
      have hr := hR.ext hex
      have c0 : wr.cell? ⟨w.heap.size, 0, none⟩ = some (.bool false) := hr.cell 0
      have c1 : wr.cell? ⟨w.heap.size, 1, none⟩ = some (.slice none 0 0) := hr.cell 1
      have f0 := hr.free 0
      have f1 := hr.free 1
      obtain rfl : q = 0 := by omega
      have hfin : RefPost (-(n : Int)) w (.returned (.agg #[.bool true, .slice A j c])) ((wr.setCell ⟨w.heap.size, 0, none⟩ (.bool true)).setCell ⟨w.heap.size, 1, none⟩ (.slice A j c)) := by
        refine ⟨_, rfl, ⟨A, j, c, xs, true, rfl, ?_, hx.1, hjc, ?_, ⟨hx.2.2.1, hx.2.2.2.1.resolve_left (by omega)⟩, ?_⟩, ((hE.step hex).set' (Nat.le_refl _) _).set' (Nat.le_refl _) _⟩
        · refine hid ?_
          symm
          exact decide_eq_true (by omega)
        · refine Rd.two hrd ?_ hr
          intro u hu
          obtain ⟨y, _, rfl⟩ := List.mem_map.1 hu
          exact ⟨_, _, rfl⟩
        · rw [Int.natAbs_neg, Int.natAbs_natCast, ← hx.2.1]; simp
      have HF := hid hfin
      clear hfin hx hrd hr hjc
      go_wp2
      refine bodyPost_ret (v := .agg #[.bool true, .slice A j c]) (by simp [results, Tryz.results29, go_sem, c0, c1]) rfl HF.out
/-- Of, at every number of this size -/
theorem of_any (i : Int) (w : World) (hn : i.natAbs < 1000000000000000000) : Calls Tryz.prog 29 #[.int .i64 i] w (RefPost i w) := by
  rcases Int.lt_or_le i 0 with h | h
  · obtain ⟨n, rfl⟩ : ∃ n : Nat, i = -(n : Int) := ⟨i.natAbs, by omega⟩
    exact of_neg n w (by omega) (by omega)
  · obtain ⟨n, rfl⟩ : ∃ n : Nat, i = (n : Int) := ⟨i.natAbs, by omega⟩
    exact of_nat n w (by omega)
end Go.Proofs.YtimokpcopeldfaaGreatDoor
/- numbers whose difference is a multiple of a power of the modulus: plain mathematics -/
namespace Go.Proofs.YtimokpcopeldfaaGreatDoor
/-- the number after some steps, whatever its size -/
def orbN (m : Int) (us ad : List Int) : Nat → Int → Int
  | 0, x => x
  | k + 1, x => stepI m us ad (orbN m us ad k x)
theorem orbN_cons (m : Int) (us ad : List Int) : ∀ (k : Nat) (x : Int), orbN m us ad (k + 1) x = orbN m us ad k (stepI m us ad x)
  | 0, x => rfl
  | k + 1, x => by
    rw [orbN, orbN_cons m us ad k x]
    rfl
/-- the factor of the rest of a number -/
def mulAt (m : Int) (us : List Int) (x : Int) : Int := us.getD (rOf m x) 0
/-- the product of the factors of the first rests -/
def growN (m : Int) (us ad : List Int) : Nat → Int → Int
  | 0, _ => 1
  | k + 1, x => growN m us ad k x * mulAt m us (orbN m us ad k x)
theorem seq_orb (m : Int) (us ad : List Int) (k : Nat) : ∀ (x : Int), none ∉ seqO m us ad k x → ∀ j, j < k → (seqO m us ad k x)[j]? = some (some (orbN m us ad (j + 1) x)) := by
  induction k with
  | zero => intro x _ j hj; omega
  | succ k ih =>
    intro x hn j hj
    rw [seqO] at hn ⊢
    by_cases hf : fitsB (stepI m us ad x) = true
    · rw [if_pos hf] at hn ⊢
      cases j with
      | zero => rfl
      | succ j =>
        rw [List.getElem?_cons_succ, ih _ (fun h => hn (List.mem_cons_of_mem _ h)) j (by omega), orbN_cons m us ad (j + 1) x]
    · rw [if_neg hf] at hn
      exact absurd (List.mem_singleton.2 rfl) hn
theorem seq_orb0 {m : Int} {us ad : List Int} {k : Nat} {x : Int} (hn : none ∉ seqO m us ad k x) (j : Nat) (hj : j < k + 1) : (some x :: seqO m us ad k x)[j]? = some (some (orbN m us ad j x)) := by
  cases j with
  | zero => rfl
  | succ j => rw [List.getElem?_cons_succ]; exact seq_orb m us ad k x hn j (by omega)
theorem rOf_shift {m : Int} (x t : Int) : rOf m (x + m * t) = rOf m x := by
  unfold rOf; rw [Int.add_mul_emod_self_left]
theorem stepI_shift {m : Int} {us ad : List Int} (hm : 0 < m) (x t : Int) : stepI m us ad (x + m * t) = stepI m us ad x + mulAt m us x * t := by
  unfold stepI mulAt
  rw [rOf_shift]
  generalize us.getD (rOf m x) 0 = u
  generalize ad.getD (rOf m x) 0 = a
  rw [show u * (x + m * t) + a = (u * x + a) + m * (u * t) by rw [Int.mul_add, Int.mul_left_comm]; omega, Int.add_mul_ediv_left _ _ (by omega)]
theorem alike_orb {m : Int} {us ad : List Int} (hm : 0 < m) (k : Nat) (x D : Int) : ∀ j, j ≤ k → orbN m us ad j (x + D * m ^ k) = orbN m us ad j x + D * growN m us ad j x * m ^ (k - j)
  | 0, _ => by simp [orbN, growN]
  | j + 1, h => by
    have ih := @alike_orb m us ad hm k x D j (by omega)
    have e : k - j = (k - (j + 1)) + 1 := by omega
    rw [orbN, ih, e, Int.pow_succ, orbN, growN]
    generalize m ^ (k - (j + 1)) = q
    generalize growN m us ad j x = g
    generalize orbN m us ad j x = y
    rw [show D * g * (q * m) = m * (D * g * q) by rw [← Int.mul_assoc, Int.mul_comm], stepI_shift hm]
    rw [show D * (g * mulAt m us y) * q = mulAt m us y * (D * g * q) by
      rw [← Int.mul_assoc, Int.mul_comm (D * g) (mulAt m us y), Int.mul_assoc]]
theorem alike_rest {m : Int} {us ad : List Int} (hm : 0 < m) (k : Nat) (x D : Int) (j : Nat) (h : j < k) : orbN m us ad j (x + D * m ^ k) % m = orbN m us ad j x % m := by
  rw [alike_orb hm k x D j (by omega), show k - j = (k - (j + 1)) + 1 by omega, Int.pow_succ]
  generalize m ^ (k - (j + 1)) = q
  rw [show D * growN m us ad j x * (q * m) = m * (D * growN m us ad j x * q) by rw [← Int.mul_assoc, Int.mul_comm], Int.add_mul_emod_self_left]
theorem alike_end {m : Int} {us ad : List Int} (hm : 0 < m) (k : Nat) (x D : Int) : orbN m us ad k (x + D * m ^ k) - orbN m us ad k x = D * growN m us ad k x := by
  rw [alike_orb hm k x D k (Nat.le_refl _), Nat.sub_self, Int.pow_zero, Int.mul_one]
  omega
theorem thousand (k : Nat) : 1000 ^ (3 * k) = TOP k := by
  unfold TOP
  rw [Nat.pow_mul]
theorem thousand_le (k c : Nat) (h : k ≤ 3 * c) : 1000 ^ k ≤ TOP c := by
  rw [← thousand]; exact Nat.pow_le_pow_right (by omega) h
/-- bounds: a number times a thousand as often as there are steps -/
theorem pow_top {D c : Int} (hD : K.fits D) (hc : c.natAbs ≤ 1000) (k : Nat) (hk : k ≤ 1002) : (D * c ^ k).natAbs ≤ BIG := by
  have h1 := fits_top hD
  have h2 : (c ^ k).natAbs ≤ 1000 ^ k := by rw [Int.natAbs_pow]; exact Nat.pow_le_pow_left hc k
  have h3 : 1000 ^ k ≤ TOP 334 := thousand_le k 334 (by omega)
  have h5 : (c ^ k).natAbs ≤ TOP 334 := Nat.le_trans h2 h3
  have h6 : (D * c ^ k).natAbs < TOP (223 + 334) := by
    rw [Int.natAbs_mul, TOP_add]
    calc D.natAbs * (c ^ k).natAbs ≤ D.natAbs * TOP 334 := Nat.mul_le_mul_left _ h5
      _ < TOP 223 * TOP 334 := Nat.mul_lt_mul_of_pos_right h1 (TOP_pos _)
  exact le_big h6 (by omega)
theorem grow_le {m : Int} {us ad : List Int} (hM : mapP m us ad) (x : Int) : ∀ k, (growN m us ad k x).natAbs ≤ 1000 ^ k
  | 0 => by simp [growN]
  | k + 1 => by
    have ih := grow_le hM x k
    have h := rule_at hM (orbN m us ad k x)
    have h2 : (mulAt m us (orbN m us ad k x)).natAbs ≤ 1000 := by
      unfold mulAt
      have h1 := h.1
      have h2 := h.2.1
      omega
    rw [growN, Int.natAbs_mul, Nat.pow_succ]
    exact Nat.mul_le_mul ih h2
theorem grow_top {m : Int} {us ad : List Int} (hM : mapP m us ad) {D : Int} (hD : K.fits D) (x : Int) (k : Nat) (hk : k ≤ 1002) : (D * growN m us ad k x).natAbs ≤ BIG := by
  have h1 := fits_top hD
  have h2 := grow_le hM x k
  have h3 : 1000 ^ k ≤ TOP 334 := thousand_le k 334 (by omega)
  have h5 : (growN m us ad k x).natAbs ≤ TOP 334 := Nat.le_trans h2 h3
  have h6 : (D * growN m us ad k x).natAbs < TOP (223 + 334) := by
    rw [Int.natAbs_mul, TOP_add]
    calc D.natAbs * (growN m us ad k x).natAbs ≤ D.natAbs * TOP 334 := Nat.mul_le_mul_left _ h5
      _ < TOP 223 * TOP 334 := Nat.mul_lt_mul_of_pos_right h1 (TOP_pos _)
  exact le_big h6 (by omega)
end Go.Proofs.YtimokpcopeldfaaGreatDoor
/- the reference of layer 2: Rest, Step -/
namespace Go.Proofs.YtimokpcopeldfaaGreatDoor
open Go.RowKit
set_option maxRecDepth 100000 in
set_option maxHeartbeats 800000 in
theorem rest2_any (v vn : Value) (m x : Int) (us ad : List Int) (w : World) (hv : MapV w v m us ad) (hn : RefV w vn x) (lx : x.natAbs ≤ BIG) (h1 : 1 ≤ m) (h2 : m ≤ 2147483647) :
    Calls Tryz.prog 30 #[v, vn] w (fun e w' => e = .returned (.int .i64 (x % m)) ∧ Ext w w') := by
  obtain ⟨d, rfl⟩ : ∃ d : Nat, m = (d : Int) := ⟨m.toNat, by omega⟩
  obtain ⟨A, n, cc, B, n2, d2, rfl, -⟩ := hv
  have hn' := hn
  obtain ⟨A1, k1, c1, xs1, b1, rfl, -⟩ := hn
  have hr1 : Row ((w.alloc (.cells #[.int .i64 (d : Int), .slice A n cc, .slice B n2 d2] 24)).alloc (.cells #[.bool b1, .slice A1 k1 c1] 47)) w.heap.size 24 [.int .i64 (d : Int), .slice A n cc, .slice B n2 d2] := (Row.new w _ _).alloc _
  have hr2 : Row ((w.alloc (.cells #[.int .i64 (d : Int), .slice A n cc, .slice B n2 d2] 24)).alloc (.cells #[.bool b1, .slice A1 k1 c1] 47)) (w.heap.size + 1) 47 [.bool b1, .slice A1 k1 c1] := by
    have := Row.new (w.alloc (.cells #[.int .i64 (d : Int), .slice A n cc, .slice B n2 d2] 24)) 47 [.bool b1, .slice A1 k1 c1]
    rwa [World.size_alloc] at this
  have hx : Ext w ((w.alloc (.cells #[.int .i64 (d : Int), .slice A n cc, .slice B n2 d2] 24)).alloc (.cells #[.bool b1, .slice A1 k1 c1] 47)) := ((Ext.rfl' w).alloc' _).alloc' _
  obtain ⟨W2, hW2⟩ : ∃ W2, ((w.alloc (.cells #[.int .i64 (d : Int), .slice A n cc, .slice B n2 d2] 24)).alloc (.cells #[.bool b1, .slice A1 k1 c1] 47)) = W2 := ⟨_, rfl⟩
  rw [hW2] at hr1 hr2 hx
  have HW2 := hid hW2
  have HX := hid hx
  have HN := hid (hn'.ext hx)
  obtain ⟨f0, f1, f2, -, -, -⟩ := row_facts3 hr1
  obtain ⟨g0, g1, -, -⟩ := row_facts hr2
  clear hW2 hr1 hr2 hx hn'
  go_enter Tryz.func30, Tryz.ntmps30
  go_upto_region 1 with fail
  rw [HW2.out]
  go_wp2_with fail
  refine (rpart_any _ x d W2 HN.out lx (by omega) (by omega)).mono ?_
  rintro e w3 ⟨v3, rfl, hv3, hx3⟩
  obtain ⟨A3, k3, c3, xs3, b3, rfl, -⟩ := hv3
  have HX3 := hid (HX.out.step hx3)
  clear f0 f1 f2 g0 g1 hx3
  go_wp2
  go_ret
  exact ⟨rfl, HX3.out.alloc' _⟩
theorem step_big {u a x : Int} (hu : 1 ≤ u) (hu2 : u ≤ 999) (ha : -999999 ≤ a) (ha2 : a ≤ 999999) (hx : K.fits x) : x.natAbs ≤ BIG ∧ (u * x).natAbs ≤ BIG ∧ (u * x + a).natAbs ≤ BIG := by
  have h := fits_top hx
  have h2 : TOP 224 = TOP 1 * TOP 223 := TOP_add 1 223
  have h1 : TOP 1 = 1000000000 := by decide
  have hp := TOP_pos 223
  have h3 : (u * x).natAbs = u.natAbs * x.natAbs := Int.natAbs_mul u x
  have h4 : u.natAbs * x.natAbs ≤ 999 * x.natAbs := Nat.mul_le_mul_right _ (by omega)
  have h5 : (u * x).natAbs < TOP 224 ∧ (u * x + a).natAbs < TOP 224 := by
    rw [h2, h1]
    generalize TOP 223 = t at *
    generalize u * x = y at *
    omega
  exact ⟨fits_big hx, le_big h5.1 (by omega), le_big h5.2 (by omega)⟩
theorem small_big {u : Int} (h : u.natAbs < 1000000000) : u.natAbs ≤ BIG := le_big (a := 1) (by rw [show TOP 1 = 1000000000 by decide]; exact h) (by omega)
/-- a box that was made on the way -/
def NB (B : Nat) (w : World) (g : Nat) : Prop := B ≤ g ∧ Row w g 47 [.bool false, .slice none 0 0]
theorem NB.new {B : Nat} {w : World} (h : B ≤ w.heap.size) : NB B (w.alloc (.cells #[.bool false, .slice none 0 0] 47)) w.heap.size := ⟨h, Row.new w _ [.bool false, .slice none 0 0]⟩
theorem NB.newD {B : Nat} {w : World} (h : B ≤ w.heap.size) : NB B (w.drew.alloc (.cells #[.bool false, .slice none 0 0] 47)) w.heap.size := ⟨h, Row.new w.drew _ [.bool false, .slice none 0 0]⟩
theorem NB.ext {B g : Nat} {w w' : World} (h : NB B w g) (e : Ext w w') : NB B w' g := ⟨h.1, h.2.ext e⟩
theorem RefPost.put {w w3 : World} {q : Int} {b : Bool} {A : Option Addr} {k c H : Nat} {t : TypeId} (r1 : Row w3 H t [.bool false, .slice none 0 0]) (hw : Ext w w3) (hH : w.heap.size ≤ H) (hv : RefV w3 (.agg #[.bool b, .slice A k c]) q) :
    RefPost q w (.returned (.agg #[.bool b, .slice A k c])) ((w3.setCell ⟨H, 0, none⟩ (.bool b)).setCell ⟨H, 1, none⟩ (.slice A k c)) :=
  ⟨_, rfl, hv.box r1, (hw.set' (by show _ ≤ H; omega) _).set' (by show _ ≤ H; omega) _⟩
set_option maxRecDepth 100000 in
set_option maxHeartbeats 12800000 in
theorem step2_l (ba oa bb ob n cc n2 d2 d r : Nat) (vn : Value) (u a x : Int) (us ad : List Int) (w : World) (hra : Rd w (some ⟨ba, oa, none⟩) (Is us)) (hrb : Rd w (some ⟨bb, ob, none⟩) (Is ad)) (hn1 : us.length = n) (hn2 : ad.length = n2)
    (hmv : MapV w (.agg #[.int .i64 (d : Int), .slice (some ⟨ba, oa, none⟩) n cc, .slice (some ⟨bb, ob, none⟩) n2 d2]) (d : Int) us ad) (hn : RefV w vn x) (hd : 2 ≤ d) (hd2 : d ≤ 12) (hr : Hid ((r : Int) = x % (d : Int))) (hrn : r < n) (hrn2 : r < n2) (hu : Hid (us.getD r 0 = u)) (ha : Hid (ad.getD r 0 = a)) (B : Hid (x.natAbs ≤ BIG ∧ (u * x).natAbs ≤ BIG ∧ (u * x + a).natAbs ≤ BIG))
    (hu1 : 1 ≤ u) (hu2 : u ≤ 999) (ha1 : -999999 ≤ a) (ha2 : a ≤ 999999) :
    Calls Tryz.prog 22 #[.agg #[.int .i64 (d : Int), .slice (some ⟨ba, oa, none⟩) n cc, .slice (some ⟨bb, ob, none⟩) n2 d2], vn] w (RefPost ((u * x + a) / (d : Int)) w) := by
  have hn' := hn
  obtain ⟨A1, k1, c1, xs1, b1, rfl, -⟩ := hn
  have hx : Ext w (((w.alloc (.cells #[.int .i64 (d : Int), .slice (some ⟨ba, oa, none⟩) n cc, .slice (some ⟨bb, ob, none⟩) n2 d2] 24)).alloc (.cells #[.bool b1, .slice A1 k1 c1] 47)).alloc (.cells #[.bool false, .slice none 0 0] 47)) := (((Ext.rfl' w).alloc' _).alloc' _).alloc' _
  have hr1 : Row (((w.alloc (.cells #[.int .i64 (d : Int), .slice (some ⟨ba, oa, none⟩) n cc, .slice (some ⟨bb, ob, none⟩) n2 d2] 24)).alloc (.cells #[.bool b1, .slice A1 k1 c1] 47)).alloc (.cells #[.bool false, .slice none 0 0] 47)) w.heap.size 24 [.int .i64 (d : Int), .slice (some ⟨ba, oa, none⟩) n cc, .slice (some ⟨bb, ob, none⟩) n2 d2] := ((Row.new w _ _).alloc _).alloc _
  have hr2 : Row (((w.alloc (.cells #[.int .i64 (d : Int), .slice (some ⟨ba, oa, none⟩) n cc, .slice (some ⟨bb, ob, none⟩) n2 d2] 24)).alloc (.cells #[.bool b1, .slice A1 k1 c1] 47)).alloc (.cells #[.bool false, .slice none 0 0] 47)) (w.heap.size + 1) 47 [.bool b1, .slice A1 k1 c1] := by
    have := (Row.new (w.alloc (.cells #[.int .i64 (d : Int), .slice (some ⟨ba, oa, none⟩) n cc, .slice (some ⟨bb, ob, none⟩) n2 d2] 24)) 47 [.bool b1, .slice A1 k1 c1]).alloc (.cells #[.bool false, .slice none 0 0] 47)
    rwa [World.size_alloc] at this
  have hr3 : Row (((w.alloc (.cells #[.int .i64 (d : Int), .slice (some ⟨ba, oa, none⟩) n cc, .slice (some ⟨bb, ob, none⟩) n2 d2] 24)).alloc (.cells #[.bool b1, .slice A1 k1 c1] 47)).alloc (.cells #[.bool false, .slice none 0 0] 47)) (w.heap.size + 1 + 1) 47 [.bool false, .slice none 0 0] := by
    have := Row.new ((w.alloc (.cells #[.int .i64 (d : Int), .slice (some ⟨ba, oa, none⟩) n cc, .slice (some ⟨bb, ob, none⟩) n2 d2] 24)).alloc (.cells #[.bool b1, .slice A1 k1 c1] 47)) 47 [.bool false, .slice none 0 0]
    rwa [World.size_alloc, World.size_alloc] at this
  have hz3 : (((w.alloc (.cells #[.int .i64 (d : Int), .slice (some ⟨ba, oa, none⟩) n cc, .slice (some ⟨bb, ob, none⟩) n2 d2] 24)).alloc (.cells #[.bool b1, .slice A1 k1 c1] 47)).alloc (.cells #[.bool false, .slice none 0 0] 47)).heap.size = w.heap.size + 1 + 1 + 1 := by simp
  obtain ⟨W3, hW3⟩ : ∃ W3, (((w.alloc (.cells #[.int .i64 (d : Int), .slice (some ⟨ba, oa, none⟩) n cc, .slice (some ⟨bb, ob, none⟩) n2 d2] 24)).alloc (.cells #[.bool b1, .slice A1 k1 c1] 47)).alloc (.cells #[.bool false, .slice none 0 0] 47)) = W3 := ⟨_, rfl⟩
  rw [hW3] at hx hr1 hr2 hr3 hz3
  have HW3 := hid hW3
  have HX := hid hx
  have HN := hid (hn'.ext hx)
  have HM := hid (hmv.ext hx)
  have H1 := hid hr1
  have H2 := hid hr2
  have H3 := hid hr3
  have HZ3 := hid hz3
  have HRA := hid (hra.ext hx)
  have HRB := hid (hrb.ext hx)
  have HL1 := hid hn1
  have HL2 := hid hn2
  have HS : Hid (∀ W', Ext W3 W' → W'.cell? ⟨w.heap.size, 0, none⟩ = some (.int .i64 (d : Int)) ∧ W'.cell? ⟨w.heap.size, 1, none⟩ = some (.slice (some ⟨ba, oa, none⟩) n cc) ∧ W'.cell? ⟨w.heap.size, 2, none⟩ = some (.slice (some ⟨bb, ob, none⟩) n2 d2) ∧ W'.cell? ⟨w.heap.size + 1, 0, none⟩ = some (.bool b1) ∧ W'.cell? ⟨w.heap.size + 1, 1, none⟩ = some (.slice A1 k1 c1) ∧ W'.cell? ⟨ba, oa + r, none⟩ = some (.int .i64 u) ∧ W'.cell? ⟨bb, ob + r, none⟩ = some (.int .i64 a)) := hid (by
    intro W' e
    obtain ⟨p0, p1, p2, -, -, -⟩ := row_facts3 (H1.out.ext e)
    obtain ⟨q0, q1, -, -⟩ := row_facts (H2.out.ext e)
    obtain ⟨b2, o2, e2, -, hc1⟩ := (HRA.out.ext e).atI (k := r) (by rw [HL1.out]; exact hrn)
    obtain ⟨b3, o3, e3, -, hc2⟩ := (HRB.out.ext e).atI (k := r) (by rw [HL2.out]; exact hrn2)
    cases e2
    cases e3
    rw [hu.out] at hc1
    rw [ha.out] at hc2
    exact ⟨p0, p1, p2, q0, q1, hc1, hc2⟩)
  have HUB := hid (small_big (show u.natAbs < 1000000000 by omega))
  have HAB := hid (small_big (show a.natAbs < 1000000000 by omega))
  have HBU := hid (show u.natAbs < 1000000000000000000 by omega)
  have HBA := hid (show a.natAbs < 1000000000000000000 by omega)
  have i0 : (0 : Int) ≤ (r : Int) := by omega
  have i1 : (r : Int) < (n : Int) := by omega
  have i2 : (r : Int) < (n2 : Int) := by omega
  clear hW3 hx hr1 hr2 hr3 hn' hmv hra hrb hn1 hn2 hu1 hu2 ha1 ha2 hz3
  obtain ⟨f0, f1, f2, g0, g1, -, -⟩ := HS.out _ (Ext.rfl' _)
  go_enter Tryz.func22, Tryz.ntmps22
  go_upto_region 1 with fail
  rw [HW3.out]
  go_wp2_with fail
  refine (rest2_any _ _ (d : Int) x us ad W3 HM.out HN.out B.out.1 (by omega) (by omega)).mono ?_
  rintro e w4 ⟨rfl, hx4⟩
  rw [← hr.out]
  have hcur : Ext W3 w4 := hx4
  clear f0 f1 f2 g0 g1 hx4
  go_upto_region 2 with fail
  go_cut [6, 7] (fun s6 s7 wx => ∃ (g : Nat) (b : Bool) (P : Option Addr) (k c : Nat), s6 = .pointer (some ⟨g, 0, none⟩) ∧ s7 = .int .i64 ((u * x + a) % (d : Int)) ∧ Row wx g 47 [.bool b, .slice P k c] ∧ RefV wx (.agg #[.bool b, .slice P k c]) ((u * x + a) / (d : Int)) ∧ Ext W3 wx)
  case first =>
    go_region_held3 (fun W' => W'.cell? ⟨w.heap.size, 0, none⟩ = some (.int .i64 (d : Int)) ∧ W'.cell? ⟨w.heap.size, 1, none⟩ = some (.slice (some ⟨ba, oa, none⟩) n cc) ∧ W'.cell? ⟨w.heap.size, 2, none⟩ = some (.slice (some ⟨bb, ob, none⟩) n2 d2) ∧ W'.cell? ⟨w.heap.size + 1, 0, none⟩ = some (.bool b1) ∧ W'.cell? ⟨w.heap.size + 1, 1, none⟩ = some (.slice A1 k1 c1) ∧ W'.cell? ⟨ba, oa + r, none⟩ = some (.int .i64 u) ∧ W'.cell? ⟨bb, ob + r, none⟩ = some (.int .i64 a))
      (first | exact HS.out _ hcur | exact HS.out _ hcur.drew' | exact HS.out _ (hcur.alloc' _) | exact HS.out _ (hcur.drew'.alloc' _) | exact HS.out _ ((hcur.set' HB2.out.1 _).set' HB2.out.1 _) | go_keep)
      (first
        | (go_at_call_of 29 (Value.int IntKind.i64 u); refine (of_any u _ HBU.out).mono ?_; rintro e w6 ⟨v6, rfl, hv6, hx⟩; (first | have HB2 := hid (HB2.out.ext hx) | have HB2 := hid ((NB.new hcur.size).ext hx) | have HB2 := hid ((NB.newD hcur.size).ext hx) | skip); have hcur := Ext.step hcur (by first | exact hx | exact Ext.undrew hx | exact Ext.step ((Ext.rfl' _).alloc' _) hx | exact Ext.step ((Ext.rfl' _).drew'.alloc' _) hx); have HV6 := hid hv6; obtain ⟨A6, k6, c6, xs6, b6, rfl, -⟩ := hv6; (first | (have hyy := row_facts HB2.out.2; obtain ⟨y0, y1, y2, y3⟩ := hyy) | skip))
        | (go_at_call 31; refine (rmul_any _ _ u x _ (HV6.out.ext ?_) (HN.out.ext ?_) HUB.out B.out.1).mono ?_; (first | exact Ext.rfl' _ | exact (Ext.rfl' _).drew' | exact (Ext.rfl' _).alloc' _ | exact (Ext.rfl' _).drew'.alloc' _); (first | exact hcur | exact hcur.drew' | exact hcur.alloc' _ | exact hcur.drew'.alloc' _ | exact (hcur.alloc' _).drew'); rintro e w7 ⟨v7, rfl, hv7, hx⟩; (first | have HB2 := hid (HB2.out.ext hx) | have HB2 := hid ((NB.new hcur.size).ext hx) | have HB2 := hid ((NB.newD hcur.size).ext hx) | skip); have hcur := Ext.step hcur (by first | exact hx | exact Ext.undrew hx | exact Ext.step ((Ext.rfl' _).alloc' _) hx | exact Ext.step ((Ext.rfl' _).drew'.alloc' _) hx); have HV7 := hid hv7; obtain ⟨A7, k7, c7, xs7, b7, rfl, -⟩ := hv7; (first | (have hyy := row_facts HB2.out.2; obtain ⟨y0, y1, y2, y3⟩ := hyy) | skip))
        | (go_at_call_of 29 (Value.int IntKind.i64 a); refine (of_any a _ HBA.out).mono ?_; rintro e w8 ⟨v8, rfl, hv8, hx⟩; (first | have HB2 := hid (HB2.out.ext hx) | have HB2 := hid ((NB.new hcur.size).ext hx) | have HB2 := hid ((NB.newD hcur.size).ext hx) | skip); have HV7 := hid (by first | exact HV7.out.ext hx | exact HV7.out.ext (Ext.undrew hx) | exact HV7.out.ext (Ext.step ((Ext.rfl' _).alloc' _) hx)); have hcur := Ext.step hcur (by first | exact hx | exact Ext.undrew hx | exact Ext.step ((Ext.rfl' _).alloc' _) hx | exact Ext.step ((Ext.rfl' _).drew'.alloc' _) hx); have HV8 := hid hv8; obtain ⟨A8, k8, c8, xs8, b8, rfl, -⟩ := hv8; (first | (have hyy := row_facts HB2.out.2; obtain ⟨y0, y1, y2, y3⟩ := hyy) | skip))
        | (go_at_call 32; refine (radd_any _ _ (u * x) a _ (HV7.out.ext ?_) (HV8.out.ext ?_) B.out.2.1 HAB.out).mono ?_; (first | exact Ext.rfl' _ | exact (Ext.rfl' _).drew' | exact (Ext.rfl' _).alloc' _ | exact (Ext.rfl' _).drew'.alloc' _); (first | exact Ext.rfl' _ | exact (Ext.rfl' _).drew' | exact (Ext.rfl' _).alloc' _ | exact (Ext.rfl' _).drew'.alloc' _); rintro e w9 ⟨v9, rfl, hv9, hx⟩; (first | have HB2 := hid (HB2.out.ext hx) | have HB2 := hid ((NB.new hcur.size).ext hx) | have HB2 := hid ((NB.newD hcur.size).ext hx) | skip); have hcur := Ext.step hcur (by first | exact hx | exact Ext.undrew hx | exact Ext.step ((Ext.rfl' _).alloc' _) hx | exact Ext.step ((Ext.rfl' _).drew'.alloc' _) hx); have HV9 := hid hv9; obtain ⟨A9, k9, c9, xs9, b9, rfl, -⟩ := hv9; (first | (have hyy := row_facts HB2.out.2; obtain ⟨y0, y1, y2, y3⟩ := hyy) | skip))
        | (go_at_call 27; refine (rpart_any _ (u * x + a) d _ (HV9.out.ext ?_) B.out.2.2 (by omega) (by omega)).mono ?_; (first | exact Ext.rfl' _ | exact (Ext.rfl' _).drew' | exact (Ext.rfl' _).alloc' _ | exact (Ext.rfl' _).drew'.alloc' _); rintro e w10 ⟨v10, rfl, hv10, hx⟩; (first | have HB2 := hid (HB2.out.ext hx) | have HB2 := hid ((NB.new hcur.size).ext hx) | have HB2 := hid ((NB.newD hcur.size).ext hx) | skip); have hcur := Ext.step hcur (by first | exact hx | exact Ext.undrew hx | exact Ext.step ((Ext.rfl' _).alloc' _) hx | exact Ext.step ((Ext.rfl' _).drew'.alloc' _) hx); have HV10 := hid hv10; obtain ⟨A10, k10, c10, xs10, b10, rfl, -⟩ := hv10; (first | (have hyy := row_facts HB2.out.2; obtain ⟨y0, y1, y2, y3⟩ := hyy) | skip)))
    all_goals
      go_wp2_with fail
      go_meet
      first
        | exact ⟨_, b10, A10, k10, c10, rfl, rfl, (HB2.out.2.set 0 _).set 1 _, HV10.out.box HB2.out.2, (hcur.set' HB2.out.1 _).set' HB2.out.1 _⟩
        | exact ⟨_, b10, A10, k10, c10, rfl, rfl, Row.new _ _ [.bool b10, .slice A10 k10 c10], HV10.out.ext ((Ext.rfl' _).alloc' _), hcur.alloc' _⟩
  case rest =>
    obtain ⟨g, b, P, k, c, rfl, rfl, hrow, hv, hex⟩ := hcut
    have hr3 := H3.out.ext hex
    have HF := hid (RefPost.put hr3 (HX.out.step hex) (by omega) hv)
    obtain ⟨t0, t1, -, -⟩ := row_facts hrow
    obtain ⟨z0, z1, z2, z3⟩ := row_facts hr3
    clear hr3 hv hrow hex
    go_wp2
    refine bodyPost_ret (v := .agg #[.bool b, .slice P k c]) (by simp [results, Tryz.results22, go_sem, z0, z1]) rfl HF.out
set_option maxRecDepth 100000 in
theorem step2_any (v vn : Value) (m x : Int) (us ad : List Int) (w : World) (hv : MapV w v m us ad) (hM : Hid (mapP m us ad)) (hn : RefV w vn x) (hf : Hid (x.natAbs ≤ BIG ∧ (mulAt m us x * x).natAbs ≤ BIG ∧ (mulAt m us x * x + ad.getD (rOf m x) 0).natAbs ≤ BIG)) :
    Calls Tryz.prog 22 #[v, vn] w (RefPost (stepI m us ad x) w) := by
  have hm := hM.out
  obtain ⟨d, rfl⟩ : ∃ d : Nat, m = (d : Int) := ⟨m.toNat, by have := hm.1; omega⟩
  have hr := rOf_lt (m := (d : Int)) (x := x) (by have := hm.1; omega)
  have hu := rule_at hm x
  have hmv := hv
  obtain ⟨A, n, cc, B, n2, d2, rfl, h1, h2, h3, h4, h5, h6, h7, h9⟩ := hv
  have l1 : rOf (d : Int) x < us.length := by have := hm.2.2.1; omega
  have l2 : rOf (d : Int) x < ad.length := by have := hm.2.2.2.1; omega
  obtain ⟨ba, oa, eA, -, -⟩ := h5.atI l1
  obtain ⟨bb, ob, eB, -, -⟩ := h6.atI l2
  subst eA eB
  exact step2_l ba oa bb ob n cc n2 d2 d (rOf (d : Int) x) vn (us.getD (rOf (d : Int) x) 0) (ad.getD (rOf (d : Int) x) 0) x us ad w h5 h6 h1 h3 hmv hn (by have := hm.1; omega) (by have := hm.2.1; omega) (hid hr.2) (by omega) (by omega) (hid rfl) (hid rfl) hf hu.1 hu.2.1 hu.2.2.1 hu.2.2.2.1
/-- from a number that fits -/
theorem step2_fits (v vn : Value) (m x : Int) (us ad : List Int) (w : World) (hv : MapV w v m us ad) (hM : Hid (mapP m us ad)) (hn : RefV w vn x) (hf : Hid (K.fits x)) :
    Calls Tryz.prog 22 #[v, vn] w (RefPost (stepI m us ad x) w) := by
  have hu := rule_at hM.out x
  exact step2_any v vn m x us ad w hv hM hn (hid (step_big hu.1 hu.2.1 hu.2.2.1 hu.2.2.2.1 hf.out))
theorem stepI_big {m x : Int} {us ad : List Int} (hM : mapP m us ad) (hx : K.fits x) : (stepI m us ad x).natAbs ≤ BIG := by
  have hu := rule_at hM x
  have h := (step_big hu.1 hu.2.1 hu.2.2.1 hu.2.2.2.1 hx).2.2
  refine Nat.le_trans ?_ h
  have hm := hM.1
  unfold stepI
  generalize us.getD (rOf m x) 0 * x + ad.getD (rOf m x) 0 = t
  obtain ⟨d, rfl⟩ : ∃ d : Nat, m = (d : Int) := ⟨m.toNat, by omega⟩
  rcases Int.lt_or_le t 0 with h0 | h0
  · have h1 : t ≤ t / (d : Int) := by
      have := Int.ediv_mul_le t (show (d : Int) ≠ 0 by omega)
      have h2 : t / (d : Int) < 0 := Int.ediv_lt_of_lt_mul (by omega) (by omega)
      have h3 : t / (d : Int) * 1 ≥ t / (d : Int) * (d : Int) := Int.mul_le_mul_of_nonpos_left (by omega) (by omega)
      have h4 := Int.lt_ediv_add_one_mul_self t (show (0 : Int) < (d : Int) by omega)
      have h5 : (t / (d : Int) + 1) * (d : Int) ≤ (t / (d : Int) + 1) * 1 := Int.mul_le_mul_of_nonpos_left (by omega) (by omega)
      omega
    have h2 : t / (d : Int) < 0 := Int.ediv_lt_of_lt_mul (by omega) (by omega)
    omega
  · have h1 : 0 ≤ t / (d : Int) := Int.ediv_nonneg h0 (by omega)
    have h2 : t / (d : Int) ≤ t := Int.ediv_le_self _ h0
    omega
end Go.Proofs.YtimokpcopeldfaaGreatDoor
/- word.lineOfNoStep, lineOfStep, the function literal of Line -/
namespace Go.Proofs.YtimokpcopeldfaaGreatDoor
open Go.RowKit
/-- a linear map as it is told -/
def lineV (l : Int × Int × Int) : Value := .agg #[.string (Str (K.txt l.1)), .string (Str (K.txt l.2.1)), .string (Str (K.txt l.2.2))]
theorem txt_one : K.txt 1 = [49] := K.txt_of_lit [49] 1 (by decide +kernel) (by decide +kernel)
theorem txt_zero2 : K.txt 0 = [48] := K.txt_of_lit [48] 0 (by decide +kernel) (by decide +kernel)
set_option maxRecDepth 100000 in
set_option maxHeartbeats 800000 in
theorem noStep_any (w : World) : Calls Tryz.prog 88 #[] w (fun e w' => e = .returned (.agg #[.string ⟨#[49]⟩, .string ⟨#[48]⟩, .string ⟨#[49]⟩]) ∧ Ext w w') := by
  have HF : Hid (Ext w (w.alloc (.cells #[.string ⟨#[49]⟩, .string ⟨#[48]⟩, .string ⟨#[49]⟩] 38))) := hid ((Ext.rfl' w).alloc' _)
  go_enter Tryz.func88, Tryz.ntmps88
  go_wp2
  refine bodyPost_ret (v := .agg #[.string ⟨#[49]⟩, .string ⟨#[48]⟩, .string ⟨#[49]⟩]) (by simp [results, Tryz.results88, go_sem]) rfl ⟨rfl, HF.out⟩
set_option maxRecDepth 100000 in
set_option maxHeartbeats 3200000 in
theorem lineOfStep_l (ba oa bb ob n cc n2 d r : Nat) (m u a : Int) (us ad : List Int) (w : World) (hra : Rd w (some ⟨ba, oa, none⟩) (Is us)) (hrb : Rd w (some ⟨bb, ob, none⟩) (Is ad)) (hn1 : us.length = n) (hn2 : ad.length = n2) (hrn : r < n) (hrn2 : r < n2) (hu : Hid (us.getD r 0 = u)) (ha : Hid (ad.getD r 0 = a))
    (hm1 : 2 ≤ m) (hm2 : m ≤ 12) (hu1 : 1 ≤ u) (hu2 : u ≤ 999) (ha1 : -999999 ≤ a) (ha2 : a ≤ 999999) (ht : Tab w) :
    Calls Tryz.prog 91 #[.agg #[.int .i64 m, .slice (some ⟨ba, oa, none⟩) n cc, .slice (some ⟨bb, ob, none⟩) n2 d], .int .i64 (r : Int)] w (fun e w' => e = .returned (lineV (u, a, m)) ∧ Ext w w') := by
  have hx : Ext w ((w.alloc (.cells #[.int .i64 m, .slice (some ⟨ba, oa, none⟩) n cc, .slice (some ⟨bb, ob, none⟩) n2 d] 24)).alloc (.cells #[.string ⟨#[]⟩, .string ⟨#[]⟩, .string ⟨#[]⟩] 38)) := ((Ext.rfl' w).alloc' _).alloc' _
  have r1 : Row ((w.alloc (.cells #[.int .i64 m, .slice (some ⟨ba, oa, none⟩) n cc, .slice (some ⟨bb, ob, none⟩) n2 d] 24)).alloc (.cells #[.string ⟨#[]⟩, .string ⟨#[]⟩, .string ⟨#[]⟩] 38)) w.heap.size 24 [.int .i64 m, .slice (some ⟨ba, oa, none⟩) n cc, .slice (some ⟨bb, ob, none⟩) n2 d] := (Row.new w _ _).alloc _
  have r2 : Row ((w.alloc (.cells #[.int .i64 m, .slice (some ⟨ba, oa, none⟩) n cc, .slice (some ⟨bb, ob, none⟩) n2 d] 24)).alloc (.cells #[.string ⟨#[]⟩, .string ⟨#[]⟩, .string ⟨#[]⟩] 38)) (w.heap.size + 1) 38 [.string ⟨#[]⟩, .string ⟨#[]⟩, .string ⟨#[]⟩] := by
    have := Row.new (w.alloc (.cells #[.int .i64 m, .slice (some ⟨ba, oa, none⟩) n cc, .slice (some ⟨bb, ob, none⟩) n2 d] 24)) 38 [.string ⟨#[]⟩, .string ⟨#[]⟩, .string ⟨#[]⟩]
    rwa [World.size_alloc] at this
  obtain ⟨W2, hW2⟩ : ∃ W2, ((w.alloc (.cells #[.int .i64 m, .slice (some ⟨ba, oa, none⟩) n cc, .slice (some ⟨bb, ob, none⟩) n2 d] 24)).alloc (.cells #[.string ⟨#[]⟩, .string ⟨#[]⟩, .string ⟨#[]⟩] 38)) = W2 := ⟨_, rfl⟩
  rw [hW2] at hx r1 r2
  have HW2 := hid hW2
  have HX := hid hx
  have R1 := hid r1
  have R2 := hid r2
  have HRA := hid hra
  have HRB := hid hrb
  have HL1 := hid hn1
  have HL2 := hid hn2
  have HT := hid (ht.ext hx)
  have HB := hid (And.intro hm1 (And.intro hm2 (And.intro hu1 (And.intro hu2 (And.intro ha1 ha2)))))
  have HSF : Hid (∀ W', Ext w W' → Row W' w.heap.size 24 [.int .i64 m, .slice (some ⟨ba, oa, none⟩) n cc, .slice (some ⟨bb, ob, none⟩) n2 d] → W'.cell? ⟨w.heap.size, 0, none⟩ = some (.int .i64 m) ∧ W'.cell? ⟨w.heap.size, 1, none⟩ = some (.slice (some ⟨ba, oa, none⟩) n cc) ∧ W'.cell? ⟨w.heap.size, 2, none⟩ = some (.slice (some ⟨bb, ob, none⟩) n2 d) ∧ W'.cell? ⟨ba, oa + r, none⟩ = some (.int .i64 u) ∧ W'.cell? ⟨bb, ob + r, none⟩ = some (.int .i64 a)) := hid (by
    intro W' e er
    obtain ⟨p0, p1, p2, -, -, -⟩ := row_facts3 er
    obtain ⟨b2, o2, e2, -, hc1⟩ := (HRA.out.ext e).atI (k := r) (by rw [HL1.out]; exact hrn)
    obtain ⟨b3, o3, e3, -, hc2⟩ := (HRB.out.ext e).atI (k := r) (by rw [HL2.out]; exact hrn2)
    cases e2
    cases e3
    rw [hu.out] at hc1
    rw [ha.out] at hc2
    exact ⟨p0, p1, p2, hc1, hc2⟩)
  have i0 : (0 : Int) ≤ (r : Int) := by omega
  have i1 : (r : Int) < (n : Int) := by omega
  have i2 : (r : Int) < (n2 : Int) := by omega
  have hcur : Ext W2 W2 := Ext.rfl' _
  obtain ⟨z0, z1, z2, z3, z4, z5⟩ := row_facts3 r2
  clear hW2 hx r1 r2 hra hrb hn1 hn2 hm1 hm2 hu1 hu2 ha1 ha2
  go_enter Tryz.func91, Tryz.ntmps91
  go_upto_region 1 with fail
  rw [HW2.out]
  go_region_held3 (fun W' => W'.cell? ⟨w.heap.size, 0, none⟩ = some (.int .i64 m) ∧ W'.cell? ⟨w.heap.size, 1, none⟩ = some (.slice (some ⟨ba, oa, none⟩) n cc) ∧ W'.cell? ⟨w.heap.size, 2, none⟩ = some (.slice (some ⟨bb, ob, none⟩) n2 d) ∧ W'.cell? ⟨ba, oa + r, none⟩ = some (.int .i64 u) ∧ W'.cell? ⟨bb, ob + r, none⟩ = some (.int .i64 a))
    (first | exact HSF.out _ (HX.out.step hcur) (R1.out.ext hcur) | exact HSF.out _ (HX.out.step hcur.drew') (R1.out.ext hcur.drew') | exact HSF.out _ ((HX.out.step hcur).set3 (by omega)) ((R1.out.ext hcur).set3 (by omega)) | go_keep)
    (first
      | (go_at_call_of 121 (Value.int IntKind.i64 u); refine (itoa_any u _ (by have := HB.out; omega) (by have := HB.out; omega) (HT.out.ext ?_)).mono ?_; (first | exact hcur | exact hcur.drew' | exact hcur.alloc' _ | exact hcur.drew'.alloc' _ | exact (hcur.alloc' _).drew'); rintro e w5 ⟨rfl, hx⟩; have hcur := Ext.step hcur (by first | exact hx | exact Ext.undrew hx | exact Ext.step ((Ext.rfl' _).alloc' _) hx | exact Ext.step ((Ext.rfl' _).drew'.alloc' _) hx); obtain ⟨z0, z1, z2, z3, z4, z5⟩ := row_facts3 (R2.out.ext hcur))
      | (go_at_call_of 121 (Value.int IntKind.i64 a); refine (itoa_any a _ (by have := HB.out; omega) (by have := HB.out; omega) (HT.out.ext ?_)).mono ?_; (first | exact hcur | exact hcur.drew' | exact hcur.alloc' _ | exact hcur.drew'.alloc' _ | exact (hcur.alloc' _).drew'); rintro e w6 ⟨rfl, hx⟩; have hcur := Ext.step hcur (by first | exact hx | exact Ext.undrew hx | exact Ext.step ((Ext.rfl' _).alloc' _) hx | exact Ext.step ((Ext.rfl' _).drew'.alloc' _) hx); obtain ⟨z0, z1, z2, z3, z4, z5⟩ := row_facts3 (R2.out.ext hcur))
      | (go_at_call_of 121 (Value.int IntKind.i64 m); refine (itoa_any m _ (by have := HB.out; omega) (by have := HB.out; omega) (HT.out.ext ?_)).mono ?_; (first | exact hcur | exact hcur.drew' | exact hcur.alloc' _ | exact hcur.drew'.alloc' _ | exact (hcur.alloc' _).drew'); rintro e w7 ⟨rfl, hx⟩; have hcur := Ext.step hcur (by first | exact hx | exact Ext.undrew hx | exact Ext.step ((Ext.rfl' _).alloc' _) hx | exact Ext.step ((Ext.rfl' _).drew'.alloc' _) hx); obtain ⟨z0, z1, z2, z3, z4, z5⟩ := row_facts3 (R2.out.ext hcur)))
  all_goals
    have HF := hid ((HX.out.step hcur).set3 (H := w.heap.size + 1) (a := .string (Str (K.txt u))) (b := .string (Str (K.txt a))) (c := .string (Str (K.txt m))) (by omega))
    clear hcur
    go_wp2
    refine bodyPost_ret (v := lineV (u, a, m)) (by simp [results, Tryz.results91, go_sem, lineV, z0, z1, z2]) rfl ⟨rfl, HF.out⟩
theorem lineOfStep_any (v : Value) (m : Int) (us ad : List Int) (r : Int) (w : World) (hv : MapV w v m us ad) (hM : Hid (mapP m us ad)) (h0 : 0 ≤ r) (h1 : r < m) (ht : Tab w) :
    Calls Tryz.prog 91 #[v, .int .i64 r] w (fun e w' => e = .returned (lineV (us.getD r.toNat 0, ad.getD r.toNat 0, m)) ∧ Ext w w') := by
  obtain ⟨u1, u2, a1, a2, l1, l2⟩ := rule_of hM.out h0 h1
  obtain ⟨A, n, cc, B, n2, d, rfl, e1, e2, e3, e4, e5, e6, -, -⟩ := hv
  obtain ⟨ba, oa, eA, -, -⟩ := e5.atI l1
  obtain ⟨bb, ob, eB, -, -⟩ := e6.atI l2
  subst eA eB
  obtain ⟨q, rfl⟩ : ∃ q : Nat, r = (q : Int) := ⟨r.toNat, by omega⟩
  rw [Int.toNat_natCast] at *
  exact lineOfStep_l ba oa bb ob n cc n2 d q m _ _ us ad w e5 e6 e1 e3 (by omega) (by omega) (hid rfl) (hid rfl) hM.out.1 hM.out.2.1 u1 u2 a1 a2 ht
end Go.Proofs.YtimokpcopeldfaaGreatDoor
/- the function literal of word.Line -/
namespace Go.Proofs.YtimokpcopeldfaaGreatDoor
open Go.RowKit
theorem txt_not_one {z : Int} (h : z ≠ 1) : Str (K.txt z) ≠ ⟨#[49]⟩ := by
  intro e
  have h2 : K.txt z = [49] := by
    have := congrArg (fun b : ByteArray => b.data.toList) e
    simpa [Str] using this
  rw [← txt_one] at h2
  exact h (K.txt_inj h2)
set_option maxRecDepth 100000 in
set_option maxHeartbeats 1600000 in
theorem line1_first (s0 s1 s2 : ByteArray) (p : Value) (w : World) :
    Calls Tryz.prog 87 #[.agg #[.string ⟨#[49]⟩, .string ⟨#[48]⟩, .string ⟨#[49]⟩], .agg #[.string s0, .string s1, .string s2], p] w (fun e w' => e = .returned (.agg #[.string s0, .string s1, .string s2]) ∧ Ext w w') := by
  have hx : Ext w (((w.alloc (.cells #[.string ⟨#[49]⟩, .string ⟨#[48]⟩, .string ⟨#[49]⟩] 38)).alloc (.cells #[.string s0, .string s1, .string s2] 38)).alloc (.cells #[.string ⟨#[]⟩, .string ⟨#[]⟩, .string ⟨#[]⟩] 38)) := (((Ext.rfl' w).alloc' _).alloc' _).alloc' _
  have r1 : Row (((w.alloc (.cells #[.string ⟨#[49]⟩, .string ⟨#[48]⟩, .string ⟨#[49]⟩] 38)).alloc (.cells #[.string s0, .string s1, .string s2] 38)).alloc (.cells #[.string ⟨#[]⟩, .string ⟨#[]⟩, .string ⟨#[]⟩] 38)) w.heap.size 38 [.string ⟨#[49]⟩, .string ⟨#[48]⟩, .string ⟨#[49]⟩] := ((Row.new w _ _).alloc _).alloc _
  have r2 : Row (((w.alloc (.cells #[.string ⟨#[49]⟩, .string ⟨#[48]⟩, .string ⟨#[49]⟩] 38)).alloc (.cells #[.string s0, .string s1, .string s2] 38)).alloc (.cells #[.string ⟨#[]⟩, .string ⟨#[]⟩, .string ⟨#[]⟩] 38)) (w.heap.size + 1) 38 [.string s0, .string s1, .string s2] := by
    have := (Row.new (w.alloc (.cells #[.string ⟨#[49]⟩, .string ⟨#[48]⟩, .string ⟨#[49]⟩] 38)) 38 [.string s0, .string s1, .string s2]).alloc (.cells #[.string ⟨#[]⟩, .string ⟨#[]⟩, .string ⟨#[]⟩] 38)
    rwa [World.size_alloc] at this
  have r3 : Row (((w.alloc (.cells #[.string ⟨#[49]⟩, .string ⟨#[48]⟩, .string ⟨#[49]⟩] 38)).alloc (.cells #[.string s0, .string s1, .string s2] 38)).alloc (.cells #[.string ⟨#[]⟩, .string ⟨#[]⟩, .string ⟨#[]⟩] 38)) (w.heap.size + 1 + 1) 38 [.string ⟨#[]⟩, .string ⟨#[]⟩, .string ⟨#[]⟩] := by
    have := Row.new ((w.alloc (.cells #[.string ⟨#[49]⟩, .string ⟨#[48]⟩, .string ⟨#[49]⟩] 38)).alloc (.cells #[.string s0, .string s1, .string s2] 38)) 38 [.string ⟨#[]⟩, .string ⟨#[]⟩, .string ⟨#[]⟩]
    rwa [World.size_alloc, World.size_alloc] at this
  obtain ⟨W3, hW3⟩ : ∃ W3, (((w.alloc (.cells #[.string ⟨#[49]⟩, .string ⟨#[48]⟩, .string ⟨#[49]⟩] 38)).alloc (.cells #[.string s0, .string s1, .string s2] 38)).alloc (.cells #[.string ⟨#[]⟩, .string ⟨#[]⟩, .string ⟨#[]⟩] 38)) = W3 := ⟨_, rfl⟩
  rw [hW3] at hx r1 r2 r3
  have HW3 := hid hW3
  have HX := hid hx
  have R1 := hid r1
  have R2 := hid r2
  have R3 := hid r3
  have HS : Hid (∀ W', Ext W3 W' → W'.cell? ⟨w.heap.size, 0, none⟩ = some (.string ⟨#[49]⟩) ∧ W'.cell? ⟨w.heap.size, 1, none⟩ = some (.string ⟨#[48]⟩) ∧ W'.cell? ⟨w.heap.size, 2, none⟩ = some (.string ⟨#[49]⟩) ∧ W'.cell? ⟨w.heap.size + 1, 0, none⟩ = some (.string s0) ∧ W'.cell? ⟨w.heap.size + 1, 1, none⟩ = some (.string s1) ∧ W'.cell? ⟨w.heap.size + 1, 2, none⟩ = some (.string s2)) := hid (by
    intro W' e
    obtain ⟨p0, p1, p2, -, -, -⟩ := row_facts3 (R1.out.ext e)
    obtain ⟨q0, q1, q2, -, -, -⟩ := row_facts3 (R2.out.ext e)
    exact ⟨p0, p1, p2, q0, q1, q2⟩)
  have hcur : Ext W3 W3 := Ext.rfl' _
  clear hW3 hx r1 r2 r3
  go_enter Tryz.func87, Tryz.ntmps87
  go_upto_region 1 with fail
  rw [HW3.out]
  go_region_held3 (fun W' => W'.cell? ⟨w.heap.size, 0, none⟩ = some (.string ⟨#[49]⟩) ∧ W'.cell? ⟨w.heap.size, 1, none⟩ = some (.string ⟨#[48]⟩) ∧ W'.cell? ⟨w.heap.size, 2, none⟩ = some (.string ⟨#[49]⟩) ∧ W'.cell? ⟨w.heap.size + 1, 0, none⟩ = some (.string s0) ∧ W'.cell? ⟨w.heap.size + 1, 1, none⟩ = some (.string s1) ∧ W'.cell? ⟨w.heap.size + 1, 2, none⟩ = some (.string s2))
    (first | exact HS.out _ hcur | exact HS.out _ hcur.drew' | exact HS.out _ (hcur.alloc' _) | exact HS.out _ (hcur.drew'.alloc' _) | exact HS.out _ ((hcur.set' HB2.out.1 _).set' HB2.out.1 _) | go_keep)
    (first
      | (go_at_call 88; refine (noStep_any _).mono ?_; rintro e w4 ⟨rfl, hx⟩; have hcur := Ext.step hcur (by first | exact hx | exact Ext.undrew hx | exact Ext.step ((Ext.rfl' _).alloc' _) hx | exact Ext.step ((Ext.rfl' _).drew'.alloc' _) hx)))
  all_goals
    obtain ⟨q0, q1, q2, -, -, -⟩ := row_facts3 (R2.out.ext hcur)
    obtain ⟨z0, z1, z2, z3, z4, z5⟩ := row_facts3 (R3.out.ext hcur)
    have HF := hid ((HX.out.step hcur).set3 (H := w.heap.size + 1 + 1) (a := .string s0) (b := .string s1) (c := .string s2) (by omega))
    clear hcur
    go_wp2
    refine bodyPost_ret (v := .agg #[.string s0, .string s1, .string s2]) (by simp [results, Tryz.results87, go_sem, z0, z1, z2]) rfl ⟨rfl, HF.out⟩
theorem rec_times (g : Nat) (p q : Int) (w : World) (hr : Row w g 124 [.int .i64 0]) (hf : K.fits p ∧ K.fits q ∧ K.fits (p * q)) (ht : Tab w) :
    Calls Tryz.prog 89 #[.pointer (some ⟨g, 0, none⟩), .string (Str (K.txt p)), .string (Str (K.txt q))] w (RecOk (p * q) w) := by
  have h := times_ok g (K.txt p) (K.txt q) w hr (K.valid_txt _ hf.1) (K.valid_txt _ hf.2.1) (by rw [K.numL_txt, K.numL_txt]; exact hf.2.2) ht
  rwa [K.numL_txt, K.numL_txt] at h
theorem rec_plus (g : Nat) (p q : Int) (w : World) (hr : Row w g 124 [.int .i64 0]) (hf : K.fits p ∧ K.fits q ∧ K.fits (p + q)) (ht : Tab w) :
    Calls Tryz.prog 90 #[.pointer (some ⟨g, 0, none⟩), .string (Str (K.txt p)), .string (Str (K.txt q))] w (RecOk (p + q) w) := by
  have h := plus_ok g (K.txt p) (K.txt q) w hr (K.valid_txt _ hf.1) (K.valid_txt _ hf.2.1) (by rw [K.numL_txt, K.numL_txt]; exact hf.2.2) ht
  rwa [K.numL_txt, K.numL_txt] at h
theorem rec_times_s (g : Nat) (p q : Int) (sp sq sr : ByteArray) (w : World) (hr : Row w g 124 [.int .i64 0]) (hf : K.fits p ∧ K.fits q ∧ K.fits (p * q)) (h1 : Hid (Str (K.txt p) = sp)) (h2 : Hid (Str (K.txt q) = sq)) (h3 : Hid (Str (K.txt (p * q)) = sr)) (ht : Tab w) :
    Calls Tryz.prog 89 #[.pointer (some ⟨g, 0, none⟩), .string sp, .string sq] w (fun e w' => e = .returned (.string sr) ∧ Ext w w') := by
  have h := rec_times g p q w hr hf ht
  rw [h1.out, h2.out] at h
  exact h.mono fun e w' hh => ⟨by rw [← h3.out]; exact hh.1, hh.2⟩
theorem rec_plus_s (g : Nat) (p q : Int) (sp sq sr : ByteArray) (w : World) (hr : Row w g 124 [.int .i64 0]) (hf : K.fits p ∧ K.fits q ∧ K.fits (p + q)) (h1 : Hid (Str (K.txt p) = sp)) (h2 : Hid (Str (K.txt q) = sq)) (h3 : Hid (Str (K.txt (p + q)) = sr)) (ht : Tab w) :
    Calls Tryz.prog 90 #[.pointer (some ⟨g, 0, none⟩), .string sp, .string sq] w (fun e w' => e = .returned (.string sr) ∧ Ext w w') := by
  have h := rec_plus g p q w hr hf ht
  rw [h1.out, h2.out] at h
  exact h.mono fun e w' hh => ⟨by rw [← h3.out]; exact hh.1, hh.2⟩
theorem Calls.at_args {P : Program} {f : FuncId} {a b : Array Value} {w : World} {Q : Ending → World → Prop} (e : a = b) (h : Calls P f b w Q) : Calls P f a w Q := e ▸ h
set_option maxRecDepth 100000 in
set_option maxHeartbeats 6400000 in
theorem line1_next (g : Nat) (x y z u a m : Int) (sx sy sz su sa sm sxu syu saz ss szm : ByteArray) (w : World) (hr : Row w g 124 [.int .i64 0]) (ht : Tab w) (hz1 : z ≠ 1)
    (Hx : Hid (Str (K.txt x) = sx)) (Hy : Hid (Str (K.txt y) = sy)) (Hz : Hid (Str (K.txt z) = sz)) (Hu : Hid (Str (K.txt u) = su)) (Ha : Hid (Str (K.txt a) = sa)) (Hm : Hid (Str (K.txt m) = sm))
    (Hxu : Hid (Str (K.txt (x * u)) = sxu)) (Hyu : Hid (Str (K.txt (y * u)) = syu)) (Haz : Hid (Str (K.txt (a * z)) = saz)) (Hs : Hid (Str (K.txt (y * u + a * z)) = ss)) (Hzm : Hid (Str (K.txt (z * m)) = szm))
    (B : Hid (K.fits x ∧ K.fits y ∧ K.fits z ∧ K.fits u ∧ K.fits a ∧ K.fits m ∧ K.fits (x * u) ∧ K.fits (y * u) ∧ K.fits (a * z) ∧ K.fits (y * u + a * z) ∧ K.fits (z * m))) :
    Calls Tryz.prog 87 #[.agg #[.string sx, .string sy, .string sz], .agg #[.string su, .string sa, .string sm], .pointer (some ⟨g, 0, none⟩)] w (fun e w' => e = .returned (.agg #[.string sxu, .string ss, .string szm]) ∧ Ext w w') := by
  have hne : sz ≠ ⟨#[49]⟩ := by rw [← Hz.out]; exact txt_not_one hz1
  have hnl : (sz.toList == [49]) = false := by
    rw [beq_eq_false_iff_ne]
    intro e
    exact hne (by
      have h1 := congrArg ByteArray.toList (rfl : sz = sz)
      rw [← Hz.out, Str_toList] at e
      rw [← Hz.out, e]; rfl)
  have HT := hid ht
  have RG := hid hr
  have hx : Ext w (((w.alloc (.cells #[.string sx, .string sy, .string sz] 38)).alloc (.cells #[.string su, .string sa, .string sm] 38)).alloc (.cells #[.string ⟨#[]⟩, .string ⟨#[]⟩, .string ⟨#[]⟩] 38)) := (((Ext.rfl' w).alloc' _).alloc' _).alloc' _
  have r1 : Row (((w.alloc (.cells #[.string sx, .string sy, .string sz] 38)).alloc (.cells #[.string su, .string sa, .string sm] 38)).alloc (.cells #[.string ⟨#[]⟩, .string ⟨#[]⟩, .string ⟨#[]⟩] 38)) w.heap.size 38 [.string sx, .string sy, .string sz] := ((Row.new w _ _).alloc _).alloc _
  have r2 : Row (((w.alloc (.cells #[.string sx, .string sy, .string sz] 38)).alloc (.cells #[.string su, .string sa, .string sm] 38)).alloc (.cells #[.string ⟨#[]⟩, .string ⟨#[]⟩, .string ⟨#[]⟩] 38)) (w.heap.size + 1) 38 [.string su, .string sa, .string sm] := by
    have := (Row.new (w.alloc (.cells #[.string sx, .string sy, .string sz] 38)) 38 [.string su, .string sa, .string sm]).alloc (.cells #[.string ⟨#[]⟩, .string ⟨#[]⟩, .string ⟨#[]⟩] 38)
    rwa [World.size_alloc] at this
  have r3 : Row (((w.alloc (.cells #[.string sx, .string sy, .string sz] 38)).alloc (.cells #[.string su, .string sa, .string sm] 38)).alloc (.cells #[.string ⟨#[]⟩, .string ⟨#[]⟩, .string ⟨#[]⟩] 38)) (w.heap.size + 1 + 1) 38 [.string ⟨#[]⟩, .string ⟨#[]⟩, .string ⟨#[]⟩] := by
    have := Row.new ((w.alloc (.cells #[.string sx, .string sy, .string sz] 38)).alloc (.cells #[.string su, .string sa, .string sm] 38)) 38 [.string ⟨#[]⟩, .string ⟨#[]⟩, .string ⟨#[]⟩]
    rwa [World.size_alloc, World.size_alloc] at this
  obtain ⟨W3, hW3⟩ : ∃ W3, (((w.alloc (.cells #[.string sx, .string sy, .string sz] 38)).alloc (.cells #[.string su, .string sa, .string sm] 38)).alloc (.cells #[.string ⟨#[]⟩, .string ⟨#[]⟩, .string ⟨#[]⟩] 38)) = W3 := ⟨_, rfl⟩
  rw [hW3] at hx r1 r2 r3
  have HW3 := hid hW3
  have HX := hid hx
  have R1 := hid r1
  have R2 := hid r2
  have R3 := hid r3
  have HT := hid (HT.out.ext hx)
  have RG := hid (RG.out.ext hx)
  have HS : Hid (∀ W', Ext W3 W' → W'.cell? ⟨w.heap.size, 0, none⟩ = some (.string sx) ∧ W'.cell? ⟨w.heap.size, 1, none⟩ = some (.string sy) ∧ W'.cell? ⟨w.heap.size, 2, none⟩ = some (.string sz) ∧ W'.cell? ⟨w.heap.size + 1, 0, none⟩ = some (.string su) ∧ W'.cell? ⟨w.heap.size + 1, 1, none⟩ = some (.string sa) ∧ W'.cell? ⟨w.heap.size + 1, 2, none⟩ = some (.string sm)) := hid (by
    intro W' e
    obtain ⟨p0, p1, p2, -, -, -⟩ := row_facts3 (R1.out.ext e)
    obtain ⟨q0, q1, q2, -, -, -⟩ := row_facts3 (R2.out.ext e)
    exact ⟨p0, p1, p2, q0, q1, q2⟩)
  have hcur : Ext W3 W3 := Ext.rfl' _
  clear hW3 hx r1 r2 r3
  go_enter Tryz.func87, Tryz.ntmps87
  go_upto_region 1 with fail
  rw [HW3.out]
  go_region_held3 (fun W' => W'.cell? ⟨w.heap.size, 0, none⟩ = some (.string sx) ∧ W'.cell? ⟨w.heap.size, 1, none⟩ = some (.string sy) ∧ W'.cell? ⟨w.heap.size, 2, none⟩ = some (.string sz) ∧ W'.cell? ⟨w.heap.size + 1, 0, none⟩ = some (.string su) ∧ W'.cell? ⟨w.heap.size + 1, 1, none⟩ = some (.string sa) ∧ W'.cell? ⟨w.heap.size + 1, 2, none⟩ = some (.string sm))
    (first | exact HS.out _ hcur | exact HS.out _ hcur.drew' | exact HS.out _ (hcur.alloc' _) | exact HS.out _ (hcur.drew'.alloc' _) | exact HS.out _ ((hcur.set' HB2.out.1 _).set' HB2.out.1 _) | go_keep)
    (first
      | (go_at_call 88; refine (noStep_any _).mono ?_; rintro e w4 ⟨rfl, hx⟩; have hcur := Ext.step hcur (by first | exact hx | exact Ext.undrew hx | exact Ext.step ((Ext.rfl' _).alloc' _) hx | exact Ext.step ((Ext.rfl' _).drew'.alloc' _) hx)))
  all_goals
    have hcur : Ext W3 w4 := (by first | exact hcur | exact hcur.drew')
    obtain ⟨p0, p1, p2, -, -, -⟩ := row_facts3 (R1.out.ext hcur)
    obtain ⟨q0, q1, q2, -, -, -⟩ := row_facts3 (R2.out.ext hcur)
    obtain ⟨z0, z1, z2, z3, z4, z5⟩ := row_facts3 (R3.out.ext hcur)
    have RG := hid (RG.out.ext hcur)
    have HSR : Hid (∀ W', Row W' w.heap.size 38 [.string sx, .string sy, .string sz] → Row W' (w.heap.size + 1) 38 [.string su, .string sa, .string sm] → W'.cell? ⟨w.heap.size, 0, none⟩ = some (.string sx) ∧ W'.cell? ⟨w.heap.size, 1, none⟩ = some (.string sy) ∧ W'.cell? ⟨w.heap.size, 2, none⟩ = some (.string sz) ∧ W'.cell? ⟨w.heap.size + 1, 0, none⟩ = some (.string su) ∧ W'.cell? ⟨w.heap.size + 1, 1, none⟩ = some (.string sa) ∧ W'.cell? ⟨w.heap.size + 1, 2, none⟩ = some (.string sm)) := hid (by
      intro W' e1 e2
      obtain ⟨p0, p1, p2, -, -, -⟩ := row_facts3 e1
      obtain ⟨q0, q1, q2, -, -, -⟩ := row_facts3 e2
      exact ⟨p0, p1, p2, q0, q1, q2⟩)
    go_wp2_with fail
    go_region_held3 (fun W' => W'.cell? ⟨w.heap.size, 0, none⟩ = some (.string sx) ∧ W'.cell? ⟨w.heap.size, 1, none⟩ = some (.string sy) ∧ W'.cell? ⟨w.heap.size, 2, none⟩ = some (.string sz) ∧ W'.cell? ⟨w.heap.size + 1, 0, none⟩ = some (.string su) ∧ W'.cell? ⟨w.heap.size + 1, 1, none⟩ = some (.string sa) ∧ W'.cell? ⟨w.heap.size + 1, 2, none⟩ = some (.string sm))
      (first | exact HS.out _ hcur | exact HS.out _ hcur.drew' | exact HSR.out _ ((R1.out.ext hcur).set3 (by omega)) ((R2.out.ext hcur).set3 (by omega)) | go_keep)
      (first
        | (go_at_call 89; refine (Calls.at_args ?_ (rec_times_s g x u sx su sxu _ (RG.out.ext ?_) ⟨B.out.1, B.out.2.2.2.1, B.out.2.2.2.2.2.2.1⟩ Hx Hu Hxu (HT.out.ext ?_))).mono ?_; (with_reducible rfl); (first | exact Ext.rfl' _ | exact (Ext.rfl' _).drew'); (first | exact hcur | exact hcur.drew' | exact hcur.alloc' _ | exact hcur.drew'.alloc' _ | exact (hcur.alloc' _).drew'); rintro e w11 ⟨rfl, hx⟩; have hcur := Ext.step hcur (by first | exact hx | exact Ext.undrew hx | exact Ext.step ((Ext.rfl' _).alloc' _) hx | exact Ext.step ((Ext.rfl' _).drew'.alloc' _) hx); have RG := hid (RG.out.ext (by first | exact hx | exact Ext.undrew hx)); obtain ⟨z0, z1, z2, z3, z4, z5⟩ := row_facts3 (R3.out.ext hcur))
        | (go_at_call 89; refine (Calls.at_args ?_ (rec_times_s g y u sy su syu _ (RG.out.ext ?_) ⟨B.out.2.1, B.out.2.2.2.1, B.out.2.2.2.2.2.2.2.1⟩ Hy Hu Hyu (HT.out.ext ?_))).mono ?_; (with_reducible rfl); (first | exact Ext.rfl' _ | exact (Ext.rfl' _).drew'); (first | exact hcur | exact hcur.drew' | exact hcur.alloc' _ | exact hcur.drew'.alloc' _ | exact (hcur.alloc' _).drew'); rintro e w12 ⟨rfl, hx⟩; have hcur := Ext.step hcur (by first | exact hx | exact Ext.undrew hx | exact Ext.step ((Ext.rfl' _).alloc' _) hx | exact Ext.step ((Ext.rfl' _).drew'.alloc' _) hx); have RG := hid (RG.out.ext (by first | exact hx | exact Ext.undrew hx)); obtain ⟨z0, z1, z2, z3, z4, z5⟩ := row_facts3 (R3.out.ext hcur))
        | (go_at_call 89; refine (Calls.at_args ?_ (rec_times_s g a z sa sz saz _ (RG.out.ext ?_) ⟨B.out.2.2.2.2.1, B.out.2.2.1, B.out.2.2.2.2.2.2.2.2.1⟩ Ha Hz Haz (HT.out.ext ?_))).mono ?_; (with_reducible rfl); (first | exact Ext.rfl' _ | exact (Ext.rfl' _).drew'); (first | exact hcur | exact hcur.drew' | exact hcur.alloc' _ | exact hcur.drew'.alloc' _ | exact (hcur.alloc' _).drew'); rintro e w13 ⟨rfl, hx⟩; have hcur := Ext.step hcur (by first | exact hx | exact Ext.undrew hx | exact Ext.step ((Ext.rfl' _).alloc' _) hx | exact Ext.step ((Ext.rfl' _).drew'.alloc' _) hx); have RG := hid (RG.out.ext (by first | exact hx | exact Ext.undrew hx)); obtain ⟨z0, z1, z2, z3, z4, z5⟩ := row_facts3 (R3.out.ext hcur))
        | (go_at_call 89; refine (Calls.at_args ?_ (rec_times_s g z m sz sm szm _ (RG.out.ext ?_) ⟨B.out.2.2.1, B.out.2.2.2.2.2.1, B.out.2.2.2.2.2.2.2.2.2.2⟩ Hz Hm Hzm (HT.out.ext ?_))).mono ?_; (with_reducible rfl); (first | exact Ext.rfl' _ | exact (Ext.rfl' _).drew'); (first | exact hcur | exact hcur.drew' | exact hcur.alloc' _ | exact hcur.drew'.alloc' _ | exact (hcur.alloc' _).drew'); rintro e w15 ⟨rfl, hx⟩; have hcur := Ext.step hcur (by first | exact hx | exact Ext.undrew hx | exact Ext.step ((Ext.rfl' _).alloc' _) hx | exact Ext.step ((Ext.rfl' _).drew'.alloc' _) hx); have RG := hid (RG.out.ext (by first | exact hx | exact Ext.undrew hx)); obtain ⟨z0, z1, z2, z3, z4, z5⟩ := row_facts3 (R3.out.ext hcur))
        | (go_at_call 90; refine (Calls.at_args ?_ (rec_plus_s g (y * u) (a * z) syu saz ss _ (RG.out.ext ?_) ⟨B.out.2.2.2.2.2.2.2.1, B.out.2.2.2.2.2.2.2.2.1, B.out.2.2.2.2.2.2.2.2.2.1⟩ Hyu Haz Hs (HT.out.ext ?_))).mono ?_; (with_reducible rfl); (first | exact Ext.rfl' _ | exact (Ext.rfl' _).drew'); (first | exact hcur | exact hcur.drew' | exact hcur.alloc' _ | exact hcur.drew'.alloc' _ | exact (hcur.alloc' _).drew'); rintro e w14 ⟨rfl, hx⟩; have hcur := Ext.step hcur (by first | exact hx | exact Ext.undrew hx | exact Ext.step ((Ext.rfl' _).alloc' _) hx | exact Ext.step ((Ext.rfl' _).drew'.alloc' _) hx); have RG := hid (RG.out.ext (by first | exact hx | exact Ext.undrew hx)); obtain ⟨z0, z1, z2, z3, z4, z5⟩ := row_facts3 (R3.out.ext hcur)))
    all_goals
      have HF := hid ((HX.out.step hcur).set3 (H := w.heap.size + 1 + 1) (a := .string sxu) (b := .string ss) (c := .string szm) (by omega))
      clear hcur
      go_wp2
      refine bodyPost_ret (v := .agg #[.string sxu, .string ss, .string szm]) (by simp [results, Tryz.results87, go_sem, z0, z1, z2]) rfl ⟨rfl, HF.out⟩
end Go.Proofs.YtimokpcopeldfaaGreatDoor
