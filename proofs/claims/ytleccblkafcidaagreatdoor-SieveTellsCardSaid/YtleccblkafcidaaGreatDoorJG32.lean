/- Joined texts: the lists of the reference's Sieve of layer 4; the reference's Sieve of layer 4. -/
import Derived.Test.YtleccblkafcidaaGreatDoorJG25
import Derived.Test.YtleccblkafcidaaGreatDoorJG20
import Derived.Test.YtleccblkafcidaaGreatDoorJG26
import Derived.Test.YtleccblkafcidaaGreatDoorJG21
set_option linter.unusedSimpArgs false
set_option linter.unusedVariables false
/- the lists of the reference's Sieve of layer 4 -/
namespace Go.Proofs.YtleccblkafcidaaGreatDoor
open Go.RowKit
def fallB (m : Int) (us ad : List Int) (r : Int) (i : Nat) : Bool := decide ((lnX m us ad r i).1 < m ^ i)
def firstB (m : Int) (us ad : List Int) (i : Nat) (r : Int) : Bool := fallB m us ad r i && (List.range i).all fun j => !fallB m us ad r j
def leftB (m : Int) (us ad : List Int) (k : Nat) (r : Int) : Bool := (List.range (k + 1)).all fun j => !fallB m us ad r j
theorem firstB_iff {m : Int} {us ad : List Int} {i : Nat} {r : Int} : firstB m us ad i r = true ↔ FallsAt m us ad r i ∧ ∀ j, j < i → ¬ FallsAt m us ad r j := by
  unfold firstB fallB FallsAt
  simp only [Bool.and_eq_true, decide_eq_true_eq, List.all_eq_true, List.mem_range, Bool.not_eq_true', decide_eq_false_iff_not]
theorem leftB_iff {m : Int} {us ad : List Int} {k : Nat} {r : Int} : leftB m us ad k r = true ↔ ∀ j, j ≤ k → ¬ FallsAt m us ad r j := by
  unfold leftB fallB FallsAt
  simp only [List.all_eq_true, List.mem_range, Bool.not_eq_true', decide_eq_false_iff_not, Nat.lt_succ_iff]
def flL (m : Int) (us ad : List Int) (i r : Nat) : List (Int × Int) := if firstB m us ad i (r : Int) = true then [((i : Int), (r : Int))] else []
def llL (m : Int) (us ad : List Int) (k r : Nat) : List Int := if leftB m us ad k (r : Int) = true then [(r : Int)] else []
def rowF (M : Nat) (us ad : List Int) (i : Nat) : List (Int × Int) := (List.range (M ^ i)).flatMap (flL (M : Int) us ad i)
def refF (M : Nat) (us ad : List Int) (k : Nat) : List (Int × Int) := (List.range k).flatMap fun t => rowF M us ad (t + 1)
def refL (M : Nat) (us ad : List Int) (k : Nat) : List Int := (List.range (M ^ k)).flatMap (llL (M : Int) us ad k)
theorem mem_flL {m : Int} {us ad : List Int} {i r : Nat} {p : Int × Int} : p ∈ flL m us ad i r ↔ p = ((i : Int), (r : Int)) ∧ firstB m us ad i (r : Int) = true := by
  unfold flL; split <;> simp [*]
theorem mem_llL {m : Int} {us ad : List Int} {k r : Nat} {x : Int} : x ∈ llL m us ad k r ↔ x = (r : Int) ∧ leftB m us ad k (r : Int) = true := by
  unfold llL; split <;> simp [*]
theorem ref_falls {M : Nat} {us ad : List Int} (hM : mapP (M : Int) us ad) (k : Nat) : refF M us ad k = srtF (vis M us ad k k 0 0).1 := by
  have hF := sieve_falls hM k
  refine strict_eq strict_P ?_ hF.1 (fun p => ?_)
  · unfold refF
    rw [List.pairwise_flatMap]
    constructor
    · intro t _
      unfold rowF
      rw [List.pairwise_flatMap]
      constructor
      · intro r _
        unfold flL; split <;> simp
      · refine List.Pairwise.imp ?_ (List.pairwise_lt_range (n := M ^ (t + 1)))
        intro r r' h x hx y hy
        obtain ⟨rfl, -⟩ := mem_flL.1 hx
        obtain ⟨rfl, -⟩ := mem_flL.1 hy
        exact .inr ⟨rfl, by simpa using h⟩
    · refine List.Pairwise.imp ?_ (List.pairwise_lt_range (n := k))
      intro t u h x hx y hy
      unfold rowF at hx hy
      rw [List.mem_flatMap] at hx hy
      obtain ⟨r, -, hx⟩ := hx
      obtain ⟨r', -, hy⟩ := hy
      obtain ⟨rfl, -⟩ := mem_flL.1 hx
      obtain ⟨rfl, -⟩ := mem_flL.1 hy
      exact .inl (by simp; omega)
  · rw [hF.2]
    unfold refF
    rw [List.mem_flatMap]
    constructor
    · rintro ⟨t, ht, hp⟩
      have ht := List.mem_range.1 ht
      unfold rowF at hp
      rw [List.mem_flatMap] at hp
      obtain ⟨r, hr, hp⟩ := hp
      have hr := List.mem_range.1 hr
      obtain ⟨rfl, h⟩ := mem_flL.1 hp
      obtain ⟨h1, h2⟩ := firstB_iff.1 h
      exact ⟨t + 1, rfl, by omega, by omega, by simp, by show (r : Int) < (M : Int) ^ (t + 1); rw [← Int.natCast_pow]; omega, h1, h2⟩
    · rintro ⟨i, e, i1, i2, p0, p1, h1, h2⟩
      obtain ⟨a, b⟩ := p
      simp only at e p0 p1 h1 h2
      subst e
      obtain ⟨r, rfl⟩ := Int.eq_ofNat_of_zero_le p0
      refine ⟨i - 1, List.mem_range.2 (by omega), ?_⟩
      unfold rowF
      rw [List.mem_flatMap, show i - 1 + 1 = i by omega]
      exact ⟨r, List.mem_range.2 (by rw [← Int.natCast_pow] at p1; omega), mem_flL.2 ⟨rfl, firstB_iff.2 ⟨h1, h2⟩⟩⟩
theorem ref_left {M : Nat} {us ad : List Int} (hM : mapP (M : Int) us ad) (k : Nat) : refL M us ad k = srtI (vis M us ad k k 0 0).2 := by
  have hL := sieve_left hM k
  refine strict_eq strict_I ?_ hL.1 (fun x => ?_)
  · unfold refL
    rw [List.pairwise_flatMap]
    constructor
    · intro r _
      unfold llL; split <;> simp
    · refine List.Pairwise.imp ?_ (List.pairwise_lt_range (n := M ^ k))
      intro r r' h x hx y hy
      obtain ⟨rfl, -⟩ := mem_llL.1 hx
      obtain ⟨rfl, -⟩ := mem_llL.1 hy
      omega
  · rw [hL.2]
    unfold refL
    rw [List.mem_flatMap]
    constructor
    · rintro ⟨r, hr, hp⟩
      have hr := List.mem_range.1 hr
      obtain ⟨rfl, h⟩ := mem_llL.1 hp
      exact ⟨by omega, by rw [← Int.natCast_pow]; omega, leftB_iff.1 h⟩
    · rintro ⟨x0, x1, h⟩
      obtain ⟨r, rfl⟩ := Int.eq_ofNat_of_zero_le x0
      exact ⟨r, List.mem_range.2 (by rw [← Int.natCast_pow] at x1; omega), mem_llL.2 ⟨rfl, leftB_iff.2 h⟩⟩
/-- the falls that stand in the list when the rows up to i and the first r numbers of row i + 1 have been looked at -/
def accF (M : Nat) (us ad : List Int) (i r : Nat) : List (Int × Int) := (List.range i).flatMap (fun t => rowF M us ad (t + 1)) ++ (List.range r).flatMap (flL (M : Int) us ad (i + 1))
theorem accF_next (M : Nat) (us ad : List Int) (i r : Nat) : accF M us ad i (r + 1) = accF M us ad i r ++ flL (M : Int) us ad (i + 1) r := by
  unfold accF; rw [flat_range, List.append_assoc]
theorem accF_row (M : Nat) (us ad : List Int) (i : Nat) : accF M us ad i (M ^ (i + 1)) = accF M us ad (i + 1) 0 := by
  unfold accF
  rw [flat_range (fun t => rowF M us ad (t + 1)) i]
  simp [rowF]
theorem accF_end (M : Nat) (us ad : List Int) (k : Nat) : accF M us ad k 0 = refF M us ad k := by unfold accF refF; simp
theorem flL_len (m : Int) (us ad : List Int) (i r : Nat) : (flL m us ad i r).length ≤ 1 := by unfold flL; split <;> simp
theorem llL_len (m : Int) (us ad : List Int) (i r : Nat) : (llL m us ad i r).length ≤ 1 := by unfold llL; split <;> simp
theorem accF_len {M : Nat} {us ad : List Int} {k i r : Nat} (hk : k ≤ 16) (hM : M ^ k ≤ 65536) (h1 : 1 ≤ M) (hi : i ≤ k) (hr : r ≤ 65536) : (accF M us ad i r).length ≤ 2000000 := by
  unfold accF
  rw [List.length_append]
  have a := flat_len (fun t => rowF M us ad (t + 1)) 65536 (List.range i) (fun t ht => by
    have ht := List.mem_range.1 ht
    have b := flat_len (flL (M : Int) us ad (t + 1)) 1 (List.range (M ^ (t + 1))) (fun r _ => flL_len _ _ _ _ _)
    have c : M ^ (t + 1) ≤ M ^ k := Nat.pow_le_pow_right h1 (by omega)
    rw [List.length_range] at b
    unfold rowF
    omega)
  have b := flat_len (flL (M : Int) us ad (i + 1)) 1 (List.range r) (fun r _ => flL_len _ _ _ _ _)
  rw [List.length_range] at a b
  have : i * 65536 ≤ 16 * 65536 := Nat.mul_le_mul_right _ (by omega)
  omega
def accL (M : Nat) (us ad : List Int) (k i r : Nat) : List Int := if i + 1 = k then (List.range r).flatMap (llL (M : Int) us ad k) else if i < k then [] else refL M us ad k
theorem accL_len {M : Nat} {us ad : List Int} {k i r : Nat} (hM : M ^ k ≤ 65536) (hr : r ≤ 65536) : (accL M us ad k i r).length ≤ 65536 := by
  have b := fun n => flat_len (llL (M : Int) us ad k) 1 (List.range n) (fun r _ => llL_len _ _ _ _ _)
  unfold accL
  split
  · have := b r; rw [List.length_range] at this; omega
  · split
    · simp
    · have := b (M ^ k); rw [List.length_range] at this; unfold refL; omega
theorem accL_next {M : Nat} {us ad : List Int} {k i r : Nat} (h : i + 1 = k) : accL M us ad k i (r + 1) = accL M us ad k i r ++ llL (M : Int) us ad k r := by
  unfold accL; rw [if_pos h, if_pos h, flat_range]
theorem accL_same {M : Nat} {us ad : List Int} {k i r : Nat} (h : i + 1 ≠ k) : accL M us ad k i (r + 1) = accL M us ad k i r := by
  unfold accL; rw [if_neg h, if_neg h]
theorem accL_row {M : Nat} {us ad : List Int} {k i : Nat} (h : i < k) : accL M us ad k i (M ^ (i + 1)) = accL M us ad k (i + 1) 0 := by
  unfold accL
  by_cases h1 : i + 1 = k
  · rw [if_pos h1, if_neg (by omega), if_neg (by omega), h1]; rfl
  · rw [if_neg h1, if_pos h]
    split
    · simp
    · rw [if_pos (by omega)]
theorem accL_end (M : Nat) (us ad : List Int) (k : Nat) : accL M us ad k k 0 = refL M us ad k := by
  unfold accL; rw [if_neg (by omega), if_neg (by omega)]
theorem accL_zero {M : Nat} {us ad : List Int} {k : Nat} (hk : 1 ≤ k) : accL M us ad k 0 0 = [] := by
  unfold accL
  split
  · simp
  · rw [if_pos (by omega)]
end Go.Proofs.YtleccblkafcidaaGreatDoor
/- the reference's Sieve of layer 4 -/
namespace Go.Proofs.YtleccblkafcidaaGreatDoor
open Go.RowKit
theorem rfirst_s (v : Value) (m : Int) (us ad : List Int) (X k : Int) (n : Nat) (w : World) (hv : MapV w v m us ad) (hM : Hid (mapP m us ad)) (hX0 : 0 ≤ X) (hX : X ≤ 65536) (hn : n ≤ 100) (hk : Hid (k = (n : Int))) :
    Calls Tryz.prog 76 #[v, .int .i64 X, .int .i64 k] w (fun e w' => ∃ (at_ s : Nat) (lv : Value), e = .returned (.tuple #[.int .i64 (at_ : Int), lv]) ∧ LineR w' lv (lnX m us ad X s) ∧ FirstC m us ad X n at_ s ∧ Ext w w') := by
  rw [hk.out]; exact rfirst_any v m us ad X n w hv hM hX0 hX hn
theorem first_told {m : Int} {us ad : List Int} {X : Int} {i at_ s : Nat} (h : FirstC m us ad X (i + 1) at_ s) : (at_ = i + 1 ↔ firstB m us ad (i + 1) X = true) ∧ (at_ = 0 ↔ leftB m us ad (i + 1) X = true) := by
  rw [firstB_iff, leftB_iff]
  have hz := falls_zero m us ad X
  rcases h with ⟨h1, h2, rfl, h3, h4⟩ | ⟨rfl, rfl, h4⟩
  · refine ⟨⟨fun h => ?_, fun h => ?_⟩, fun h => absurd h (by omega), fun h => absurd h3 (h at_ h2)⟩
    · subst h
      exact ⟨h3, fun j hj => by
        rcases Nat.eq_zero_or_pos j with h | h
        · subst h; exact hz
        · exact h4 j h hj⟩
    · rcases Nat.lt_or_ge at_ (i + 1) with h5 | h5
      · exact absurd h3 (h.2 at_ h5)
      · omega
  · refine ⟨⟨fun h => absurd h (by omega), fun h => absurd h.1 (h4 _ (by omega) (Nat.le_refl _))⟩, fun _ j hj => ?_, fun _ => rfl⟩
    rcases Nat.eq_zero_or_pos j with h | h
    · subst h; exact hz
    · exact h4 j h hj
theorem own_apart {w : World} {base n1 n2 s1 s2 : Nat} {v1 v2 : Value} {xs ys : List Value} (h1 : w.ownsRow base 40 s1 v1 n1 xs) (h2 : w.ownsRow base 3 s2 v2 n2 ys) : v2.ownBlock = none ∨ v2.ownBlock ≠ v1.ownBlock := by
  cases h : v2.ownBlock with
  | none => exact .inl rfl
  | some g => exact .inr fun e => own_two h1 h2 g e.symm h
theorem own_apart2 {w : World} {base n1 n2 s1 s2 : Nat} {v1 v2 : Value} {xs ys : List Value} (h1 : w.ownsRow base 40 s1 v1 n1 xs) (h2 : w.ownsRow base 3 s2 v2 n2 ys) : v1.ownBlock = none ∨ v1.ownBlock ≠ v2.ownBlock := by
  cases h : v1.ownBlock with
  | none => exact .inl rfl
  | some g => exact .inr fun e => own_two h1 h2 g h e.symm
theorem own_keepL {w w' : World} {o : Obj} {base n1 n2 s1 s2 : Nat} {v1 v2 : Value} {xs ys : List Value} (h1 : w.ownsRow base 40 s1 v1 n1 xs) (h2 : w.ownsRow base 3 s2 v2 n2 ys) (hg : (w.alloc o).grownBy w' v1.ownBlock) : w'.ownsRow base 3 s2 v2 n2 ys :=
  (h2.alloc o).kept hg (own_apart (h1.alloc o) (h2.alloc o))
theorem own_keepF {w w' : World} {o : Obj} {base n1 n2 s1 s2 : Nat} {v1 v2 : Value} {xs ys : List Value} (h1 : w.ownsRow base 40 s1 v1 n1 xs) (h2 : w.ownsRow base 3 s2 v2 n2 ys) (hg : (w.alloc o).grownBy w' v2.ownBlock) : w'.ownsRow base 40 s1 v1 n1 xs :=
  (h1.alloc o).kept hg (own_apart2 (h1.alloc o) (h2.alloc o))
set_option maxRecDepth 100000 in
set_option maxHeartbeats 12800000 in
theorem rsieve_any (v : Value) (m : Int) (us ad : List Int) (q M : Nat) (w : World) (hv : MapV w v m us ad) (hM : Hid (mapP m us ad)) (hS : Hid (SuitP m us (q : Int))) (hqq : (q : Int) ≤ 9223372036854775807) (hmM : Hid (m = (M : Int))) :
    Calls Tryz.prog 20 #[v, .int .i64 (q : Int)] w (fun e w' => ∃ (vF vL : Value) (base nF nL : Nat), e = .returned (.tuple #[vF, vL]) ∧ w.heap.size ≤ base ∧ w'.ownsRow base 40 6 vF nF ((refF M us ad q).flatMap (encF (fTxt m us ad))) ∧ w'.ownsRow base 3 1 vL nL (Is (refL M us ad q)) ∧ Ext w w') := by
  obtain ⟨i0, hi, hz0, hz1, hz2⟩ := info_parts infoF
  obtain ⟨j0, hj, hw0, hw1, hw2⟩ := info_parts infoI
  have hm := hM.out.1
  have hm2 := hM.out.2.1
  have hkq : m ^ q ≤ 65536 := by have := hS.out.2.2; rwa [Int.toNat_natCast] at this
  have HQ1 := hid hS.out.2.1
  have HMQ : Hid (M ^ q ≤ 65536) := hid (by
    have h : ((M ^ q : Nat) : Int) = m ^ q := by rw [Int.natCast_pow, ← hmM.out]
    omega)
  have HM1 : Hid (1 ≤ M) := hid (by have := hmM.out; omega)
  have HMI : Hid (∀ i : Nat, i ≤ q → M ^ i ≤ 65536 ∧ m ^ i = ((M ^ i : Nat) : Int)) := hid (fun i hi => ⟨Nat.le_trans (Nat.pow_le_pow_right HM1.out hi) HMQ.out, by rw [Int.natCast_pow, ← hmM.out]⟩)
  have HQ : Hid (q ≤ 16) := hid (by
    rcases Nat.lt_or_ge 16 q with h | h
    · exfalso
      have h2 : m ^ 17 ≤ m ^ q := pow_grow hM.out.1 h
      have h3 : (2 : Int) ^ 17 ≤ m ^ 17 := two_pow hM.out.1 17
      have h4 : (2 : Int) ^ 17 = 131072 := by decide
      omega
    · exact h)
  clear hkq
  have HV := hid hv
  obtain ⟨A, n, cc, B, n2, d2, rfl, -⟩ := hv
  have hx : Ext w (w.alloc (.cells #[.int .i64 m, .slice A n cc, .slice B n2 d2] 24)) := (Ext.rfl' w).alloc' _
  have hr1 : Row (w.alloc (.cells #[.int .i64 m, .slice A n cc, .slice B n2 d2] 24)) w.heap.size 24 [.int .i64 m, .slice A n cc, .slice B n2 d2] := Row.new w _ _
  obtain ⟨w1, hw1_⟩ : ∃ w1, w.alloc (.cells #[.int .i64 m, .slice A n cc, .slice B n2 d2] 24) = w1 := ⟨_, rfl⟩
  rw [hw1_] at hx hr1
  have HW1 := hid hw1_
  have EX := hid hx
  have RM := hid hr1
  replace HV := hid (HV.out.ext hx)
  clear hw1_ hx hr1
  go_enter Tryz.func20, Tryz.ntmps20
  go_upto_region 1 with fail
  rw [HW1.out]
  clear HW1
  have EX1 := EX
  have HV1 := HV
  have RM1 := RM
  have E1 : Hid (Ext w1 w1) := hid (Ext.rfl' _)
  obtain ⟨f0, f1, f2, -, -, -⟩ := row_facts3 RM.out
  go_wp2_with fail
  go_loopw [6, 7, 8, 9] (fun fv lv nv iv wr => ∃ (i nF nL : Nat) (vF vL : Value), fv = vF ∧ lv = vL ∧ i ≤ q ∧ nv = .int .i64 (m ^ i) ∧ iv = .int .i64 ((i : Int) + 1) ∧ wr.ownsRow w1.heap.size 40 6 vF nF ((accF M us ad i 0).flatMap (encF (fTxt m us ad))) ∧ wr.ownsRow w1.heap.size 3 1 vL nL (Is (accL M us ad q i 0)) ∧ Ext w1 wr) (fun _ _ _ iv _ => q + 1 - (intOf iv).toNat)
  case atStart => exact ⟨0, 0, 0, _, _, rfl, rfl, by omega, by rw [Int.pow_zero], by simp, World.ownsRow_nil _ _ _ _, by rw [accL_zero (by have := HQ1.out; omega)]; exact World.ownsRow_nil _ _ _ _, E1.out⟩
  case round =>
    clear HV RM EX E1 f0 f1 f2
    obtain ⟨i, nF, nL, vF, vL, hfv, hlv, hiq, rfl, rfl, hF, hL, hex⟩ := hrel
    have hfv := hfv.symm
    have hlv := hlv.symm
    subst hfv hlv
    have E1 := hid hex
    have OF := hid hF
    have OL := hid hL
    have RM := hid (RM1.out.ext hex)
    have HV := hid (HV1.out.ext hex)
    clear hF hL hex
    obtain ⟨f0, f1, f2, -, -, -⟩ := row_facts3 RM.out
    by_cases hlt : i < q
    ·
      have hle : (i : Int) + 1 ≤ (q : Int) := by omega
      have hmw : IntKind.i64.wrap (m ^ i * m) = m ^ (i + 1) := by
        have e : m ^ i * m = m ^ (i + 1) := (Int.pow_succ m i).symm
        have h1 := HMI.out (i + 1) (by omega)
        rw [e, h1.2]
        exact IntWalk.i64_in _ (by omega)
      obtain ⟨wo, rfl⟩ : ∃ wo : World, wo = wr := ⟨_, rfl⟩
      go_wp2_with fail
      go_loopw [6, 7, 10] (fun fv lv rv wr => ∃ (r nF nL : Nat) (vF vL : Value), fv = vF ∧ lv = vL ∧ r ≤ M ^ (i + 1) ∧ rv = .int .i64 (r : Int) ∧ wr.ownsRow w1.heap.size 40 6 vF nF ((accF M us ad i r).flatMap (encF (fTxt m us ad))) ∧ wr.ownsRow w1.heap.size 3 1 vL nL (Is (accL M us ad q i r)) ∧ Ext w1 wr) (fun _ _ rv _ => M ^ (i + 1) - (intOf rv).toNat)
      case atStart => exact ⟨0, nF, nL, _, _, rfl, rfl, by omega, rfl, OF.out, OL.out, E1.out⟩
      case round =>
        clear HV RM E1 OF OL f0 f1 f2
        obtain ⟨r, nF, nL, vF2, vL2, hfv, hlv, hrm, rfl, hF, hL, hex⟩ := hrel
        have hfv := hfv.symm
        have hlv := hlv.symm
        subst hfv hlv
        have E1 := hid hex
        have OF := hid hF
        have OL := hid hL
        have RM := hid (RM1.out.ext hex)
        have HV := hid (HV1.out.ext hex)
        have HNF : Hid (nF = (accF M us ad i r).length) := hid (by
          have h := hF.1
          rw [show ((accF M us ad i r).flatMap (encF (fTxt m us ad))).length = (accF M us ad i r).length * 6 by rw [List.length_flatMap]; simp [encF, List.map_const', List.sum_replicate_nat]] at h
          omega)
        have HNL : Hid (nL = (accL M us ad q i r).length) := hid (by have h := hL.1; simp at h; omega)
        have hME := (HMI.out (i + 1) (by omega)).2
        rw [hME]
        have HR6 : Hid (r ≤ M ^ (i + 1) ∧ M ^ (i + 1) ≤ 65536) := hid ⟨hrm, (HMI.out (i + 1) (by omega)).1⟩
        have hnF : nF ≤ 2000000 := by rw [HNF.out]; exact accF_len HQ.out HMQ.out HM1.out hiq (by have := HR6.out; omega)
        have hnL : nL ≤ 65536 := by rw [HNL.out]; exact accL_len HMQ.out (by have := HR6.out; omega)
        clear hF hL hex hrm
        obtain ⟨f0, f1, f2, -, -, -⟩ := row_facts3 RM.out
        by_cases hrt : r < M ^ (i + 1)
        ·
          have hrt2 : (r : Int) < ((M ^ (i + 1) : Nat) : Int) := by omega
          obtain ⟨MM, hMM⟩ : ∃ t : Nat, M ^ (i + 1) = t := ⟨_, rfl⟩
          rw [hMM] at hrt2 hrt HR6
          rw [hMM]
          have HMME := hid hMM
          clear hMM hME hmw
          go_wp2_with fail
          refine (rfirst_s _ m us ad (r : Int) ((i : Int) + 1) (i + 1) wr HV.out hM (by omega) (by have := HR6.out; omega) (by have := HQ.out; omega) (hid (by simp))).mono ?_
          rintro e w30 ⟨at_, s, lv, rfl, hlr, hfc, hx⟩
          replace HV := hid (HV.out.ext hx)
          replace RM := hid (RM.out.ext hx)
          replace OF := hid (own_at OF.out (fun g hg => hx.block g (OF.out.lt g hg).2))
          replace OL := hid (own_at OL.out (fun g hg => hx.block g (OL.out.lt g hg).2))
          replace E1 := hid (E1.out.step hx)
          clear hx f0 f1 f2
          have HT2 := hid (first_told hfc)
          have HS : Hid (at_ = i + 1 → s = i + 1) := hid (by
            intro h
            rcases hfc with ⟨-, -, h2, -⟩ | ⟨h2, h3, -⟩
            · omega
            · omega)
          clear hfc
          have HLR := hid hlr
          obtain ⟨e1, E1_, t1, g1, e2, E2, t2, g2, e3, E3, t3, g3, rfl, -⟩ := hlr
          have ha := (Ext.rfl' w30).alloc' (.cells #[.bool e1, .slice E1_ t1 g1, .bool e2, .slice E2 t2 g2, .bool e3, .slice E3 t3 g3] 92)
          have hq : Row (w30.alloc (.cells #[.bool e1, .slice E1_ t1 g1, .bool e2, .slice E2 t2 g2, .bool e3, .slice E3 t3 g3] 92)) w30.heap.size 92 [.bool e1, .slice E1_ t1 g1, .bool e2, .slice E2 t2 g2, .bool e3, .slice E3 t3 g3] := Row.new w30 _ _
          obtain ⟨w31, hw31⟩ : ∃ w31, w30.alloc (.cells #[.bool e1, .slice E1_ t1 g1, .bool e2, .slice E2 t2 g2, .bool e3, .slice E3 t3 g3] 92) = w31 := ⟨_, rfl⟩
          rw [hw31] at ha hq
          have Ew31 := hid hw31
          have RL := hid hq
          replace HLR := hid (HLR.out.ext ha)
          replace HV := hid (HV.out.ext ha)
          replace RM := hid (RM.out.ext ha)
          replace OF := hid (own_at OF.out (fun g hg => ha.block g (OF.out.lt g hg).2))
          replace OL := hid (own_at OL.out (fun g hg => ha.block g (OL.out.lt g hg).2))
          replace E1 := hid (E1.out.step ha)
          clear ha hq hw31
          go_upto_region 12 with fail
          rw [Ew31.out]
          clear Ew31
          obtain ⟨HL, hHL⟩ : ∃ HL, w30.heap.size = HL := ⟨_, rfl⟩
          rw [hHL] at RL
          rw [hHL]
          clear hHL
          by_cases hat : at_ = i + 1
          ·
            obtain rfl := HS.out hat
            subst hat
            have hfb : firstB m us ad (i + 1) (r : Int) = true := HT2.out.1.1 rfl
            have hfa := (firstB_iff.1 hfb).1
            have HFIN := hid (show accF M us ad i (r + 1) = accF M us ad i r ++ [(((i + 1 : Nat) : Int), (r : Int))] by rw [accF_next, flL, ← hmM.out, if_pos hfb])
            have HB := hid (fall_nums hM.out hS.out.2.2 (show i + 1 ≤ q by omega) hfa)
            obtain ⟨M1, hM1⟩ : ∃ t, (lnX m us ad (r : Int) (i + 1)).1 = t := ⟨_, rfl⟩
            obtain ⟨A1, hA1⟩ : ∃ t, (lnX m us ad (r : Int) (i + 1)).2.1 = t := ⟨_, rfl⟩
            obtain ⟨D1, hD1⟩ : ∃ t, m ^ (i + 1) = t := ⟨_, rfl⟩
            have hL3 : lnX m us ad (r : Int) (i + 1) = (M1, A1, D1) := by rw [← hM1, ← hA1, ← hD1, ← lnX_div m us ad (r : Int) (i + 1)]
            rw [hL3] at HLR
            rw [hM1, hA1, hD1] at HB
            obtain ⟨bd, hbd⟩ : ∃ t, A1 / (D1 - M1) = t := ⟨_, rfl⟩
            rw [hbd] at HB
            have Hq := hid hbd
            obtain ⟨su, hsu⟩ : ∃ t, Str (K.txt M1) = t := ⟨_, rfl⟩
            obtain ⟨sa, hsa⟩ : ∃ t, Str (K.txt A1) = t := ⟨_, rfl⟩
            obtain ⟨sd, hsd⟩ : ∃ t, Str (K.txt D1) = t := ⟨_, rfl⟩
            obtain ⟨sb, hsb⟩ : ∃ t, Str (K.txt bd) = t := ⟨_, rfl⟩
            have HS1 := hid hsu
            have HS2 := hid hsa
            have HS3 := hid hsd
            have HS4 := hid hsb
            have HEN : Hid (encF (fTxt m us ad) (((i + 1 : Nat) : Int), (r : Int)) = [.int .i64 ((i : Int) + 1), .int .i64 (r : Int), .string su, .string sa, .string sd, .string sb]) := hid (by
              unfold encF fTxt
              simp only [Int.toNat_natCast]
              rw [hL3, hD1]
              simp only [hbd, hsu, hsa, hsd, hsb]
              simp)
            clear hM1 hA1 hD1 hL3 hbd hsu hsa hsd hsb hfb hfa HS
            obtain ⟨⟨y0, y1, y2, y3, y4, y5⟩, -⟩ := row_facts6 RL.out
            go_wp2_with fail
            refine (rfall_any _ _ _ M1 A1 D1 bd su sa sd sb w31 HLR.out HB Hq HS1 HS2 HS3 HS4).mono ?_
            unfold FaV
            rintro e w32 ⟨rfl, hx⟩
            replace OF := hid (own_at OF.out (fun g hg => hx.block g (OF.out.lt g hg).2))
            replace OL := hid (own_at OL.out (fun g hg => hx.block g (OL.out.lt g hg).2))
            replace E1 := hid (E1.out.step hx)
            clear hx y0 y1 y2 y3 y4 y5
            go_wp2_with (at_builtin; refine wpList_append_lies _ rfl _ _ _ rfl w1.heap.size 40 i0 (.agg #[.int .i64 0, .int .i64 0, .string ⟨#[]⟩, .string ⟨#[]⟩, .string ⟨#[]⟩, .string ⟨#[]⟩]) 6 80 Tryz.underlying26 hi hz0 hz1 hz2 rfl (by omega) _ nF _ rfl (OF.out.alloc _) ⟨w32.heap.size, 0, none⟩ 1 1 [.int .i64 ((i : Int) + 1), .int .i64 (r : Int), .string su, .string sa, .string sd, .string sb] rfl rfl (row_news _ _ _) (by simp [Value.oneCell']) (by omega) (by have : maxLen = 9223372036854775807 := rfl; omega) (by omega) (by have := E1.out.size; rw [World.size_alloc]; omega) _ rfl ?_)
            intro g' cap' w8 hown8 hgrow hat8 hlt8
            have HF8 : Hid (w8.ownsRow w1.heap.size 40 6 (.slice (some ⟨g', 0, none⟩) (nF + 1) cap') (nF + 1) ((accF M us ad i (r + 1)).flatMap (encF (fTxt m us ad)))) := hid (by
              rw [HFIN.out, List.flatMap_append]
              simp only [List.flatMap_cons, List.flatMap_nil, List.append_nil]
              rw [HEN.out]
              exact hown8)
            have HL8 := hid (own_keepL OF.out OL.out hgrow)
            have HE8 := hid (ext_by (E1.out.alloc' _) hgrow (fun k hk => (OF.out.lt k hk).1))
            clear hown8 hgrow hat8 hlt8 HEN HFIN HB Hq HS1 HS2 HS3 HS4
            replace OF := HF8
            replace OL := HL8
            replace E1 := HE8
            clear HF8 HL8 HE8
            clear RL HLR
            have hwi : IntKind.i64.wrap ((r : Int) + 1) = (r : Int) + 1 := IntWalk.i64_in _ (by have := HR6.out; omega)
            by_cases hiq2 : i + 1 = q
            ·
              have hqe : ((i : Int) + 1 == (q : Int)) = true := beq_iff_eq.2 (by omega)
              have hne : (((i + 1 : Nat) : Int) == 0) = false := beq_eq_false_iff_ne.2 (by omega)
              have hne2 : ((i : Int) + 1 == 0) = false := beq_eq_false_iff_ne.2 (by omega)
              have hat : ¬ i + 1 = 0 := by omega
              have hlb : ¬ leftB m us ad (i + 1) (r : Int) = true := fun h => hat (HT2.out.2.2 h)
              have HFIN : Hid (∃ r' : Nat, r' ≤ MM ∧ Value.int .i64 ((r : Int) + 1) = .int .i64 (r' : Int) ∧ accF M us ad i (r + 1) = accF M us ad i r' ∧ accL M us ad q i r = accL M us ad q i r') := hid ⟨r + 1, by omega, by simp, rfl, by
                rw [accL_next hiq2, llL, ← hmM.out, ← hiq2, if_neg hlb, List.append_nil]⟩
              clear hlb HT2
              go_wp2_with fail
              go_roundw
              case rel =>
                obtain ⟨r', h1, h2, h3, h4⟩ := HFIN.out
                exact ⟨r', _, _, _, _, rfl, rfl, h1, h2, by rw [← h3]; exact OF.out, by rw [← h4]; exact OL.out, E1.out⟩
              case measure => first | (simp [intOf]; done) | (simp [intOf]; omega)
            ·
              have hne : ((i : Int) + 1 == (q : Int)) = false := beq_eq_false_iff_ne.2 (by omega)
              have HFIN : Hid (∃ r' : Nat, r' ≤ MM ∧ Value.int .i64 ((r : Int) + 1) = .int .i64 (r' : Int) ∧ accF M us ad i (r + 1) = accF M us ad i r' ∧ accL M us ad q i r = accL M us ad q i r') := hid ⟨r + 1, by omega, by simp, rfl, (accL_same hiq2).symm⟩
              go_wp2_with fail
              go_roundw
              case rel =>
                obtain ⟨r', h1, h2, h3, h4⟩ := HFIN.out
                exact ⟨r', _, _, _, _, rfl, rfl, h1, h2, by rw [← h3]; exact OF.out, by rw [← h4]; exact OL.out, E1.out⟩
              case measure => first | (simp [intOf]; done) | (simp [intOf]; omega)
          ·
            have hne : ((at_ : Int) == (i : Int) + 1) = false := beq_eq_false_iff_ne.2 (by omega)
            have hfb : ¬ firstB m us ad (i + 1) (r : Int) = true := fun h => hat (HT2.out.1.2 h)
            have HFIN := hid (show accF M us ad i (r + 1) = accF M us ad i r by rw [accF_next, flL, ← hmM.out, if_neg hfb, List.append_nil])
            clear hfb
            rw [← HFIN.out] at OF
            clear HFIN
            clear RL HLR
            have hwi : IntKind.i64.wrap ((r : Int) + 1) = (r : Int) + 1 := IntWalk.i64_in _ (by have := HR6.out; omega)
            by_cases hiq2 : i + 1 = q
            ·
              have hqe : ((i : Int) + 1 == (q : Int)) = true := beq_iff_eq.2 (by omega)
              by_cases hat : at_ = 0
              ·
                subst hat
                have hlb : leftB m us ad (i + 1) (r : Int) = true := HT2.out.2.1 rfl
                have HLN := hid (show accL M us ad q i (r + 1) = accL M us ad q i r ++ [(r : Int)] by rw [accL_next hiq2, llL, ← hmM.out, ← hiq2, if_pos hlb])
                clear hlb HT2
                go_wp2_with (at_builtin; refine wpList_append_lies _ rfl _ _ _ rfl w1.heap.size 3 j0 (.int .i64 0) 1 8 Tryz.underlying22 hj hw0 hw1 hw2 rfl (by omega) _ nL _ rfl (OL.out.alloc _) ⟨w31.heap.size, 0, none⟩ 1 1 [.int .i64 (r : Int)] rfl rfl (row_news _ _ _) (by simp [Value.oneCell']) (by omega) (by have : maxLen = 9223372036854775807 := rfl; omega) (by omega) (by have := E1.out.size; rw [World.size_alloc]; omega) _ rfl ?_)
                intro g2 cap2 w9 hown8 hgrow hat8 hlt8
                have HL8 : Hid (w9.ownsRow w1.heap.size 3 1 (.slice (some ⟨g2, 0, none⟩) (nL + 1) cap2) (nL + 1) (Is (accL M us ad q i (r + 1)))) := hid (by
                  rw [HLN.out]
                  simpa using hown8)
                have HF8 := hid (own_keepF OF.out OL.out hgrow)
                have HE8 := hid (ext_by (E1.out.alloc' _) hgrow (fun k hk => (OL.out.lt k hk).1))
                have HFIN : Hid (∃ r' : Nat, r' ≤ MM ∧ Value.int .i64 ((r : Int) + 1) = .int .i64 (r' : Int) ∧ r' = r + 1) := hid ⟨r + 1, by omega, by simp, rfl⟩
                clear hown8 hgrow hat8 hlt8
                go_wp2_with fail
                go_roundw
                case rel =>
                  obtain ⟨r', h1, h2, rfl⟩ := HFIN.out
                  exact ⟨r + 1, _, _, _, _, rfl, rfl, h1, h2, HF8.out, HL8.out, HE8.out⟩
                case measure => first | (simp [intOf]; done) | (simp [intOf]; omega)
              ·
                have hne : ((at_ : Int) == 0) = false := beq_eq_false_iff_ne.2 (by omega)
                have hlb : ¬ leftB m us ad (i + 1) (r : Int) = true := fun h => hat (HT2.out.2.2 h)
                have HFIN : Hid (∃ r' : Nat, r' ≤ MM ∧ Value.int .i64 ((r : Int) + 1) = .int .i64 (r' : Int) ∧ accF M us ad i (r + 1) = accF M us ad i r' ∧ accL M us ad q i r = accL M us ad q i r') := hid ⟨r + 1, by omega, by simp, rfl, by
                  rw [accL_next hiq2, llL, ← hmM.out, ← hiq2, if_neg hlb, List.append_nil]⟩
                clear hlb HT2
                go_wp2_with fail
                go_roundw
                case rel =>
                  obtain ⟨r', h1, h2, h3, h4⟩ := HFIN.out
                  exact ⟨r', _, _, _, _, rfl, rfl, h1, h2, by rw [← h3]; exact OF.out, by rw [← h4]; exact OL.out, E1.out⟩
                case measure => first | (simp [intOf]; done) | (simp [intOf]; omega)
            ·
              have hne : ((i : Int) + 1 == (q : Int)) = false := beq_eq_false_iff_ne.2 (by omega)
              have HFIN : Hid (∃ r' : Nat, r' ≤ MM ∧ Value.int .i64 ((r : Int) + 1) = .int .i64 (r' : Int) ∧ accF M us ad i (r + 1) = accF M us ad i r' ∧ accL M us ad q i r = accL M us ad q i r') := hid ⟨r + 1, by omega, by simp, rfl, (accL_same hiq2).symm⟩
              go_wp2_with fail
              go_roundw
              case rel =>
                obtain ⟨r', h1, h2, h3, h4⟩ := HFIN.out
                exact ⟨r', _, _, _, _, rfl, rfl, h1, h2, by rw [← h3]; exact OF.out, by rw [← h4]; exact OL.out, E1.out⟩
              case measure => first | (simp [intOf]; done) | (simp [intOf]; omega)
        ·
          obtain rfl : r = M ^ (i + 1) := by have := HR6.out; omega
          have HFIN : Hid (∃ (i' nF' nL' : Nat), i' ≤ q ∧ Value.int .i64 ((M ^ (i + 1) : Nat) : Int) = .int .i64 (m ^ i') ∧ Value.int .i64 ((i : Int) + 1 + 1) = .int .i64 ((i' : Int) + 1) ∧ nF' = nF ∧ nL' = nL ∧ accF M us ad i (M ^ (i + 1)) = accF M us ad i' 0 ∧ accL M us ad q i (M ^ (i + 1)) = accL M us ad q i' 0) := hid ⟨i + 1, nF, nL, by omega, by rw [hME], by simp, rfl, rfl, accF_row _ _ _ _, accL_row hlt⟩
          have hwi : IntKind.i64.wrap ((i : Int) + 1 + 1) = (i : Int) + 1 + 1 := IntWalk.i64_in _ (by have := HQ.out; omega)
          have hrn : ¬ ((M ^ (i + 1) : Nat) : Int) < ((M ^ (i + 1) : Nat) : Int) := by omega
          clear hmw
          obtain ⟨MM, hMM⟩ : ∃ t : Nat, M ^ (i + 1) = t := ⟨_, rfl⟩
          rw [hMM] at HFIN OF OL hrn
          rw [hMM]
          clear hMM hME HR6 HNF HNL hrt
          go_wp2_with fail
          go_roundw
          case rel =>
            obtain ⟨i', nF', nL', h1, h2, h3, rfl, rfl, h6, h7⟩ := HFIN.out
            exact ⟨i', _, _, _, _, rfl, rfl, h1, h2, h3, by rw [← h6]; exact OF.out, by rw [← h7]; exact OL.out, E1.out⟩
          case measure => first | (simp [intOf]; done) | (simp [intOf]; omega)
    ·
      obtain rfl : i = q := by omega
      have hle : ¬ (i : Int) + 1 ≤ (i : Int) := by omega
      have HFIN := hid (accF_end M us ad i)
      have HFIN2 := hid (accL_end M us ad i)
      rw [HFIN.out] at OF
      rw [HFIN2.out] at OL
      have HE := hid (EX1.out.step E1.out)
      have HSZ := hid EX1.out.size
      go_wp2
      go_ret2
      first
        | exact ⟨_, _, rfl, _, HSZ.out, ⟨_, OF.out⟩, ⟨_, OL.out⟩, HE.out⟩
        | exact ⟨_, _, _, _, _, rfl, HSZ.out, OF.out, OL.out, HE.out⟩
end Go.Proofs.YtleccblkafcidaaGreatDoor
