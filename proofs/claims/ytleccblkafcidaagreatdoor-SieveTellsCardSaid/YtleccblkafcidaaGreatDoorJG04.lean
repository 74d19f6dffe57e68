/- Joined texts: (number).times, (number).minus; (number).compare, positive, rest, divide; (number).divide; (number).text, num.write; num.Valid; Plain mathematics of reading: decimal digits in groups of nine.; num.read; num.readBoth. -/
import Derived.Test.YtleccblkafcidaaGreatDoorJG03
import Derived.Laws.RangeAny
import Derived.Test.YtleccblkafcidaaGreatDoorJG01
set_option linter.unusedSimpArgs false
set_option linter.unusedVariables false
/- (number).times, (number).minus -/
namespace Go.Proofs.YtleccblkafcidaaGreatDoor
open Go.RowKit
set_option maxRecDepth 100000 in
set_option maxHeartbeats 1600000 in
theorem ntimes_l (A B : Option Addr) (ka ca kb cb a b : Nat) (na nb : Bool) (m : Int) (w : World) (ha : NatV w (.slice A ka ca) a) (hb : NatV w (.slice B kb cb) b) (la : a ≤ BIG) (lb : b ≤ BIG)
    (hm : m.natAbs = a * b) (hs : ((na != nb) && decide (0 < a * b)) = decide (m < 0)) :
    Calls Tryz.prog 159 #[.agg #[.bool na, .slice A ka ca], .agg #[.bool nb, .slice B kb cb]] w (NumPost m w) := by
  have HM := hid hm
  have HS := hid hs
  clear hm hs
  have hW2 : Ext w ((w.alloc (.cells #[.bool na, .slice A ka ca] 157)).alloc (.cells #[.bool nb, .slice B kb cb] 157)) := ((Ext.rfl' w).alloc' _).alloc' _
  have hW3 : Ext w (((w.alloc (.cells #[.bool na, .slice A ka ca] 157)).alloc (.cells #[.bool nb, .slice B kb cb] 157)).alloc (.cells #[.bool false, .slice none 0 0] 157)) := hW2.alloc' _
  have hk : ∀ w', Ext (((w.alloc (.cells #[.bool na, .slice A ka ca] 157)).alloc (.cells #[.bool nb, .slice B kb cb] 157)).alloc (.cells #[.bool false, .slice none 0 0] 157)) w' →
      w'.cell? ⟨w.heap.size, 0, none⟩ = some (.bool na) ∧ w'.cell? ⟨w.heap.size, 1, none⟩ = some (.slice A ka ca) ∧ w'.cell? ⟨w.heap.size + 1, 0, none⟩ = some (.bool nb) ∧ w'.cell? ⟨w.heap.size + 1, 1, none⟩ = some (.slice B kb cb) := by
    intro w' e
    have h1 := two_facts (W := w) (H := w.heap.size) (t := 157) (a := .bool na) (b := .slice A ka ca) (Ext.step (((Ext.rfl' _).alloc' _).alloc' _) e) rfl
    have h2 := two_facts (W := (w.alloc (.cells #[.bool na, .slice A ka ca] 157))) (H := w.heap.size + 1) (t := 157) (a := .bool nb) (b := .slice B kb cb) (Ext.step ((Ext.rfl' _).alloc' _) e) (by simp)
    exact ⟨h1.1, h1.2.1, h2.1, h2.2.1⟩
  have ht : ∀ w', Ext (((w.alloc (.cells #[.bool na, .slice A ka ca] 157)).alloc (.cells #[.bool nb, .slice B kb cb] 157)).alloc (.cells #[.bool false, .slice none 0 0] 157)) w' → _ :=
    fun w' e => two_facts (H := w.heap.size + 1 + 1) e (by simp)
  have HT := hid ht
  have hne1 : ¬ (w.heap.size + 1 + 1 = w.heap.size) := by omega
  have hne2 : ¬ (w.heap.size = w.heap.size + 1 + 1) := by omega
  have HK := hid hk
  have HW3 := hid hW3
  have HW2 := hid hW2
  clear hk hW3 hW2 ht
  go_enter Tryz.func159, Tryz.ntmps159
  go_wp2_with fail
  go_region_held3 (fun w' => w'.cell? ⟨w.heap.size, 0, none⟩ = some (.bool na) ∧ w'.cell? ⟨w.heap.size, 1, none⟩ = some (.slice A ka ca) ∧ w'.cell? ⟨w.heap.size + 1, 0, none⟩ = some (.bool nb) ∧ w'.cell? ⟨w.heap.size + 1, 1, none⟩ = some (.slice B kb cb))
    (first | go_keep | exact HK.out _ hx3a | exact HK.out _ hx3')
    (first | (go_at_call 204; refine (times_any _ _ a b _ (ha.ext ?_) (hb.ext ?_) la lb).mono ?_; (first | exact HW3.out | exact HW3.out.drew'); (first | exact HW3.out | exact HW3.out.drew'); rintro e w2 ⟨v2, rfl, hz2, hx2⟩; have hx3a := Ext.undrew hx2; obtain ⟨A2, k2, c2', rfl⟩ := hz2.slice) | (go_at_call 202; refine (signed_any (na != nb) _ (a * b) _ hz2 m HM.out HS.out).mono ?_; rintro e w3 ⟨v3, rfl, ⟨z3, b3, rfl, hb3, hz3⟩, hx3⟩; have hx3' := hx3a.step hx3; obtain ⟨A3, k3, c3', rfl⟩ := hz3.slice; obtain ⟨c0, c1, f0, f1, hl, _⟩ := HT.out _ hx3'))
  have hfin := NumPost.stored hx3' HW2.out (H := w.heap.size + 1 + 1) (by simp) hz3 b3 hb3.out
  have HF := hid hfin
  clear hfin
  go_wp2
  refine bodyPost_ret (v := .agg #[.bool b3, .slice A3 k3 c3']) (by simp [results, Tryz.results159, go_sem, c0, c1]) rfl HF.out
theorem ntimes_any (va vb : Value) (m n : Int) (w : World) (ha : NumV w va m) (hb : NumV w vb n) (la : m.natAbs ≤ BIG) (lb : n.natAbs ≤ BIG) :
    Calls Tryz.prog 159 #[va, vb] w (NumPost (m * n) w) := by
  obtain ⟨sa, ba, rfl, hba, hza⟩ := ha
  obtain ⟨sb, bb, rfl, hbb, hzb⟩ := hb
  obtain ⟨A, ka, ca, rfl⟩ := hza.slice
  obtain ⟨B, kb, cb, rfl⟩ := hzb.slice
  have eba := hba.out
  have ebb := hbb.out
  subst eba ebb
  refine ntimes_l A B ka ca kb cb _ _ _ _ (m * n) w hza hzb la lb (Int.natAbs_mul m n) ?_
  rcases Int.lt_trichotomy m 0 with h1 | h1 | h1 <;> rcases Int.lt_trichotomy n 0 with h2 | h2 | h2
  · have := Int.mul_pos_of_neg_of_neg h1 h2
    simp [h1, h2]; omega
  · subst h2; simp
  · have h3 := Int.mul_neg_of_neg_of_pos h1 h2
    have h4 : 0 < m.natAbs * n.natAbs := Nat.mul_pos (by omega) (by omega)
    simp [h1, h3, h4]; omega
  · subst h1; simp
  · subst h1; simp
  · subst h1; simp
  · have h3 := Int.mul_neg_of_pos_of_neg h1 h2
    have h4 : 0 < m.natAbs * n.natAbs := Nat.mul_pos (by omega) (by omega)
    simp [h2, h3, h4]; omega
  · subst h2; simp
  · have h3 := Int.mul_pos h1 h2
    have h4 : ¬ m < 0 := by omega
    have h5 : ¬ n < 0 := by omega
    simp [h4, h5]; omega
set_option maxRecDepth 100000 in
set_option maxHeartbeats 1600000 in
theorem nminus_l (A B : Option Addr) (ka ca kb cb : Nat) (na nb : Bool) (m n : Int) (w : World) (ha : NumV w (.agg #[.bool na, .slice A ka ca]) m) (hb : NumV w (.agg #[.bool nb, .slice B kb cb]) n) (la : m.natAbs ≤ BIG) (lb : n.natAbs ≤ BIG) :
    Calls Tryz.prog 152 #[.agg #[.bool na, .slice A ka ca], .agg #[.bool nb, .slice B kb cb]] w (NumPost (m + -n) w) := by
  have hW2 : Ext w ((w.alloc (.cells #[.bool na, .slice A ka ca] 157)).alloc (.cells #[.bool nb, .slice B kb cb] 157)) := ((Ext.rfl' w).alloc' _).alloc' _
  have hW3 : Ext w (((w.alloc (.cells #[.bool na, .slice A ka ca] 157)).alloc (.cells #[.bool nb, .slice B kb cb] 157)).alloc (.cells #[.bool false, .slice none 0 0] 157)) := hW2.alloc' _
  have hk : ∀ w', Ext (((w.alloc (.cells #[.bool na, .slice A ka ca] 157)).alloc (.cells #[.bool nb, .slice B kb cb] 157)).alloc (.cells #[.bool false, .slice none 0 0] 157)) w' →
      w'.cell? ⟨w.heap.size, 0, none⟩ = some (.bool na) ∧ w'.cell? ⟨w.heap.size, 1, none⟩ = some (.slice A ka ca) ∧ w'.cell? ⟨w.heap.size + 1, 0, none⟩ = some (.bool nb) ∧ w'.cell? ⟨w.heap.size + 1, 1, none⟩ = some (.slice B kb cb) := by
    intro w' e
    have h1 := two_facts (W := w) (H := w.heap.size) (t := 157) (a := .bool na) (b := .slice A ka ca) (Ext.step (((Ext.rfl' _).alloc' _).alloc' _) e) rfl
    have h2 := two_facts (W := (w.alloc (.cells #[.bool na, .slice A ka ca] 157))) (H := w.heap.size + 1) (t := 157) (a := .bool nb) (b := .slice B kb cb) (Ext.step ((Ext.rfl' _).alloc' _) e) (by simp)
    exact ⟨h1.1, h1.2.1, h2.1, h2.2.1⟩
  have ht : ∀ w', Ext (((w.alloc (.cells #[.bool na, .slice A ka ca] 157)).alloc (.cells #[.bool nb, .slice B kb cb] 157)).alloc (.cells #[.bool false, .slice none 0 0] 157)) w' → _ :=
    fun w' e => two_facts (H := w.heap.size + 1 + 1) e (by simp)
  have HT := hid ht
  have hne1 : ¬ (w.heap.size + 1 + 1 = w.heap.size) := by omega
  have hne2 : ¬ (w.heap.size = w.heap.size + 1 + 1) := by omega
  have HK := hid hk
  have HW3 := hid hW3
  have HW2 := hid hW2
  clear hk hW3 hW2 ht
  go_enter Tryz.func152, Tryz.ntmps152
  go_wp2_with fail
  go_region_held3 (fun w' => w'.cell? ⟨w.heap.size, 0, none⟩ = some (.bool na) ∧ w'.cell? ⟨w.heap.size, 1, none⟩ = some (.slice A ka ca) ∧ w'.cell? ⟨w.heap.size + 1, 0, none⟩ = some (.bool nb) ∧ w'.cell? ⟨w.heap.size + 1, 1, none⟩ = some (.slice B kb cb))
    (first | go_keep | exact HK.out _ hx3a | exact HK.out _ hx3')
    (first | (go_at_call 198; refine (opposite_any _ n _ (hb.ext ?_)).mono ?_; (first | exact HW3.out | exact HW3.out.drew'); rintro e w2 ⟨v2, rfl, ⟨z2, b2, rfl, hb2, hz2⟩, hx2⟩; have hx3a := Ext.undrew hx2; obtain ⟨A2, k2, c2', rfl⟩ := hz2.slice) | (go_at_call 197; refine (nplus_any _ _ m (-n) _ (ha.ext ?_) ⟨_, _, rfl, hb2, hz2⟩ la (by omega)).mono ?_; exact HW3.out.step hx3a; rintro e w3 ⟨v3, rfl, ⟨z3, b3, rfl, hb3, hz3⟩, hx3⟩; have hx3' := hx3a.step hx3; obtain ⟨A3, k3, c3', rfl⟩ := hz3.slice; obtain ⟨c0, c1, f0, f1, hl, _⟩ := HT.out _ hx3'))
  have hfin := NumPost.stored hx3' HW2.out (H := w.heap.size + 1 + 1) (by simp) hz3 b3 hb3.out
  have HF := hid hfin
  clear hfin
  go_wp2
  refine bodyPost_ret (v := .agg #[.bool b3, .slice A3 k3 c3']) (by simp [results, Tryz.results152, go_sem, c0, c1]) rfl HF.out
theorem nminus_any (va vb : Value) (m n : Int) (w : World) (ha : NumV w va m) (hb : NumV w vb n) (la : m.natAbs ≤ BIG) (lb : n.natAbs ≤ BIG) :
    Calls Tryz.prog 152 #[va, vb] w (NumPost (m - n) w) := by
  obtain ⟨sa, ba, rfl, hba, hza⟩ := ha
  obtain ⟨sb, bb, rfl, hbb, hzb⟩ := hb
  obtain ⟨A, ka, ca, rfl⟩ := hza.slice
  obtain ⟨B, kb, cb, rfl⟩ := hzb.slice
  rw [Int.sub_eq_add_neg]
  exact nminus_l A B ka ca kb cb _ _ m n w ⟨_, _, rfl, hba, hza⟩ ⟨_, _, rfl, hbb, hzb⟩ la lb
end Go.Proofs.YtleccblkafcidaaGreatDoor
/- (number).compare, positive, rest, divide -/
namespace Go.Proofs.YtleccblkafcidaaGreatDoor
open Go.RowKit
def sgnI (a b : Int) : Int := if a < b then -1 else if b < a then 1 else 0
/-- two boxed numbers, read through whatever is laid behind them -/
theorem boxes {w w' : World} {a0 a1 b0 b1 : Value} {t : TypeId} (e : Ext ((w.alloc (.cells #[a0, a1] t)).alloc (.cells #[b0, b1] t)) w') :
    w'.cell? ⟨w.heap.size, 0, none⟩ = some a0 ∧ w'.cell? ⟨w.heap.size, 1, none⟩ = some a1 ∧ w'.cell? ⟨w.heap.size + 1, 0, none⟩ = some b0 ∧ w'.cell? ⟨w.heap.size + 1, 1, none⟩ = some b1 := by
  have h1 := two_facts (W := w) (H := w.heap.size) (t := t) (a := a0) (b := a1) (Ext.step ((Ext.rfl' _).alloc' _) e) rfl
  have h2 := two_facts (W := w.alloc (.cells #[a0, a1] t)) (H := w.heap.size + 1) (t := t) (a := b0) (b := b1) e (by simp)
  exact ⟨h1.1, h1.2.1, h2.1, h2.2.1⟩
set_option maxHeartbeats 800000 in
theorem ncmp_any (va vb : Value) (m n : Int) (w : World) (ha : NumV w va m) (hb : NumV w vb n) (la : m.natAbs ≤ BIG) (lb : n.natAbs ≤ BIG) :
    Calls Tryz.prog 205 #[va, vb] w fun e w' => e = .returned (.int .i64 (sgnI m n)) ∧ Ext w w' := by
  obtain ⟨sa, ba, rfl, hba, hza⟩ := ha
  obtain ⟨sb, bb, rfl, hbb, hzb⟩ := hb
  obtain ⟨A, ka, ca, rfl⟩ := hza.slice
  obtain ⟨B, kb, cb, rfl⟩ := hzb.slice
  have eba := hba.out
  have ebb := hbb.out
  subst eba ebb
  have hE : Ext w ((w.alloc (.cells #[.bool (decide (m < 0)), .slice A ka ca] 157)).alloc (.cells #[.bool (decide (n < 0)), .slice B kb cb] 157)) := ((Ext.rfl' w).alloc' _).alloc' _
  have e1 : m < 0 → n < 0 → sgn n.natAbs m.natAbs = sgnI m n := by intro h1 h2; unfold sgn sgnI; repeat (first | omega | split)
  have e2 : ¬ m < 0 → ¬ n < 0 → sgn m.natAbs n.natAbs = sgnI m n := by intro h1 h2; unfold sgn sgnI; repeat (first | omega | split)
  have e3 : m < 0 → ¬ n < 0 → sgnI m n = -1 := by intro h1 h2; unfold sgnI; rw [if_pos (by omega)]
  have e4 : ¬ m < 0 → n < 0 → sgnI m n = 1 := by intro h1 h2; unfold sgnI; rw [if_neg (by omega), if_pos (by omega)]
  have E1 := hid e1
  have E2 := hid e2
  have E3 := hid e3
  have E4 := hid e4
  have HE := hid hE
  clear e1 e2 e3 e4 hE hba hbb
  by_cases h1 : m < 0 <;> by_cases h2 : n < 0
  · rw [decide_eq_true h1, decide_eq_true h2] at *
    have S1 := hid (E1.out h1 h2)
    clear h1 h2
    go_enter Tryz.func205, Tryz.ntmps205
    go_wp2_with fail
    refine (natCmp_any _ _ n.natAbs m.natAbs _ (hzb.ext HE.out) (hza.ext HE.out) lb la).mono ?_
    rintro e w3 ⟨rfl, hw3⟩
    go_wp2
    go_ret
    exact ⟨by rw [← S1.out]; rfl, HE.out.step hw3.ext⟩
  · rw [decide_eq_true h1, decide_eq_false h2] at *
    have S1 := hid (E3.out h1 h2)
    clear h1 h2
    go_enter Tryz.func205, Tryz.ntmps205
    go_wp2
    go_ret
    exact ⟨by rw [S1.out]; rfl, HE.out⟩
  · rw [decide_eq_false h1, decide_eq_true h2] at *
    have S1 := hid (E4.out h1 h2)
    clear h1 h2
    go_enter Tryz.func205, Tryz.ntmps205
    go_wp2
    go_ret
    exact ⟨by rw [S1.out]; rfl, HE.out⟩
  · rw [decide_eq_false h1, decide_eq_false h2] at *
    have S1 := hid (E2.out h1 h2)
    clear h1 h2
    go_enter Tryz.func205, Tryz.ntmps205
    go_wp2_with fail
    refine (natCmp_any _ _ m.natAbs n.natAbs _ (hza.ext HE.out) (hzb.ext HE.out) la lb).mono ?_
    rintro e w3 ⟨rfl, hw3⟩
    go_wp2
    go_ret
    exact ⟨by rw [← S1.out]; rfl, HE.out.step hw3.ext⟩
theorem positive_any (va : Value) (m : Int) (w : World) (ha : NumV w va m) :
    Calls Tryz.prog 156 #[va] w fun e w' => e = .returned (.bool (decide (0 < m))) ∧ Ext w w' := by
  obtain ⟨sa, ba, rfl, hba, hza⟩ := ha
  obtain ⟨A, ka, ca, rfl⟩ := hza.slice
  have eba := hba.out
  have hk := hza.len_zero
  subst eba
  by_cases h1 : m < 0
  · have h2 : decide (0 < m) = false := by simp; omega
    rw [decide_eq_true h1, h2] at *
    clear h1 h2 hk
    go_enter Tryz.func156, Tryz.ntmps156
    go_wp2
    go_ret
    exact ⟨rfl, (Ext.rfl' w).alloc' _⟩
  · rw [decide_eq_false h1] at *
    by_cases h0 : 0 < ka
    · have h2 : decide (0 < m) = true := by simp; have := hk.1 h0; omega
      rw [h2]
      clear h1 h2 hk
      go_enter Tryz.func156, Tryz.ntmps156
      go_wp2
      go_ret
      exact ⟨rfl, (Ext.rfl' w).alloc' _⟩
    · have h2 : decide (0 < m) = false := by simp; have : ¬ 0 < m.natAbs := fun h => h0 (hk.2 h); omega
      rw [h2]
      clear h1 h2 hk
      go_enter Tryz.func156, Tryz.ntmps156
      go_wp2
      go_ret
      exact ⟨rfl, (Ext.rfl' w).alloc' _⟩
/-- division of a negative number -/
theorem div_neg {m n : Int} (hm : m < 0) (hn : 0 < n) (h0 : m.natAbs % n.natAbs = 0) : m / n = -((m.natAbs / n.natAbs : Nat) : Int) ∧ m % n = 0 := by
  have h := Nat.div_add_mod m.natAbs n.natAbs
  refine (Int.ediv_emod_unique hn).2 ⟨?_, by omega, hn⟩
  rw [h0, Nat.add_zero] at h
  have h' : ((n.natAbs * (m.natAbs / n.natAbs) : Nat) : Int) = (m.natAbs : Int) := by rw [h]
  rw [Int.natCast_mul] at h'
  rw [Int.mul_neg]
  have e1 : (n.natAbs : Int) = n := by omega
  rw [e1] at h'
  omega
theorem div_neg' {m n : Int} (hm : m < 0) (hn : 0 < n) (h0 : 0 < m.natAbs % n.natAbs) : m / n = -(((m.natAbs / n.natAbs + 1 : Nat)) : Int) ∧ m % n = ((n.natAbs - m.natAbs % n.natAbs : Nat) : Int) := by
  have h := Nat.div_add_mod m.natAbs n.natAbs
  have hlt := Nat.mod_lt m.natAbs (show 0 < n.natAbs by omega)
  refine (Int.ediv_emod_unique hn).2 ⟨?_, by omega, by omega⟩
  have h' : ((n.natAbs * (m.natAbs / n.natAbs) + m.natAbs % n.natAbs : Nat) : Int) = (m.natAbs : Int) := by rw [h]
  rw [Int.natCast_add, Int.natCast_mul] at h'
  rw [Int.mul_neg, Int.natCast_add, Int.mul_add]
  have e1 : (n.natAbs : Int) = n := by omega
  rw [e1] at h'
  omega
theorem div_pos' {m n : Int} (hm : ¬ m < 0) (hn : 0 < n) : m / n = ((m.natAbs / n.natAbs : Nat) : Int) ∧ m % n = ((m.natAbs % n.natAbs : Nat) : Int) := by
  have h := Nat.div_add_mod m.natAbs n.natAbs
  have hlt := Nat.mod_lt m.natAbs (show 0 < n.natAbs by omega)
  refine (Int.ediv_emod_unique hn).2 ⟨?_, by omega, by omega⟩
  have h' : ((n.natAbs * (m.natAbs / n.natAbs) + m.natAbs % n.natAbs : Nat) : Int) = (m.natAbs : Int) := by rw [h]
  rw [Int.natCast_add, Int.natCast_mul] at h'
  have e1 : (n.natAbs : Int) = n := by omega
  rw [e1] at h'
  omega
set_option maxHeartbeats 800000 in
theorem nrest_any (va : Value) (m : Int) (d : Nat) (w : World) (ha : NumV w va m) (la : m.natAbs ≤ BIG) (hd : 0 < d) (hd2 : d ≤ 2147483648) :
    Calls Tryz.prog 117 #[va, .int .u64 (d : Int)] w fun e w' => e = .returned (.int .u64 (m % d)) ∧ Ext w w' := by
  obtain ⟨sa, ba, rfl, hba, hza⟩ := ha
  obtain ⟨A, ka, ca, rfl⟩ := hza.slice
  have eba := hba.out
  subst eba
  have hlt := Nat.mod_lt m.natAbs hd
  have hE : ∀ x, Ext w (w.alloc x) := fun x => (Ext.rfl' w).alloc' x
  by_cases h1 : m < 0
  · rw [decide_eq_true h1]
    by_cases h0 : m.natAbs % d = 0
    · have hv : m % (d : Int) = 0 := (div_neg (n := d) h1 (by omega) (by simpa using h0)).2
      have HV := hid hv
      have H0 := hid h0
      clear hv h0 hba
      go_enter Tryz.func117, Tryz.ntmps117
      go_wp2_with fail
      refine (divS_any _ m.natAbs d _ (hza.ext (hE _)) la hd hd2).mono ?_
      rintro e w3 ⟨v3, rfl, hz3, hx3⟩
      obtain ⟨c0, c1, -, -, -, -⟩ := two_facts hx3 rfl
      rw [H0.out]
      go_wp2
      go_ret
      exact ⟨by rw [HV.out]; rfl, (hE _).step hx3⟩
    · have hv : m % (d : Int) = ((d - m.natAbs % d : Nat) : Int) := by
        have := (div_neg' (n := d) h1 (by omega) (by simp; omega)).2
        simpa using this
      have HV := hid hv
      have hr0 : 0 < m.natAbs % d := by omega
      clear hv hba h0
      go_enter Tryz.func117, Tryz.ntmps117
      go_wp2_with fail
      refine (divS_any _ m.natAbs d _ (hza.ext (hE _)) la hd hd2).mono ?_
      rintro e w3 ⟨v3, rfl, hz3, hx3⟩
      obtain ⟨c0, c1, -, -, -, -⟩ := two_facts hx3 rfl
      generalize m.natAbs % d = r at *
      go_wp2
      go_ret
      exact ⟨by rw [HV.out, Int.ofNat_sub (by omega)]; rfl, (hE _).step hx3⟩
  · rw [decide_eq_false h1]
    have hv : m % (d : Int) = ((m.natAbs % d : Nat) : Int) := by
      have := (div_pos' (n := d) h1 (by omega)).2
      simpa using this
    have HV := hid hv
    clear hv hba
    go_enter Tryz.func117, Tryz.ntmps117
    go_wp2_with fail
    refine (divS_any _ m.natAbs d _ (hza.ext (hE _)) la hd hd2).mono ?_
    rintro e w3 ⟨v3, rfl, hz3, hx3⟩
    obtain ⟨c0, c1, -, -, -, -⟩ := two_facts hx3 rfl
    generalize m.natAbs % d = r at *
    go_wp2
    go_ret
    exact ⟨by rw [HV.out]; rfl, (hE _).step hx3⟩
end Go.Proofs.YtleccblkafcidaaGreatDoor
/- (number).divide -/
namespace Go.Proofs.YtleccblkafcidaaGreatDoor
open Go.RowKit
theorem NatV.one (w : World) : NatV (w.alloc (.cells #[.int .u64 1] 160)) (.slice (some ⟨w.heap.size, 0, none⟩) 1 1) 1 :=
  ⟨_, 1, 1, [1], rfl, rfl, Nat.le_refl _, (Row.new w 160 [.int .u64 1]).rd0, ⟨by simp, by simp⟩, rfl⟩
theorem abs_neg (q : Nat) : (-(q : Int)).natAbs = q := by omega
theorem abs_cast (q : Nat) : ((q : Int)).natAbs = q := by omega
theorem dec_neg (q : Nat) : (true && decide (0 < q)) = decide (-(q : Int) < 0) := by rw [Bool.eq_iff_iff]; simp
theorem dec_cast (q : Nat) : false = decide ((q : Int) < 0) := by symm; simp
/-- two boxes and two results -/
theorem four {w w' : World} {a0 a1 b0 b1 c0 c1 d0 d1 : Value} {t : TypeId} (e : Ext ((((w.alloc (.cells #[a0, a1] t)).alloc (.cells #[b0, b1] t)).alloc (.cells #[c0, c1] t)).alloc (.cells #[d0, d1] t)) w') :
    (w'.cell? ⟨w.heap.size, 0, none⟩ = some a0 ∧ w'.cell? ⟨w.heap.size, 1, none⟩ = some a1 ∧ w'.cell? ⟨w.heap.size + 1, 0, none⟩ = some b0 ∧ w'.cell? ⟨w.heap.size + 1, 1, none⟩ = some b1) ∧
      Row w' (w.heap.size + 1 + 1) t [c0, c1] ∧ Row w' (w.heap.size + 1 + 1 + 1) t [d0, d1] ∧ w.heap.size + 1 + 1 + 1 < w'.heap.size := by
  have h3 := two_facts (W := (w.alloc (.cells #[a0, a1] t)).alloc (.cells #[b0, b1] t)) (H := w.heap.size + 1 + 1) (t := t) (a := c0) (b := c1) (Ext.step ((Ext.rfl' _).alloc' _) e) (by simp)
  have h4 := two_facts (H := w.heap.size + 1 + 1 + 1) e (by simp)
  exact ⟨boxes (Ext.step (((Ext.rfl' _).alloc' _).alloc' _) e), h3.2.2.2.2.2, h4.2.2.2.2.2, h4.2.2.2.2.1⟩
theorem Row.facts {w : World} {g : Nat} {t : TypeId} {a b : Value} (h : Row w g t [a, b]) : w.cell? ⟨g, 0, none⟩ = some a ∧ w.cell? ⟨g, 1, none⟩ = some b ∧ w.frozen? ⟨g, 0, none⟩ = false ∧ w.frozen? ⟨g, 1, none⟩ = false :=
  ⟨by rw [h.cell]; rfl, by rw [h.cell]; rfl, h.free 0, h.free 1⟩
def PairPost (q r : Int) (w : World) (e : Ending) (w' : World) : Prop := ∃ v1 v2, e = .returned (.tuple #[v1, v2]) ∧ NumV w' v1 q ∧ NumV w' v2 r ∧ Ext w w'
/-- two numbers stored into the results' cells -/
theorem PairPost.stored {w w3 : World} {q r : Int} {A1 A2 : Option Addr} {k1 c1 k2 c2 H : Nat} {t : TypeId} (r1 : Row w3 H t [.bool false, .slice none 0 0]) (r2 : Row w3 (H + 1) t [.bool false, .slice none 0 0])
    (hw : Ext w w3) (hH : w.heap.size ≤ H) {b1 b2 : Bool} (h1 : Hid (b1 = decide (q < 0))) (h2 : Hid (b2 = decide (r < 0))) (z1 : NatV w3 (.slice A1 k1 c1) q.natAbs) (z2 : NatV w3 (.slice A2 k2 c2) r.natAbs) :
    PairPost q r w (.returned (.tuple #[.agg #[.bool b1, .slice A1 k1 c1], .agg #[.bool b2, .slice A2 k2 c2]]))
      ((((w3.setCell ⟨H, 0, none⟩ (.bool b1)).setCell ⟨H, 1, none⟩ (.slice A1 k1 c1)).setCell ⟨H + 1, 0, none⟩ (.bool b2)).setCell ⟨H + 1, 1, none⟩ (.slice A2 k2 c2)) := by
  have r2' : Row ((w3.setCell ⟨H, 0, none⟩ (.bool b1)).setCell ⟨H, 1, none⟩ (.slice A1 k1 c1)) (H + 1) t [.bool false, .slice none 0 0] :=
    (r2.far (by show H + 1 ≠ H; omega) _).far (by show H + 1 ≠ H; omega) _
  exact ⟨_, _, rfl, ⟨_, _, rfl, h1, (z1.two r1).two r2'⟩, ⟨_, _, rfl, h2, (z2.two r1).two r2'⟩,
    (((hw.set' (by show _ ≤ H; omega) _).set' (by show _ ≤ H; omega) _).set' (by show _ ≤ H + 1; omega) _).set' (by show _ ≤ H + 1; omega) _⟩
set_option maxRecDepth 100000 in
set_option maxHeartbeats 1600000 in
theorem ndivide_any (va vb : Value) (m n : Int) (w : World) (ha : NumV w va m) (hb : NumV w vb n) (la : m.natAbs ≤ BIG) (lb : n.natAbs ≤ BIG) (hn : 0 < n) :
    Calls Tryz.prog 157 #[va, vb] w (PairPost (m / n) (m % n) w) := by
  obtain ⟨sa, ba, rfl, hba, hza⟩ := ha
  obtain ⟨sb, bb, rfl, hbb, hzb⟩ := hb
  obtain ⟨A, ka, ca, rfl⟩ := hza.slice
  obtain ⟨B, kb, cb, rfl⟩ := hzb.slice
  have eba := hba.out
  subst eba
  have hbp : 0 < n.natAbs := by omega
  have hlt := Nat.mod_lt m.natAbs hbp
  have hE : Ext w ((((w.alloc (.cells #[.bool (decide (m < 0)), .slice A ka ca] 157)).alloc (.cells #[.bool bb, .slice B kb cb] 157)).alloc (.cells #[.bool false, .slice none 0 0] 157)).alloc (.cells #[.bool false, .slice none 0 0] 157)) :=
    (((((Ext.rfl' w).alloc' _).alloc' _).alloc' _).alloc' _)
  have HE := hid hE
  have HLT := hid hlt
  have hqle : m.natAbs / n.natAbs + 1 ≤ BIG + 1 := by have := Nat.div_le_self m.natAbs n.natAbs; omega
  clear hE hba hbb hlt
  by_cases h1 : m < 0
  · rw [decide_eq_true h1] at *
    by_cases h0 : m.natAbs % n.natAbs = 0
    · have hv := div_neg h1 hn h0
      have HV := hid hv
      have H0 := hid h0
      have hqs : Hid ((true && decide (0 < m.natAbs / n.natAbs)) = decide (m / n < 0)) := by
        show _ = _
        rw [hv.1]; exact dec_neg _
      clear hv h0
      go_enter Tryz.func157, Tryz.ntmps157
      go_wp2_with fail
      refine (div_any _ _ m.natAbs n.natAbs _ (hza.ext HE.out) (hzb.ext HE.out) la lb hbp).mono ?_
      rintro e w3 ⟨v1, v2, rfl, hz1, hz2, hx3⟩
      rw [H0.out] at hz2
      obtain ⟨A2, k2, c2, rfl⟩ := hz2.slice
      obtain ⟨⟨f1, f2, f3, f4⟩, -, -, -⟩ := four hx3
      obtain rfl : k2 = 0 := by
        have := hz2.len_zero
        omega
      go_wp2_with fail
      refine (signed_any true _ _ _ hz1 (m / n) (by rw [HV.out.1]; exact abs_neg _) hqs.out).mono ?_
      rintro e w4 ⟨v4, rfl, ⟨z4, b4, rfl, hb4, hz4⟩, hx4⟩
      obtain ⟨A4, k4, c4, rfl⟩ := hz4.slice
      obtain ⟨⟨-, -, -, -⟩, r1, r2, hl⟩ := four (hx3.step hx4)
      have hfin := PairPost.stored r1 r2 (HE.out.step (hx3.step hx4)) (by omega) hb4 (hid (show false = decide (m % n < 0) by rw [HV.out.2]; rfl)) hz4 (by rw [HV.out.2]; exact hz2.ext hx4)
      obtain ⟨g0, g1, g2, g3⟩ := r1.facts
      obtain ⟨i0, i1, i2, i3⟩ := r2.facts
      have HF := hid hfin
      clear hfin r1 r2 f1 f2 f3 f4 hx3 hx4
      go_wp2
      refine bodyPost_ret (v := .tuple #[.agg #[.bool b4, .slice A4 k4 c4], .agg #[.bool false, .slice A2 0 c2]]) (by simp [results, Tryz.results157, go_sem, g0, g1, i0, i1]) rfl ?_
      exact HF.out
    · have hr0 : 0 < m.natAbs % n.natAbs := by omega
      have hv := div_neg' h1 hn hr0
      have HV := hid hv
      have hqs : Hid ((true && decide (0 < m.natAbs / n.natAbs + 1)) = decide (m / n < 0)) := by
        show _ = _
        rw [hv.1]; exact dec_neg _
      have hqB : m.natAbs / n.natAbs ≤ BIG := Nat.le_trans (Nat.div_le_self _ _) la
      clear hv h0
      go_enter Tryz.func157, Tryz.ntmps157
      go_wp2_with fail
      refine (div_any _ _ m.natAbs n.natAbs _ (hza.ext HE.out) (hzb.ext HE.out) la lb hbp).mono ?_
      rintro e w3 ⟨v1, v2, rfl, hz1, hz2, hx3⟩
      obtain ⟨A2, k2, c2, rfl⟩ := hz2.slice
      obtain ⟨⟨f1, f2, f3, f4⟩, -, -, -⟩ := four hx3
      have hk2 : 0 < k2 := (hz2.len_zero).2 hr0
      go_wp2_with fail
      refine (plus_any _ _ _ 1 _ (hz1.ext ((Ext.rfl' _).alloc' _)) (NatV.one w3) hqB (by unfold BIG; rw [show (1000 : Nat) = 999 + 1 from rfl, zeros_succ, K.lv]; omega)).mono ?_
      rintro e w5 ⟨v5, rfl, hz5, hx5⟩
      have hx5' : Ext w3 w5 := ((Ext.rfl' _).alloc' _).step hx5
      obtain ⟨⟨f1, f2, f3, f4⟩, -, -, -⟩ := four (hx3.step hx5')
      go_wp2_with fail
      refine (minus_any _ _ n.natAbs (m.natAbs % n.natAbs) _ (hzb.ext (HE.out.step (hx3.step hx5'))) (hz2.ext hx5') lb (by have := HLT.out; omega)).mono ?_
      rintro e w6 ⟨v6, rfl, hz6, hx6⟩
      obtain ⟨A6, k6, c6, rfl⟩ := hz6.slice
      obtain ⟨⟨f1, f2, f3, f4⟩, -, -, -⟩ := four ((hx3.step hx5').step hx6)
      go_wp2_with fail
      refine (signed_any true _ _ _ (hz5.ext hx6) (m / n) (by rw [HV.out.1]; exact abs_neg _) hqs.out).mono ?_
      rintro e w4 ⟨v4, rfl, ⟨z4, b4, rfl, hb4, hz4⟩, hx4⟩
      obtain ⟨A4, k4, c4, rfl⟩ := hz4.slice
      have hxx := ((hx3.step hx5').step hx6).step hx4
      obtain ⟨⟨-, -, -, -⟩, r1, r2, hl⟩ := four hxx
      have hfin := PairPost.stored r1 r2 (HE.out.step hxx) (by omega) hb4 (hid (show false = decide (m % n < 0) by rw [HV.out.2]; exact dec_cast _)) hz4 (by rw [HV.out.2, abs_cast]; exact hz6.ext hx4)
      obtain ⟨g0, g1, g2, g3⟩ := r1.facts
      obtain ⟨i0, i1, i2, i3⟩ := r2.facts
      have HF := hid hfin
      clear hfin r1 r2 f1 f2 f3 f4 hx3 hx4 hx5 hx6 hx5' hxx
      go_wp2
      refine bodyPost_ret (v := .tuple #[.agg #[.bool b4, .slice A4 k4 c4], .agg #[.bool false, .slice A6 k6 c6]]) (by simp [results, Tryz.results157, go_sem, g0, g1, i0, i1]) rfl ?_
      exact HF.out
  · rw [decide_eq_false h1] at *
    have hv := div_pos' h1 hn
    have HV := hid hv
    have hqs : Hid ((false && decide (0 < m.natAbs / n.natAbs)) = decide (m / n < 0)) := by
      show _ = _
      rw [hv.1, Bool.false_and]; exact dec_cast _
    clear hv
    go_enter Tryz.func157, Tryz.ntmps157
    go_wp2_with fail
    refine (div_any _ _ m.natAbs n.natAbs _ (hza.ext HE.out) (hzb.ext HE.out) la lb hbp).mono ?_
    rintro e w3 ⟨v1, v2, rfl, hz1, hz2, hx3⟩
    obtain ⟨A2, k2, c2, rfl⟩ := hz2.slice
    obtain ⟨⟨f1, f2, f3, f4⟩, -, -, -⟩ := four hx3
    go_wp2_with fail
    refine (signed_any false _ _ _ hz1 (m / n) (by rw [HV.out.1]; exact abs_cast _) hqs.out).mono ?_
    rintro e w4 ⟨v4, rfl, ⟨z4, b4, rfl, hb4, hz4⟩, hx4⟩
    obtain ⟨A4, k4, c4, rfl⟩ := hz4.slice
    obtain ⟨⟨-, -, -, -⟩, r1, r2, hl⟩ := four (hx3.step hx4)
    have hfin := PairPost.stored r1 r2 (HE.out.step (hx3.step hx4)) (by omega) hb4 (hid (show false = decide (m % n < 0) by rw [HV.out.2]; exact dec_cast _)) hz4 (by rw [HV.out.2, abs_cast]; exact hz2.ext hx4)
    obtain ⟨g0, g1, g2, g3⟩ := r1.facts
    obtain ⟨i0, i1, i2, i3⟩ := r2.facts
    have HF := hid hfin
    clear hfin r1 r2 f1 f2 f3 f4 hx3 hx4
    go_wp2
    refine bodyPost_ret (v := .tuple #[.agg #[.bool b4, .slice A4 k4 c4], .agg #[.bool false, .slice A2 k2 c2]]) (by simp [results, Tryz.results157, go_sem, g0, g1, i0, i1]) rfl ?_
    exact HF.out
end Go.Proofs.YtleccblkafcidaaGreatDoor
/- (number).text, num.write -/
namespace Go.Proofs.YtleccblkafcidaaGreatDoor
open Go.RowKit
/-- the string of bytes -/
def Str (l : List UInt8) : ByteArray := ⟨l.toArray⟩
theorem conv_bytes {w : World} {base n : Nat} {v : Value} {l : List UInt8} (h : w.ownsRow base 5 1 v n (Bytes l)) (hl : 0 < l.length) :
    (convert 141 9 v).run Tryz.prog w = .ok (.string (Str l)) w := by
  have hn : l.length = n := by have := h.1; simpa using this
  obtain ⟨g, cap, sp, rfl, _, _, _, hrow, hvl, _⟩ := own_form h (by omega)
  have hc : ∀ i, i < n → w.cell? ⟨g, 0 + i, none⟩ = some (.int .u8 ((l.map fun b => (b.toNat : Int)).getD i 0)) := by
    intro i hi
    rw [hrow.cell, Nat.zero_add, List.getElem?_append_left (by omega)]
    simp [Bytes, List.getD, List.getElem?_eq_getElem (show i < l.length by omega)]
  have := run_convert_bytes_arg (P := Tryz.prog) w 141 5 Tryz.underlying141 Tryz.underlying5 g 0 n cap (l.map fun b => (b.toNat : Int)) (by simpa using hn) hc 9 Tryz.underlying9
  have e : strOfNums (l.map fun b => (b.toNat : Int)) = Str l := by
    have e0 : ((l.map fun b => (b.toNat : Int)).map fun n => UInt8.ofNat n.toNat) = l := by
      rw [List.map_map]
      conv => rhs; rw [← List.map_id l]
      apply List.map_congr_left
      intro b _
      simp
    exact congrArg (fun l : List UInt8 => (⟨l.toArray⟩ : ByteArray)) e0
  rw [e] at this
  exact this
def StrPost (l : List UInt8) (w : World) (e : Ending) (w' : World) : Prop := e = .returned (.string (Str l)) ∧ Ext w w'
set_option maxRecDepth 100000 in
set_option maxHeartbeats 400000 in
theorem text_any (v : Value) (n : Int) (w : World) (h : NumV w v n) (la : n.natAbs ≤ BIG) (ht : Tab w) :
    Calls Tryz.prog 158 #[v] w (StrPost (K.txt n) w) := by
  obtain ⟨sz, b, rfl, hb, hz⟩ := h
  obtain ⟨A, k, c, rfl⟩ := hz.slice
  have eb := hb.out
  subst eb
  have hE : Ext w (w.alloc (.cells #[.bool (decide (n < 0)), .slice A k c] 157)) := (Ext.rfl' w).alloc' _
  have hpos : 0 < (K.dgs n.natAbs).length := K.len_pos (K.dgs_ne _)
  by_cases hn : n < 0
  · rw [decide_eq_true hn] at *
    have e : K.txt n = 45 :: K.dgs n.natAbs := by unfold K.txt; rw [if_pos hn]
    have HT := hid e
    clear e hb hn
    go_enter Tryz.func158, Tryz.ntmps158
    go_wp2_with fail
    refine (digits_any _ _ _ (hz.ext hE) la (ht.ext hE)).mono ?_
    rintro e w1 ⟨v1, rfl, hown, hbel, hsz⟩
    have hx1 : Ext w w1 := hE.step hbel
    obtain ⟨c0, c1, -, -, -, -⟩ := two_facts (W := w) (H := w.heap.size) hbel rfl
    have hcv := conv_bytes hown hpos
    have hlen : (K.dgs n.natAbs).length ≤ 9000 := big_digits la
    generalize K.dgs n.natAbs = l at *
    have hcc : ∀ w : World, (Op.stringOp .add ⟨#[45]⟩ (Str l)).run Tryz.prog w = .ok (.string (Str (45 :: l))) w := fun w => run_string_add_lists w [45] l (by simp) (by omega)
    clear hown hbel hlen
    go_wp2
    go_ret
    exact ⟨by rw [HT.out]; rfl, hx1⟩
  · rw [decide_eq_false hn] at *
    have e : K.txt n = K.dgs n.natAbs := by unfold K.txt; rw [if_neg hn]
    have HT := hid e
    clear e hb hn
    go_enter Tryz.func158, Tryz.ntmps158
    go_wp2_with fail
    refine (digits_any _ _ _ (hz.ext hE) la (ht.ext hE)).mono ?_
    rintro e w1 ⟨v1, rfl, hown, hbel, hsz⟩
    have hx1 : Ext w w1 := hE.step hbel
    obtain ⟨c0, c1, -, -, -, -⟩ := two_facts (W := w) (H := w.heap.size) hbel rfl
    have hcv := conv_bytes hown hpos
    generalize K.dgs n.natAbs = l at *
    clear hown hbel
    go_wp2
    go_ret
    exact ⟨by rw [HT.out]; rfl, hx1⟩
theorem trim_minus (l : List UInt8) : Lib.trimPrefix l [45] = K.body l := by
  unfold Lib.trimPrefix Lib.hasPrefix K.body
  cases l with
  | nil => simp
  | cons c r =>
    by_cases h : c = 45
    · subst h; simp
    · have h' : ¬ (45 = c) := fun e => h e.symm
      simp [h, h']
theorem trimPrefix_any (l : List UInt8) (w : World) :
    Calls Tryz.prog 115 #[.string (Str l), .string ⟨#[45]⟩] w fun e w' => e = .returned (.string (Str (K.body l))) ∧ w = w' :=
  (Shelf.l_strings_TrimPrefix (Str l) ⟨#[45]⟩ w).mono fun e w' ⟨he, hw⟩ => by
    have e1 : Lib.trimPrefix (Str l).data.toList (⟨#[45]⟩ : ByteArray).data.toList = K.body l := trim_minus l
    rw [e1] at he
    exact ⟨he, hw.symm⟩
theorem Str_size (l : List UInt8) : (Str l).size = l.length := by simp [Str, ByteArray.size]
/-- what Add and its kin return: the text, or ErrSize -/
def ToldPost (n : Int) (w : World) (e : Ending) (w' : World) : Prop :=
  (K.fits n → e = .returned (.tuple #[.string (Str (K.txt n)), .int .i64 0])) ∧ (¬ K.fits n → e = .returned (.tuple #[.string ⟨#[]⟩, .int .i64 3])) ∧ Ext w w'
set_option maxRecDepth 100000 in
set_option maxHeartbeats 400000 in
theorem write_any (v : Value) (n : Int) (w : World) (h : NumV w v n) (la : n.natAbs ≤ BIG) (ht : Tab w) :
    Calls Tryz.prog 196 #[v] w (ToldPost n w) := by
  have h0 := h
  obtain ⟨sz, b, rfl, hb, hz⟩ := h
  obtain ⟨A, k, c, rfl⟩ := hz.slice
  have hE : Ext w (w.alloc (.cells #[.bool b, .slice A k c] 157)) := (Ext.rfl' w).alloc' _
  have hfit := K.fits_len n
  have hlen : (K.dgs n.natAbs).length ≤ 9000 := big_digits la
  have hsz : (Str (K.dgs n.natAbs)).size = (K.dgs n.natAbs).length := Str_size _
  have hbody := K.body_txt n
  have HF := hid hfit
  have HB := hid hbody
  have h1 := h0.ext hE
  have ht1 := ht.ext hE
  clear hfit hbody hz hb ht
  by_cases hf : (K.dgs n.natAbs).length ≤ 2000
  · have hok : K.fits n := HF.out.2 hf
    go_enter Tryz.func196, Tryz.ntmps196
    go_wp2_with fail
    refine (text_any _ n _ h1 la ht1).mono ?_
    rintro e w1 ⟨rfl, hx1⟩
    go_wp2_with fail
    refine (trimPrefix_any _ _).mono ?_
    rintro e w2 ⟨rfl, rfl⟩
    rw [HB.out]
    generalize Str (K.dgs n.natAbs) = s1 at *
    generalize (K.dgs n.natAbs).length = k1 at *
    go_wp2
    go_ret2
    exact ⟨fun _ => rfl, fun h => absurd hok h, hE.step hx1⟩
  · have hok : ¬ K.fits n := fun h => hf (HF.out.1 h)
    go_enter Tryz.func196, Tryz.ntmps196
    go_wp2_with fail
    refine (text_any _ n _ h1 la ht1).mono ?_
    rintro e w1 ⟨rfl, hx1⟩
    go_wp2_with fail
    refine (trimPrefix_any _ _).mono ?_
    rintro e w2 ⟨rfl, rfl⟩
    rw [HB.out]
    generalize Str (K.dgs n.natAbs) = s1 at *
    generalize (K.dgs n.natAbs).length = k1 at *
    go_wp2
    go_ret2
    exact ⟨fun h => absurd h hok, fun _ => rfl, hE.step hx1⟩
end Go.Proofs.YtleccblkafcidaaGreatDoor
/- num.Valid -/
namespace Go.Proofs.YtleccblkafcidaaGreatDoor
open Go.RowKit
theorem Str_toList (l : List UInt8) : (Str l).toList = l := by rw [ByteArray.toList_eq]; simp [Str]
theorem Str_get (l : List UInt8) (i : Nat) (h : i < (Str l).size) : (Str l)[i]'h = l[i]'(by rw [Str_size] at h; exact h) := by
  show (Str l).data[i]'_ = _
  simp [Str]
theorem Str_at {l : List UInt8} {i : Nat} {c : UInt8} (h : l[i]? = some c) : ∃ hh : i < (Str l).size, (Str l)[i]'hh = c := by
  obtain ⟨hi, hc⟩ := List.getElem?_eq_some_iff.1 h
  exact ⟨by rw [Str_size]; exact hi, by rw [Str_get]; exact hc⟩
theorem all_take {l : List UInt8} {k : Nat} {c : UInt8} (h : l[k]? = some c) (ha : (l.take k).all K.dig = true) (hc : K.dig c = true) : (l.take (k + 1)).all K.dig = true := by
  obtain ⟨hk, e⟩ := List.getElem?_eq_some_iff.1 h
  rw [List.take_succ_eq_append_getElem hk, e, List.all_append, ha]
  simp [hc]
theorem all_false {l : List UInt8} {k : Nat} {c : UInt8} (h : l[k]? = some c) (hc : K.dig c = false) : l.all K.dig = false := by
  rw [List.all_eq_false]
  exact ⟨c, List.mem_of_getElem? h, by simp [hc]⟩
theorem Ext.iter (w : World) (s : ByteArray) (pos : Nat) : Ext w (w.iter s pos) := (Ext.rfl' w).alloc' _
set_option maxRecDepth 100000 in
set_option maxHeartbeats 800000 in
theorem valid_any (l : List UInt8) (w : World) (hl : l.length ≤ 140737488351232) :
    Calls Tryz.prog 78 #[.string (Str l)] w fun e w' => e = .returned (.bool (K.validL l)) ∧ Ext w w' := by
  have hbl : (K.body l).length ≤ l.length := by unfold K.body; split <;> simp
  have hv : K.validL l = (!(K.body l).isEmpty && decide ((K.body l).length ≤ 2000) && (if (K.body l).head? = some 48 then l == [48] else (K.body l).all K.dig)) := rfl
  have t1 := Str_toList l
  obtain ⟨b, hb⟩ : ∃ b, K.body l = b := ⟨_, rfl⟩
  rw [hb] at hv hbl
  have HB := hid hb
  have HV := hid hv
  have t2 := Str_toList b
  have s2 := Str_size b
  clear hv hb
  cases b with
  | nil =>
    have hv : K.validL l = false := by rw [HV.out]; rfl
    rw [hv]
    go_enter Tryz.func78, Tryz.ntmps78
    go_wp2_with fail
    refine (trimPrefix_any _ _).mono ?_
    rintro e w2 ⟨rfl, rfl⟩
    rw [HB.out]
    go_wp2
    go_ret
    exact ⟨rfl, Ext.rfl' _⟩
  | cons c r =>
    by_cases h2000 : (c :: r).length ≤ 2000
    · by_cases h48 : c = 48
      · have hv : K.validL l = (l == [48]) := by rw [HV.out, h48]; simp; intro _; simpa using h2000
        obtain ⟨h0, e0⟩ := Str_at (l := c :: r) (i := 0) (c := c) rfl
        have hc : ((((Str (c :: r))[0]'h0).toNat : Int) == 48) = true := by rw [e0, h48]; rfl
        rw [hv]
        have hn1 : r.length + 1 ≤ 2000 := by simpa using h2000
        clear hv e0 h48
        go_enter Tryz.func78, Tryz.ntmps78
        go_wp2_with fail
        refine (trimPrefix_any _ _).mono ?_
        rintro e w2 ⟨rfl, rfl⟩
        rw [HB.out]
        go_wp2
        go_ret
        exact ⟨rfl, Ext.rfl' _⟩
      · have hv : K.validL l = (c :: r).all K.dig := by
          rw [HV.out, if_neg (by simpa using h48)]
          simp only [List.isEmpty_cons, Bool.not_false, Bool.true_and, h2000, decide_true]
        obtain ⟨h0, e0⟩ := Str_at (l := c :: r) (i := 0) (c := c) rfl
        have hc : ((((Str (c :: r))[0]'h0).toNat : Int) == 48) = false := by
          rw [e0]; simp; intro e; apply h48
          exact UInt8.toNat.inj (by simp; omega)
        have HVV := hid hv
        have hn1 : r.length + 1 ≤ 2000 := by simpa using h2000
        have hn : (Str (c :: r)).size ≤ 2000 := by rw [Str_size]; exact h2000
        have HN := hid hn
        clear hv e0 h48
        go_enter Tryz.func78, Tryz.ntmps78
        go_wp2_with fail
        refine (trimPrefix_any _ _).mono ?_
        rintro e w2 ⟨rfl, rfl⟩
        rw [HB.out]
        go_wp2_with fail
        generalize (Str (c :: r))[0]'h0 = x0 at *
        clear t1 t2 s2 h2000 hbl hn hn1 hc h0
        generalize hbb : c :: r = b at *
        go_loopw [] (fun wr => ∃ pos : Nat, pos ≤ (Str b).size ∧ wr = w.iter (Str b) pos ∧ (b.take pos).all K.dig = true) (fun wr => (Str b).size - wr.iterPos w.heap.size)
        case atStart => exact ⟨0, by omega, rfl, by simp⟩
        case round =>
          obtain ⟨pos, hp, rfl, hall⟩ := hrel
          have HA := hid hall
          clear hall hbb
          by_cases hlt : pos < (Str b).size
          · obtain ⟨x, ex⟩ : ∃ x, b[pos]? = some x := ⟨_, List.getElem?_eq_getElem (by rw [Str_size] at hlt; exact hlt)⟩
            obtain ⟨hh, e0⟩ := Str_at ex
            have HX := hid ex
            clear ex
            by_cases hx : x.toNat < 128
            · have hnx : ∀ ty, (Instr.next (.pointer (some ⟨w.heap.size, 0, none⟩)) true ty).run Tryz.prog (w.iter (Str b) pos) = .ok (.tuple #[.bool true, .int .i64 pos, .int .i32 x.toNat]) (w.iter (Str b) (pos + 1)) := fun ty => by
                have h := run_next_ascii (P := Tryz.prog) w (Str b) pos ty hlt (by rw [e0]; exact hx)
                rw [e0] at h
                exact h
              have h48 : (c :: r).length = (c :: r).length := rfl
              clear e0 h48
              by_cases hd1 : x.toNat < 48
              · have HF : Hid (b.all K.dig = false) := hid <| all_false HX.out (by unfold K.dig; simp; omega)
                go_wp2
                go_ret
                exact ⟨by rw [HVV.out, HF.out]; rfl, Ext.iter _ _ _⟩
              · by_cases hd2 : 57 < x.toNat
                · have HF : Hid (b.all K.dig = false) := hid <| all_false HX.out (by unfold K.dig; simp; omega)
                  go_wp2
                  go_ret
                  exact ⟨by rw [HVV.out, HF.out]; rfl, Ext.iter _ _ _⟩
                · have hdg : Hid (K.dig x = true) := by unfold K.dig Hid; simp; omega
                  go_wp2
                  go_roundw
                  case rel => exact ⟨pos + 1, by omega, rfl, all_take HX.out HA.out hdg.out⟩
                  case measure => simp; omega
            · have hhigh := decode_high (Str b) pos hlt (by rw [e0]; omega)
              have hnx : ∀ ty, (Instr.next (.pointer (some ⟨w.heap.size, 0, none⟩)) true ty).run Tryz.prog (w.iter (Str b) pos) = _ := fun ty => run_next_any w (Str b) pos ty hlt
              have HF : Hid (b.all K.dig = false) := hid <| all_false HX.out (by unfold K.dig; simp; omega)
              have hge : ¬ ((Utf8.decode (Str b) pos).1 : Int) < 48 := by omega
              have hgt : (57 : Int) < ((Utf8.decode (Str b) pos).1 : Int) := by omega
              clear e0 hhigh
              generalize Utf8.decode (Str b) pos = dd at *
              go_wp2
              go_ret
              exact ⟨by rw [HVV.out, HF.out]; rfl, Ext.iter _ _ _⟩
          · have hnx : ∀ ty, (Instr.next (.pointer (some ⟨w.heap.size, 0, none⟩)) true ty).run Tryz.prog (w.iter (Str b) pos) = _ := fun ty => run_next_end w (Str b) pos ty hlt
            have HF : Hid (b.all K.dig = true) := hid <| by
              have h := HA.out
              rwa [List.take_of_length_le (by rw [Str_size] at hlt; omega)] at h
            go_wp2
            go_ret
            exact ⟨by rw [HVV.out, HF.out]; rfl, Ext.iter _ _ _⟩
    · have hv : K.validL l = false := by rw [HV.out]; simp; intro h; simp at h2000; omega
      rw [hv]
      have hn : ¬ r.length + 1 ≤ 2000 := by simpa using h2000
      clear h2000
      go_enter Tryz.func78, Tryz.ntmps78
      go_wp2_with fail
      refine (trimPrefix_any _ _).mono ?_
      rintro e w2 ⟨rfl, rfl⟩
      rw [HB.out]
      go_wp2
      go_ret
      exact ⟨rfl, Ext.rfl' _⟩
end Go.Proofs.YtleccblkafcidaaGreatDoor
/- Plain mathematics of reading: decimal digits in groups of nine. -/
namespace Go.Proofs.YtleccblkafcidaaGreatDoor
open K
/-- the groups when the digits from 'left' on have been read (the lowest digit first) -/
def grp (e : List UInt8) (left j : Nat) : Nat := dvl ((e.take (9 * j + 9)).drop (max left (9 * j)))
def grps (e : List UInt8) (left m : Nat) : List Nat := (List.range m).map (grp e left)
theorem grps_len (e : List UInt8) (left m : Nat) : (grps e left m).length = m := by simp [grps]
theorem grps_at (e : List UInt8) (left m j : Nat) (h : j < m) : (grps e left m)[j]? = some (grp e left j) := by simp [grps, h]
theorem grps_start (e : List UInt8) (m : Nat) : grps e e.length m = List.replicate m 0 := by
  apply List.ext_getElem
  · simp [grps]
  · intro j h1 h2
    simp only [grps, List.getElem_map, List.getElem_range, List.getElem_replicate, grp]
    rw [List.drop_of_length_le (by rw [List.length_take]; omega)]
    rfl
theorem grps_step (e : List UInt8) (p m : Nat) (c : UInt8) (hc : e[p]? = some c) (hm : p / 9 < m) : (grps e (p + 1) m).set (p / 9) (grp e (p + 1) (p / 9) * 10 + (c.toNat - 48)) = grps e p m := by
  apply List.ext_getElem
  · simp [grps]
  · intro j h1 h2
    rw [List.getElem_set]
    obtain ⟨hp, hcc⟩ := List.getElem?_eq_some_iff.1 hc
    split
    · rename_i hj
      subst hj
      simp only [grps, List.getElem_map, List.getElem_range, grp]
      have e1 : max p (9 * (p / 9)) = p := by omega
      have e2 : (e.take (9 * (p / 9) + 9))[p]? = some c := by rw [List.getElem?_take, if_pos (by omega)]; exact hc
      rw [e1, drop_at e2, dvl]
      by_cases h9 : p + 1 = 9 * (p / 9) + 9
      · rw [List.drop_of_length_le (by rw [List.length_take]; omega), List.drop_of_length_le (by rw [List.length_take]; omega)]
        simp [dvl]
      · rw [show max (p + 1) (9 * (p / 9)) = p + 1 by omega]
        omega
    · rename_i hj
      simp only [grps, List.getElem_map, List.getElem_range, grp]
      rcases Nat.lt_or_ge j (p / 9) with h | h
      · rw [List.drop_of_length_le (by rw [List.length_take]; omega), List.drop_of_length_le (by rw [List.length_take]; omega)]
      · rw [show max (p + 1) (9 * j) = max p (9 * j) by omega]
theorem pow9 (m : Nat) : (10 : Nat) ^ (9 * m) = 1000000000 ^ m := by rw [Nat.pow_mul]
theorem lv_grps (e : List UInt8) : ∀ m, lv (grps e 0 m) = dvl (e.take (9 * m))
  | 0 => by simp [grps, lv, dvl]
  | m + 1 => by
    have h1 : grps e 0 (m + 1) = grps e 0 m ++ [grp e 0 m] := by simp [grps, List.range_succ]
    rw [h1, lv_append, lv_grps e m, grps_len]
    simp only [lv, Nat.mul_zero, Nat.add_zero]
    have h2 : e.take (9 * m + 9) = e.take (9 * m) ++ (e.take (9 * m + 9)).drop (9 * m) := by
      conv => lhs; rw [← List.take_append_drop (9 * m) (e.take (9 * m + 9))]
      rw [List.take_take, Nat.min_eq_left (by omega)]
    rw [show 9 * (m + 1) = 9 * m + 9 by omega]
    conv => rhs; rw [h2, dvl_append]
    unfold grp
    rw [show max 0 (9 * m) = 9 * m by omega]
    by_cases hl : 9 * m ≤ e.length
    · rw [List.length_take, Nat.min_eq_left hl, pow9]
    · rw [List.drop_of_length_le (by rw [List.length_take]; omega)]
      simp [dvl]
theorem grp_lt (e : List UInt8) (left j : Nat) (hd : e.all dig = true) : grp e left j < 1000000000 := by
  unfold grp
  have h1 := dvl_lt ((e.take (9 * j + 9)).drop (max left (9 * j))) (by
    rw [List.all_eq_true] at hd ⊢
    exact fun x hx => hd x (List.mem_of_mem_take (List.mem_of_mem_drop hx)))
  refine Nat.lt_of_lt_of_le h1 ?_
  rw [show (1000000000 : Nat) = 10 ^ 9 from rfl]
  apply Nat.pow_le_pow_right (by omega)
  rw [List.length_drop, List.length_take]
  omega
theorem grps_lt (e : List UInt8) (left m : Nat) (hd : e.all dig = true) : ∀ x ∈ grps e left m, x < 1000000000 := by
  intro x hx
  obtain ⟨j, _, rfl⟩ := List.mem_map.1 hx
  exact grp_lt e left j hd
/-- while a group is being read it is small enough for one digit more -/
theorem grp_open (e : List UInt8) (p : Nat) (hd : e.all dig = true) : grp e (p + 1) (p / 9) < 100000000 := by
  unfold grp
  have h1 := dvl_lt ((e.take (9 * (p / 9) + 9)).drop (max (p + 1) (9 * (p / 9)))) (by
    rw [List.all_eq_true] at hd ⊢
    exact fun x hx => hd x (List.mem_of_mem_take (List.mem_of_mem_drop hx)))
  refine Nat.lt_of_lt_of_le h1 ?_
  rw [show (100000000 : Nat) = 10 ^ 8 from rfl]
  apply Nat.pow_le_pow_right (by omega)
  rw [List.length_drop, List.length_take]
  omega
end Go.Proofs.YtleccblkafcidaaGreatDoor
/- num.read -/
namespace Go.Proofs.YtleccblkafcidaaGreatDoor
open Go.RowKit
/-- the iterator in block b stands at pos -/
def setIt (w : World) (b : Nat) (s : ByteArray) (pos : Nat) : World := { w with heap := w.heap.setIfInBounds b (.stringIter s pos) }
theorem run_next_at {P : Program} (w : World) (b : Nat) (s : ByteArray) (pos : Nat) (ty : TypeId) (hb : w.heap[b]? = some (.stringIter s pos)) (h : pos < s.size) (ha : (s[pos]'h).toNat < 128) :
    (Instr.next (.pointer (some ⟨b, 0, none⟩)) true ty).run P w = .ok (.tuple #[.bool true, .int .i64 pos, .int .i32 (s[pos]'h).toNat]) (setIt w b s (pos + 1)) := by
  simp only [Instr.next, getObj, setObj, Sem.run_bind, Sem.run, hb, Result.andThen, h, if_true, decode_ascii s pos h ha, setIt]
  simp [goInt, Sem.run, hb]
theorem run_next_done {P : Program} (w : World) (b : Nat) (s : ByteArray) (pos : Nat) (ty : TypeId) (hb : w.heap[b]? = some (.stringIter s pos)) (h : ¬ pos < s.size) :
    (Instr.next (.pointer (some ⟨b, 0, none⟩)) true ty).run P w = .ok (.tuple #[.bool false]) w := by
  simp [Instr.next, getObj, Sem.run, hb, h]
theorem setIt_same {w : World} {b : Nat} {s : ByteArray} {pos pos' : Nat} (hb : w.heap[b]? = some (.stringIter s pos')) : (setIt w b s pos).heap[b]? = some (.stringIter s pos) := by
  have hl : b < w.heap.size := by
    rcases Nat.lt_or_ge b w.heap.size with hl | hl
    · exact hl
    · rw [Array.getElem?_eq_none hl] at hb; cases hb
  unfold setIt
  simp [Array.getElem?_setIfInBounds, hl]
theorem setIt_other {w : World} {b k : Nat} {s : ByteArray} {pos : Nat} (hk : k ≠ b) : (setIt w b s pos).heap[k]? = w.heap[k]? := by
  unfold setIt
  rw [Array.getElem?_setIfInBounds, if_neg (fun e => hk e.symm)]
theorem Ext.setIt {a w : World} (h : Ext a w) {b : Nat} (hb : a.heap.size ≤ b) (s : ByteArray) (pos : Nat) : Ext a (setIt w b s pos) :=
  ⟨h.os, h.tape, h.output, by unfold Proofs.YtleccblkafcidaaGreatDoor.setIt; simpa using h.size, fun k hk => (setIt_other (by omega)).trans (h.block k hk)⟩
theorem setCell_heap {w : World} {a : Addr} {u : Value} {k : Nat} (h : k ≠ a.block) : (w.setCell a u).heap[k]? = w.heap[k]? := Below.heap_setCell w a u k h
def ReadPost (l : List UInt8) (w : World) (e : Ending) (w' : World) : Prop :=
  (K.validL l = true → ∃ v, e = .returned (.tuple #[v, .int .i64 0]) ∧ NumV w' v (K.numL l)) ∧ (K.validL l = false → e = .returned (.tuple #[.agg #[.bool false, .slice none 0 0], .int .i64 1])) ∧ Ext w w'
theorem body_all {l : List UInt8} (h : K.validL l = true) : (K.body l).all K.dig = true ∧ (K.body l).length ≤ 2000 ∧ 0 < (K.body l).length := by
  have e := (K.txt_numL l h).1
  have h2 := (K.fits_len _).1 (K.txt_numL l h).2
  rw [← e, K.body_txt]
  exact ⟨K.dgs_dig _, h2, K.len_pos (K.dgs_ne _)⟩
theorem body_val {l : List UInt8} (h : K.validL l = true) : K.dv (K.body l) = (K.numL l).natAbs ∧ (K.body l).length + (if K.numL l < 0 then 1 else 0) = l.length := by
  have e := (K.txt_numL l h).1
  constructor
  · conv => lhs; rw [← e]
    rw [K.body_txt, K.dv_dgs]
  · conv => lhs; lhs; rw [← e]
    conv => rhs; rw [← e]
    rw [K.body_txt]
    unfold K.txt
    split <;> simp
set_option maxRecDepth 100000 in
set_option maxHeartbeats 1600000 in
theorem read_ok (l : List UInt8) (w : World) (hl : l.length ≤ 140737488351232) (hv : K.validL l = true) :
    Calls Tryz.prog 116 #[.string (Str l)] w (fun e w' => (∃ v, e = .returned (.tuple #[v, .int .i64 0]) ∧ NumV w' v (K.numL l)) ∧ Ext w w') := by
  obtain ⟨hd, hlen, hpos⟩ := body_all hv
  obtain ⟨hval, hll⟩ := body_val hv
  have HV := hid hv
  have HD := hid hd
  have HVL := hid hval
  obtain ⟨b, hb⟩ : ∃ b, K.body l = b := ⟨_, rfl⟩
  obtain ⟨L, hL⟩ : ∃ L, b.length = L := ⟨_, rfl⟩
  rw [hb] at hd hlen hpos hll
  rw [hL] at hlen hpos hll
  have HB := hid hb
  have HL := hid hL
  have s1 := Str_size l
  have s2 : (Str b).size = L := by rw [Str_size, hL]
  have hE1 : Ext w (w.alloc (.cells #[.bool false, .slice none 0 0] 157)) := (Ext.rfl' w).alloc' _
  have HE1 := hid hE1
  have hmk := fun w => mkNat ((L + 8) / 9) (((L : Int) + 9 - 1) / 9) (by omega) (by omega) w
  have hrev : (b.reverse).all K.dig = true := by simpa using hd
  have HR := hid hrev
  have hneg : (decide ((L : Int) < (l.length : Int))) = decide (K.numL l < 0) := by
    rw [Bool.eq_iff_iff]; simp only [decide_eq_true_eq]; split at hll <;> omega
  have HN := hid hneg
  clear hv hd hval hb hL hE1 hrev hneg hll
  go_enter Tryz.func116, Tryz.ntmps116
  go_wp2_with fail
  refine (valid_any l _ hl).mono ?_
  rintro e w1 ⟨rfl, hx1⟩
  rw [HV.out]
  go_wp2_with fail
  refine (trimPrefix_any _ _).mono ?_
  rintro e w2 ⟨rfl, rfl⟩
  rw [HB.out]
  obtain ⟨m, hm⟩ : ∃ m, (L + 8) / 9 = m := ⟨_, rfl⟩
  have hLm : L ≤ 9 * m := by omega
  have hm3 : m ≤ 300 := by omega
  have hE2 : Ext w w1 := HE1.out.step hx1
  obtain ⟨-, -, -, -, -, hr0⟩ := two_facts (W := w) (H := w.heap.size) hx1 rfl
  have HM := hid hm
  have HX2 := hid hE2
  have HR0 := hid hr0
  have HX1 := hid hx1
  clear hE2 hr0 hm
  go_wp2_with fail
  rw [HM.out]
  have hrow0 : Row ((w1.alloc (.cells (madeCells #[.int .u64 0] m) 160)).iter (Str b) 0) w1.heap.size 160 (U64s (grps b.reverse L m)) := by
    have h1 := (Row.made w1 160 (.int .u64 0) m).alloc (.stringIter (Str b) 0)
    rw [U64s_zeros] at h1
    have h2 := grps_start b.reverse m
    rw [List.length_reverse, HL.out] at h2
    rw [h2]
    exact h1
  have hit0 : ((w1.alloc (.cells (madeCells #[.int .u64 0] m) 160)).iter (Str b) 0).heap[w1.heap.size + 1]? = some (.stringIter (Str b) 0) := by
    have h := World.iter_heap (w1.alloc (.cells (madeCells #[.int .u64 0] m) 160)) (Str b) 0
    simpa using h
  have hext0 : Ext w1 ((w1.alloc (.cells (madeCells #[.int .u64 0] m) 160)).iter (Str b) 0) := ((Ext.rfl' w1).alloc' _).step (Ext.iter _ _ _)
  clear hmk
  go_loopw [5] (fun left wr => ∃ k pos : Nat, Hid (pos + k = L) ∧ k ≤ L ∧ left = .int .i64 k ∧ wr.heap[w1.heap.size + 1]? = some (.stringIter (Str b) pos) ∧ Row wr w1.heap.size 160 (U64s (grps b.reverse k m)) ∧ Ext w1 wr) (fun left _ => (intOf left).toNat)
  case atStart => exact ⟨L, 0, hid (by omega), by omega, rfl, hit0, hrow0, hext0⟩
  case round =>
    obtain ⟨k, pos, hpk, hkL, rfl, hit, hrow, hext⟩ := hrel
    clear hrow0 hit0 hext0
    by_cases hk0 : 0 < k
    · obtain ⟨p, rfl⟩ : ∃ p, k = p + 1 := ⟨k - 1, by omega⟩
      obtain ⟨x, ex⟩ : ∃ x, b[pos]? = some x := ⟨_, List.getElem?_eq_getElem (by rw [HL.out]; have := hpk.out; omega)⟩
      have ee : b.reverse[p]? = some x := by
        rw [List.getElem?_reverse (by rw [HL.out]; omega), HL.out, show L - 1 - p = pos by have := hpk.out; omega]
        exact ex
      have hdx : K.dig x = true := by
        have h := HR.out
        rw [List.all_eq_true] at h
        exact h x (List.mem_of_getElem? ee)
      have hx48 : 48 ≤ x.toNat ∧ x.toNat ≤ 57 := by unfold K.dig at hdx; simpa using hdx
      obtain ⟨hh, e0⟩ := Str_at ex
      have hnx : ∀ ty, (Instr.next (.pointer (some ⟨w1.heap.size + 1, 0, none⟩)) true ty).run Tryz.prog wr = .ok (.tuple #[.bool true, .int .i64 pos, .int .i32 x.toNat]) (setIt wr (w1.heap.size + 1) (Str b) (pos + 1)) := fun ty => by
        have h := run_next_at (P := Tryz.prog) wr (w1.heap.size + 1) (Str b) pos ty hit hh (by rw [e0]; omega)
        rw [e0] at h
        exact h
      have hpm : p / 9 < m := by omega
      obtain ⟨y, hy⟩ : ∃ y, grp b.reverse (p + 1) (p / 9) = y := ⟨_, rfl⟩
      have hyB : y < 100000000 := by rw [← hy]; exact grp_open _ _ HR.out
      have hrow1 : Row (setIt wr (w1.heap.size + 1) (Str b) (pos + 1)) w1.heap.size 160 (U64s (grps b.reverse (p + 1) m)) := (setIt_other (by omega)).trans hrow
      have hit1 := setIt_same (s := Str b) (pos := pos + 1) hit
      have hext1 : Ext w1 (setIt wr (w1.heap.size + 1) (Str b) (pos + 1)) := hext.setIt (by omega) _ _
      generalize setIt wr (w1.heap.size + 1) (Str b) (pos + 1) = wn at *
      have hcell : wn.cell? ⟨w1.heap.size, p / 9, none⟩ = some (.int .u64 y) := by
        rw [hrow1.cell, ← hy]
        exact U64s_at (grps_at _ _ _ _ hpm)
      have hfree := hrow1.free (p / 9)
      have hnew : Row (wn.setCell ⟨w1.heap.size, p / 9, none⟩ (.int .u64 ((y : Int) * 10 + ((x.toNat : Int) - 48)))) w1.heap.size 160 (U64s (grps b.reverse p m)) := by
        have h1 := hrow1.set (p / 9) (.int .u64 ((y : Int) * 10 + ((x.toNat : Int) - 48)))
        have e1 : ((y : Int) * 10 + ((x.toNat : Int) - 48)) = ((y * 10 + (x.toNat - 48) : Nat) : Int) := by omega
        rw [e1, U64s_set, ← hy, grps_step b.reverse p m x ee hpm] at h1
        rw [e1, ← hy]
        exact h1
      have hit2 : (wn.setCell ⟨w1.heap.size, p / 9, none⟩ (.int .u64 ((y : Int) * 10 + ((x.toNat : Int) - 48)))).heap[w1.heap.size + 1]? = some (.stringIter (Str b) (pos + 1)) := by
        rw [setCell_heap (by show w1.heap.size + 1 ≠ w1.heap.size; omega)]; exact hit1
      have HNEW := hid hnew
      have HIT := hid hit2
      have HEX := hid (hext1.set' (p := ⟨w1.heap.size, p / 9, none⟩) (Nat.le_refl _) (.int .u64 ((y : Int) * 10 + ((x.toNat : Int) - 48))))
      have hxa : 48 ≤ x.toNat := hx48.1
      have hxb : x.toNat ≤ 57 := hx48.2
      clear ex ee hdx hx48 e0 hh hit hrow hrow1 hit1 hext1 hnew hit2 hy hk0
      go_wp2
      go_roundw
      case rel => exact ⟨p, pos + 1, hid (by have := hpk.out; omega), by omega, rfl, HIT.out, HNEW.out, HEX.out⟩
      case measure => simp [intOf]
    · obtain rfl : k = 0 := by omega
      have hnx : ∀ ty, (Instr.next (.pointer (some ⟨w1.heap.size + 1, 0, none⟩)) true ty).run Tryz.prog wr = .ok (.tuple #[.bool false]) wr := fun ty => run_next_done (P := Tryz.prog) wr (w1.heap.size + 1) (Str b) pos ty hit (by rw [s2]; have := hpk.out; omega)
      have hglen := grps_len b.reverse 0 m
      have hglt := grps_lt b.reverse 0 m HR.out
      have hgval : K.lv (grps b.reverse 0 m) = (K.numL l).natAbs := by
        rw [lv_grps, List.take_of_length_le (by rw [List.length_reverse, HL.out]; exact hLm)]
        have h := HVL.out
        rw [HB.out] at h
        exact h
      generalize grps b.reverse 0 m = G at *
      have HGL := hid hglen
      have HGV := hid hgval
      clear hglen hgval hit
      go_wp2_with fail
      refine (trimmed _ m m G _ hrow.rd0 HGL.out (by omega) (by omega)).mono ?_
      intro e w' hp
      have hq : SumPost (K.numL l).natAbs w1 e w' := SumPost.of_trim hrow hext hglt HGV.out e w' (by rw [HGL.out]; exact hp)
      obtain ⟨v, rfl, hq, hxx⟩ := hq
      obtain ⟨A, ka, ca, rfl⟩ := hq.slice
      have hr1 := HR0.out.ext hxx
      obtain ⟨g0, g1, g2, g3⟩ := hr1.facts
      by_cases hs : L < l.length
      · have hfin := NumPost.stored (w := w) (W := w) (n := K.numL l) (t := 157) (HX1.out.step hxx) (Ext.rfl' w) (H := w.heap.size) rfl hq true (by rw [← HN.out]; symm; simp; omega)
        have HF := hid hfin
        clear hfin hr1 hxx hq hp hrow hext hnx
        go_wp2
        refine bodyPost_ret (v := .tuple #[.agg #[.bool true, .slice A ka ca], .int .i64 0]) (by simp [results, Tryz.results116, go_sem, g0, g1]) rfl ?_
        obtain ⟨v, hv, hn, he⟩ := HF.out
        injection hv with hv
        subst hv
        exact ⟨⟨_, rfl, hn⟩, he⟩
      · have hfin := NumPost.stored (w := w) (W := w) (n := K.numL l) (t := 157) (HX1.out.step hxx) (Ext.rfl' w) (H := w.heap.size) rfl hq false (by rw [← HN.out]; symm; simp; omega)
        have HF := hid hfin
        clear hfin hr1 hxx hq hp hrow hext hnx
        go_wp2
        refine bodyPost_ret (v := .tuple #[.agg #[.bool false, .slice A ka ca], .int .i64 0]) (by simp [results, Tryz.results116, go_sem, g0, g1]) rfl ?_
        obtain ⟨v, hv, hn, he⟩ := HF.out
        injection hv with hv
        subst hv
        exact ⟨⟨_, rfl, hn⟩, he⟩
set_option maxRecDepth 100000 in
set_option maxHeartbeats 400000 in
theorem read_bad (l : List UInt8) (w : World) (hl : l.length ≤ 140737488351232) (hv : K.validL l = false) :
    Calls Tryz.prog 116 #[.string (Str l)] w (fun e w' => e = .returned (.tuple #[.agg #[.bool false, .slice none 0 0], .int .i64 1]) ∧ Ext w w') := by
  have HV := hid hv
  have hE1 : Ext w (w.alloc (.cells #[.bool false, .slice none 0 0] 157)) := (Ext.rfl' w).alloc' _
  have HE1 := hid hE1
  clear hv hE1
  go_enter Tryz.func116, Tryz.ntmps116
  go_wp2_with fail
  refine (valid_any l _ hl).mono ?_
  rintro e w1 ⟨rfl, hx1⟩
  rw [HV.out]
  obtain ⟨g0, g1, g2, g3, g4, hr0⟩ := two_facts (W := w) (H := w.heap.size) hx1 rfl
  have hE2 : Ext w w1 := HE1.out.step hx1
  clear hx1 hr0
  go_wp2
  refine bodyPost_ret (v := .tuple #[.agg #[.bool false, .slice none 0 0], .int .i64 1]) (by simp [results, Tryz.results116, go_sem, g0, g1]) rfl ?_
  exact ⟨rfl, (hE2.set' (Nat.le_refl _) _).set' (Nat.le_refl _) _⟩
end Go.Proofs.YtleccblkafcidaaGreatDoor
/- num.readBoth -/
namespace Go.Proofs.YtleccblkafcidaaGreatDoor
open Go.RowKit
abbrev Z : Obj := .cells #[.bool false, .slice none 0 0] 157
theorem twoZ {w w' : World} (e : Ext ((w.alloc (.cells #[.bool false, .slice none 0 0] 157)).alloc (.cells #[.bool false, .slice none 0 0] 157)) w') :
    Row w' w.heap.size 157 [.bool false, .slice none 0 0] ∧ Row w' (w.heap.size + 1) 157 [.bool false, .slice none 0 0] ∧ w.heap.size + 1 < w'.heap.size ∧ Ext w w' := by
  have h1 := two_facts (W := w) (H := w.heap.size) (t := 157) (a := .bool false) (b := .slice none 0 0) (Ext.step ((Ext.rfl' _).alloc' _) e) rfl
  have h2 := two_facts (H := w.heap.size + 1) e (by simp)
  exact ⟨h1.2.2.2.2.2, h2.2.2.2.2.2, h2.2.2.2.2.1, (((Ext.rfl' w).alloc' _).alloc' _).step e⟩
def BothOk (m n : Int) (w : World) (e : Ending) (w' : World) : Prop := (∃ v1 v2, e = .returned (.tuple #[v1, v2, .int .i64 0]) ∧ NumV w' v1 m ∧ NumV w' v2 n) ∧ Ext w w'
def BothBad (w : World) (e : Ending) (w' : World) : Prop := e = .returned (.tuple #[.agg #[.bool false, .slice none 0 0], .agg #[.bool false, .slice none 0 0], .int .i64 1]) ∧ Ext w w'
set_option maxRecDepth 100000 in
set_option maxHeartbeats 1600000 in
theorem both_bad1 (l1 l2 : List UInt8) (w : World) (h1 : l1.length ≤ 140737488351232) (v1 : K.validL l1 = false) :
    Calls Tryz.prog 155 #[.string (Str l1), .string (Str l2)] w (BothBad w) := by
  go_enter Tryz.func155, Tryz.ntmps155
  go_wp2_with fail
  refine (read_bad l1 _ h1 v1).mono ?_
  rintro e w1 ⟨rfl, hx1⟩
  obtain ⟨r0, r1, hl, hE⟩ := twoZ hx1
  obtain ⟨g0, g1, g2, g3⟩ := (r0.alloc (.cells #[.bool false, .slice none 0 0] 157)).facts
  obtain ⟨i0, i1, i2, i3⟩ := (r1.alloc (.cells #[.bool false, .slice none 0 0] 157)).facts
  have hn1 : ¬ (w.heap.size = w1.heap.size) := by omega
  have hn2 : ¬ (w.heap.size + 1 = w1.heap.size) := by omega
  clear hx1 r0 r1
  go_wp2
  refine bodyPost_ret (v := .tuple #[.agg #[.bool false, .slice none 0 0], .agg #[.bool false, .slice none 0 0], .int .i64 1]) (by simp [results, Tryz.results155, go_sem, g0, g1, i0, i1]) rfl ?_
  exact ⟨rfl, ((((hE.alloc' _).set' (by exact Nat.le_refl _) _).set' (by exact Nat.le_refl _) _).set' (by exact Nat.le_succ _) _).set' (by exact Nat.le_succ _) _⟩
set_option maxRecDepth 100000 in
set_option maxHeartbeats 1600000 in
theorem both_bad2 (l1 l2 : List UInt8) (w : World) (h1 : l1.length ≤ 140737488351232) (h2 : l2.length ≤ 140737488351232) (v1 : K.validL l1 = true) (v2 : K.validL l2 = false) :
    Calls Tryz.prog 155 #[.string (Str l1), .string (Str l2)] w (BothBad w) := by
  go_enter Tryz.func155, Tryz.ntmps155
  go_wp2_with fail
  refine (read_ok l1 _ h1 v1).mono ?_
  rintro e w1 ⟨⟨v1, rfl, ⟨z1, b1, rfl, hb1, hz1⟩⟩, hx1⟩
  obtain ⟨A1, k1, c1, rfl⟩ := hz1.slice
  obtain ⟨r0, r1, hl, hE⟩ := twoZ hx1
  clear hx1
  go_wp2_with fail
  refine (read_bad l2 _ h2 v2).mono ?_
  rintro e w2 ⟨rfl, hx2⟩
  have hx2' : Ext w1 w2 := ((Ext.rfl' w1).alloc' _).step hx2
  have hE2 := hE.step hx2'
  obtain ⟨g0, g1, g2, g3⟩ := ((r0.ext hx2').alloc (.cells #[.bool false, .slice none 0 0] 157)).facts
  obtain ⟨i0, i1, i2, i3⟩ := ((r1.ext hx2').alloc (.cells #[.bool false, .slice none 0 0] 157)).facts
  clear hx2 r0 r1 hx2' hE
  go_wp2
  refine bodyPost_ret (v := .tuple #[.agg #[.bool false, .slice none 0 0], .agg #[.bool false, .slice none 0 0], .int .i64 1]) (by simp [results, Tryz.results155, go_sem, g0, g1, i0, i1]) rfl ?_
  exact ⟨rfl, ((((hE2.alloc' _).set' (by exact Nat.le_refl _) _).set' (by exact Nat.le_refl _) _).set' (by exact Nat.le_succ _) _).set' (by exact Nat.le_succ _) _⟩
set_option maxRecDepth 100000 in
set_option maxHeartbeats 1600000 in
theorem both_ok (l1 l2 : List UInt8) (w : World) (h1 : l1.length ≤ 140737488351232) (h2 : l2.length ≤ 140737488351232) (v1 : K.validL l1 = true) (v2 : K.validL l2 = true) :
    Calls Tryz.prog 155 #[.string (Str l1), .string (Str l2)] w (BothOk (K.numL l1) (K.numL l2) w) := by
  go_enter Tryz.func155, Tryz.ntmps155
  go_wp2_with fail
  refine (read_ok l1 _ h1 v1).mono ?_
  rintro e w1 ⟨⟨v1, rfl, ⟨z1, b1, rfl, hb1, hz1⟩⟩, hx1⟩
  obtain ⟨A1, k1, c1, rfl⟩ := hz1.slice
  obtain ⟨r0, r1, hl, hE⟩ := twoZ hx1
  clear hx1
  go_wp2_with fail
  refine (read_ok l2 _ h2 v2).mono ?_
  rintro e w2 ⟨⟨v2, rfl, ⟨z2, b2, rfl, hb2, hz2⟩⟩, hx2⟩
  obtain ⟨A2, k2, c2, rfl⟩ := hz2.slice
  have hx2' : Ext w1 w2 := ((Ext.rfl' w1).alloc' _).step hx2
  have hE2 := hE.step hx2'
  obtain ⟨-, -, -, -, hl1, rr⟩ := two_facts hx2 rfl
  have R0 := (r0.ext hx2').alloc (.cells #[.bool b2, .slice A2 k2 c2] 157)
  have R1 := (r1.ext hx2').alloc (.cells #[.bool b2, .slice A2 k2 c2] 157)
  obtain ⟨g0, g1, g2, g3⟩ := R0.facts
  obtain ⟨i0, i1, i2, i3⟩ := R1.facts
  obtain ⟨k0, k1', -, -⟩ := (rr.alloc (.cells #[.bool b2, .slice A2 k2 c2] 157)).facts
  have hfin := PairPost.stored (w := w) R0 R1 (hE2.alloc' _) (Nat.le_refl _) hb1 hb2 (hz1.ext (hx2'.alloc' (.cells #[.bool b2, .slice A2 k2 c2] 157))) (hz2.ext ((Ext.rfl' w2).alloc' (.cells #[.bool b2, .slice A2 k2 c2] 157)))
  have HF := hid hfin
  have hn1 : ¬ (w.heap.size = w1.heap.size) := by omega
  have hn2 : ¬ (w.heap.size + 1 = w1.heap.size) := by omega
  have hn3 : ¬ (w1.heap.size = w.heap.size) := by omega
  have hn4 : ¬ (w1.heap.size = w.heap.size + 1) := by omega
  have hn5 : ¬ (w.heap.size = w2.heap.size) := by omega
  have hn6 : ¬ (w.heap.size + 1 = w2.heap.size) := by omega
  have hn7 : ¬ (w2.heap.size = w.heap.size) := by omega
  have hn8 : ¬ (w2.heap.size = w.heap.size + 1) := by omega
  clear hx2 r0 r1 hx2' hE hfin hz1 hz2 R0 R1 rr hb1 hb2
  go_wp2_with fail
  go_region_held3 (fun w' => w'.cell? ⟨w1.heap.size, 0, none⟩ = some (.bool b1) ∧ w'.cell? ⟨w1.heap.size, 1, none⟩ = some (.slice A1 k1 c1) ∧ w'.cell? ⟨w2.heap.size, 0, none⟩ = some (.bool b2) ∧ w'.cell? ⟨w2.heap.size, 1, none⟩ = some (.slice A2 k2 c2))
    (go_keep) (fail)
  go_wp2
  refine bodyPost_ret (v := .tuple #[.agg #[.bool b1, .slice A1 k1 c1], .agg #[.bool b2, .slice A2 k2 c2], .int .i64 0]) (by simp [results, Tryz.results155, go_sem, g0, g1, i0, i1]) rfl ?_
  obtain ⟨y1, y2, hy, m1, m2, he⟩ := HF.out
  injection hy with hy
  injection hy with hy
  simp only [Array.mk.injEq, List.cons.injEq, and_true] at hy
  obtain ⟨rfl, rfl⟩ := hy
  exact ⟨⟨_, _, rfl, m1.ext (Ext.rfl' _).drew', m2.ext (Ext.rfl' _).drew'⟩, he.drew'⟩
end Go.Proofs.YtleccblkafcidaaGreatDoor
