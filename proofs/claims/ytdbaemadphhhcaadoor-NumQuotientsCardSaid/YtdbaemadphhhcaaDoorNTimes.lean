/- (number).times, (number).minus -/
import Derived.Test.YtdbaemadphhhcaaDoorNPlus
namespace Go.Proofs.YtdbaemadphhhcaaDoor
open Go.RowKit
set_option maxRecDepth 100000 in
set_option maxHeartbeats 1600000 in
theorem ntimes_l (A B : Option Addr) (ka ca kb cb a b : Nat) (na nb : Bool) (m : Int) (w : World) (ha : NatV w (.slice A ka ca) a) (hb : NatV w (.slice B kb cb) b) (la : a ≤ BIG) (lb : b ≤ BIG)
    (hm : m.natAbs = a * b) (hs : ((na != nb) && decide (0 < a * b)) = decide (m < 0)) :
    Calls Tryd.prog 42 #[.agg #[.bool na, .slice A ka ca], .agg #[.bool nb, .slice B kb cb]] w (NumPost m w) := by
  have HM := hid hm
  have HS := hid hs
  clear hm hs
  have hW2 : Ext w ((w.alloc (.cells #[.bool na, .slice A ka ca] 59)).alloc (.cells #[.bool nb, .slice B kb cb] 59)) := ((Ext.rfl' w).alloc' _).alloc' _
  have hW3 : Ext w (((w.alloc (.cells #[.bool na, .slice A ka ca] 59)).alloc (.cells #[.bool nb, .slice B kb cb] 59)).alloc (.cells #[.bool false, .slice none 0 0] 59)) := hW2.alloc' _
  have hk : ∀ w', Ext (((w.alloc (.cells #[.bool na, .slice A ka ca] 59)).alloc (.cells #[.bool nb, .slice B kb cb] 59)).alloc (.cells #[.bool false, .slice none 0 0] 59)) w' →
      w'.cell? ⟨w.heap.size, 0, none⟩ = some (.bool na) ∧ w'.cell? ⟨w.heap.size, 1, none⟩ = some (.slice A ka ca) ∧ w'.cell? ⟨w.heap.size + 1, 0, none⟩ = some (.bool nb) ∧ w'.cell? ⟨w.heap.size + 1, 1, none⟩ = some (.slice B kb cb) := by
    intro w' e
    have h1 := two_facts (W := w) (H := w.heap.size) (t := 59) (a := .bool na) (b := .slice A ka ca) (Ext.step (((Ext.rfl' _).alloc' _).alloc' _) e) rfl
    have h2 := two_facts (W := (w.alloc (.cells #[.bool na, .slice A ka ca] 59))) (H := w.heap.size + 1) (t := 59) (a := .bool nb) (b := .slice B kb cb) (Ext.step ((Ext.rfl' _).alloc' _) e) (by simp)
    exact ⟨h1.1, h1.2.1, h2.1, h2.2.1⟩
  have ht : ∀ w', Ext (((w.alloc (.cells #[.bool na, .slice A ka ca] 59)).alloc (.cells #[.bool nb, .slice B kb cb] 59)).alloc (.cells #[.bool false, .slice none 0 0] 59)) w' → _ :=
    fun w' e => two_facts (H := w.heap.size + 1 + 1) e (by simp)
  have HT := hid ht
  have hne1 : ¬ (w.heap.size + 1 + 1 = w.heap.size) := by omega
  have hne2 : ¬ (w.heap.size = w.heap.size + 1 + 1) := by omega
  have HK := hid hk
  have HW3 := hid hW3
  have HW2 := hid hW2
  clear hk hW3 hW2 ht
  go_enter Tryd.func42, Tryd.ntmps42
  go_wp2_with fail
  go_region_held3 (fun w' => w'.cell? ⟨w.heap.size, 0, none⟩ = some (.bool na) ∧ w'.cell? ⟨w.heap.size, 1, none⟩ = some (.slice A ka ca) ∧ w'.cell? ⟨w.heap.size + 1, 0, none⟩ = some (.bool nb) ∧ w'.cell? ⟨w.heap.size + 1, 1, none⟩ = some (.slice B kb cb))
    (first | go_keep | exact HK.out _ hx3a | exact HK.out _ hx3')
    (first | (go_at_call 68; refine (times_any _ _ a b _ (ha.ext ?_) (hb.ext ?_) la lb).mono ?_; (first | exact HW3.out | exact HW3.out.drew'); (first | exact HW3.out | exact HW3.out.drew'); rintro e w2 ⟨v2, rfl, hz2, hx2⟩; have hx3a := Ext.undrew hx2; obtain ⟨A2, k2, c2', rfl⟩ := hz2.slice) | (go_at_call 65; refine (signed_any (na != nb) _ (a * b) _ hz2 m HM.out HS.out).mono ?_; rintro e w3 ⟨v3, rfl, ⟨z3, b3, rfl, hb3, hz3⟩, hx3⟩; have hx3' := hx3a.step hx3; obtain ⟨A3, k3, c3', rfl⟩ := hz3.slice; obtain ⟨c0, c1, f0, f1, hl, _⟩ := HT.out _ hx3'))
  have hfin := NumPost.stored hx3' HW2.out (H := w.heap.size + 1 + 1) (by simp) hz3 b3 hb3.out
  have HF := hid hfin
  clear hfin
  go_wp2
  refine bodyPost_ret (v := .agg #[.bool b3, .slice A3 k3 c3']) (by simp [results, Tryd.results42, go_sem, c0, c1]) rfl HF.out
theorem ntimes_any (va vb : Value) (m n : Int) (w : World) (ha : NumV w va m) (hb : NumV w vb n) (la : m.natAbs ≤ BIG) (lb : n.natAbs ≤ BIG) :
    Calls Tryd.prog 42 #[va, vb] w (NumPost (m * n) w) := by
  obtain ⟨sa, ba, rfl, hba, hza⟩ := ha
  obtain ⟨sb, bb, rfl, hbb, hzb⟩ := hb
  obtain ⟨A, ka, ca, rfl⟩ := hza.slice
  obtain ⟨B, kb, cb, rfl⟩ := hzb.slice
  have eba := hba.out
  have ebb := hbb.out
  subst eba ebb
  refine ntimes_l A B ka ca kb cb _ _ _ _ (m * n) w hza hzb la lb (Int.natAbs_mul m n) ?_
  rcases Int.lt_trichotomy m 0 with h1 | h1 | h1 <;> rcases Int.lt_trichotomy n 0 with h2 | h2 | h2
  · have := Int.mul_pos_of_neg_of_neg h1 h2
    simp [h1, h2]; omega
  · subst h2; simp
  · have h3 := Int.mul_neg_of_neg_of_pos h1 h2
    have h4 : 0 < m.natAbs * n.natAbs := Nat.mul_pos (by omega) (by omega)
    simp [h1, h3, h4]; omega
  · subst h1; simp
  · subst h1; simp
  · subst h1; simp
  · have h3 := Int.mul_neg_of_pos_of_neg h1 h2
    have h4 : 0 < m.natAbs * n.natAbs := Nat.mul_pos (by omega) (by omega)
    simp [h2, h3, h4]; omega
  · subst h2; simp
  · have h3 := Int.mul_pos h1 h2
    have h4 : ¬ m < 0 := by omega
    have h5 : ¬ n < 0 := by omega
    simp [h4, h5]; omega
set_option maxRecDepth 100000 in
set_option maxHeartbeats 1600000 in
theorem nminus_l (A B : Option Addr) (ka ca kb cb : Nat) (na nb : Bool) (m n : Int) (w : World) (ha : NumV w (.agg #[.bool na, .slice A ka ca]) m) (hb : NumV w (.agg #[.bool nb, .slice B kb cb]) n) (la : m.natAbs ≤ BIG) (lb : n.natAbs ≤ BIG) :
    Calls Tryd.prog 41 #[.agg #[.bool na, .slice A ka ca], .agg #[.bool nb, .slice B kb cb]] w (NumPost (m + -n) w) := by
  have hW2 : Ext w ((w.alloc (.cells #[.bool na, .slice A ka ca] 59)).alloc (.cells #[.bool nb, .slice B kb cb] 59)) := ((Ext.rfl' w).alloc' _).alloc' _
  have hW3 : Ext w (((w.alloc (.cells #[.bool na, .slice A ka ca] 59)).alloc (.cells #[.bool nb, .slice B kb cb] 59)).alloc (.cells #[.bool false, .slice none 0 0] 59)) := hW2.alloc' _
  have hk : ∀ w', Ext (((w.alloc (.cells #[.bool na, .slice A ka ca] 59)).alloc (.cells #[.bool nb, .slice B kb cb] 59)).alloc (.cells #[.bool false, .slice none 0 0] 59)) w' →
      w'.cell? ⟨w.heap.size, 0, none⟩ = some (.bool na) ∧ w'.cell? ⟨w.heap.size, 1, none⟩ = some (.slice A ka ca) ∧ w'.cell? ⟨w.heap.size + 1, 0, none⟩ = some (.bool nb) ∧ w'.cell? ⟨w.heap.size + 1, 1, none⟩ = some (.slice B kb cb) := by
    intro w' e
    have h1 := two_facts (W := w) (H := w.heap.size) (t := 59) (a := .bool na) (b := .slice A ka ca) (Ext.step (((Ext.rfl' _).alloc' _).alloc' _) e) rfl
    have h2 := two_facts (W := (w.alloc (.cells #[.bool na, .slice A ka ca] 59))) (H := w.heap.size + 1) (t := 59) (a := .bool nb) (b := .slice B kb cb) (Ext.step ((Ext.rfl' _).alloc' _) e) (by simp)
    exact ⟨h1.1, h1.2.1, h2.1, h2.2.1⟩
  have ht : ∀ w', Ext (((w.alloc (.cells #[.bool na, .slice A ka ca] 59)).alloc (.cells #[.bool nb, .slice B kb cb] 59)).alloc (.cells #[.bool false, .slice none 0 0] 59)) w' → _ :=
    fun w' e => two_facts (H := w.heap.size + 1 + 1) e (by simp)
  have HT := hid ht
  have hne1 : ¬ (w.heap.size + 1 + 1 = w.heap.size) := by omega
  have hne2 : ¬ (w.heap.size = w.heap.size + 1 + 1) := by omega
  have HK := hid hk
  have HW3 := hid hW3
  have HW2 := hid hW2
  clear hk hW3 hW2 ht
  go_enter Tryd.func41, Tryd.ntmps41
  go_wp2_with fail
  go_region_held3 (fun w' => w'.cell? ⟨w.heap.size, 0, none⟩ = some (.bool na) ∧ w'.cell? ⟨w.heap.size, 1, none⟩ = some (.slice A ka ca) ∧ w'.cell? ⟨w.heap.size + 1, 0, none⟩ = some (.bool nb) ∧ w'.cell? ⟨w.heap.size + 1, 1, none⟩ = some (.slice B kb cb))
    (first | go_keep | exact HK.out _ hx3a | exact HK.out _ hx3')
    (first | (go_at_call 67; refine (opposite_any _ n _ (hb.ext ?_)).mono ?_; (first | exact HW3.out | exact HW3.out.drew'); rintro e w2 ⟨v2, rfl, ⟨z2, b2, rfl, hb2, hz2⟩, hx2⟩; have hx3a := Ext.undrew hx2; obtain ⟨A2, k2, c2', rfl⟩ := hz2.slice) | (go_at_call 40; refine (nplus_any _ _ m (-n) _ (ha.ext ?_) ⟨_, _, rfl, hb2, hz2⟩ la (by omega)).mono ?_; exact HW3.out.step hx3a; rintro e w3 ⟨v3, rfl, ⟨z3, b3, rfl, hb3, hz3⟩, hx3⟩; have hx3' := hx3a.step hx3; obtain ⟨A3, k3, c3', rfl⟩ := hz3.slice; obtain ⟨c0, c1, f0, f1, hl, _⟩ := HT.out _ hx3'))
  have hfin := NumPost.stored hx3' HW2.out (H := w.heap.size + 1 + 1) (by simp) hz3 b3 hb3.out
  have HF := hid hfin
  clear hfin
  go_wp2
  refine bodyPost_ret (v := .agg #[.bool b3, .slice A3 k3 c3']) (by simp [results, Tryd.results41, go_sem, c0, c1]) rfl HF.out
theorem nminus_any (va vb : Value) (m n : Int) (w : World) (ha : NumV w va m) (hb : NumV w vb n) (la : m.natAbs ≤ BIG) (lb : n.natAbs ≤ BIG) :
    Calls Tryd.prog 41 #[va, vb] w (NumPost (m - n) w) := by
  obtain ⟨sa, ba, rfl, hba, hza⟩ := ha
  obtain ⟨sb, bb, rfl, hbb, hzb⟩ := hb
  obtain ⟨A, ka, ca, rfl⟩ := hza.slice
  obtain ⟨B, kb, cb, rfl⟩ := hzb.slice
  rw [Int.sub_eq_add_neg]
  exact nminus_l A B ka ca kb cb _ _ m n w ⟨_, _, rfl, hba, hza⟩ ⟨_, _, rfl, hbb, hzb⟩ la lb
end Go.Proofs.YtdbaemadphhhcaaDoor
