/- (number).plus, (number).minus -/
import Derived.Test.YtdbaemadphhhcaaDoorSign
namespace Go.Proofs.YtdbaemadphhhcaaDoor
open Go.RowKit
theorem Ext.undrew {w w' : World} (h : Ext w.drew w') : Ext w w' := ⟨h.os, h.tape, h.output, h.size, h.block⟩
theorem Ext.undrewN {w w' : World} {n : Nat} (h : Ext (w.drewN n) w') : Ext w w' := ⟨h.os, h.tape, h.output, h.size, h.block⟩
theorem Ext.drew' {a b : World} (h : Ext a b) : Ext a b.drew := ⟨h.os, h.tape, h.output, h.size, h.block⟩
set_option maxRecDepth 100000 in
set_option maxHeartbeats 1600000 in
theorem nplus_same (A B : Option Addr) (ka ca kb cb a b : Nat) (na nb : Bool) (m : Int) (w : World) (ha : NatV w (.slice A ka ca) a) (hb : NatV w (.slice B kb cb) b) (la : a ≤ BIG) (lb : b ≤ BIG)
    (hm : m.natAbs = a + b) (hs : na = decide (m < 0)) :
    Calls Tryd.prog 40 #[.agg #[.bool na, .slice A ka ca], .agg #[.bool na, .slice B kb cb]] w (NumPost m w) := by
  have HM := hid hm
  have HS := hid hs
  clear hm hs
  have hq : (na == na) = true := by simp
  have hW2 : Ext w ((w.alloc (.cells #[.bool na, .slice A ka ca] 59)).alloc (.cells #[.bool na, .slice B kb cb] 59)) := ((Ext.rfl' w).alloc' _).alloc' _
  have hW3 : Ext w (((w.alloc (.cells #[.bool na, .slice A ka ca] 59)).alloc (.cells #[.bool na, .slice B kb cb] 59)).alloc (.cells #[.bool false, .slice none 0 0] 59)) := hW2.alloc' _
  have hk : ∀ w', Ext (((w.alloc (.cells #[.bool na, .slice A ka ca] 59)).alloc (.cells #[.bool na, .slice B kb cb] 59)).alloc (.cells #[.bool false, .slice none 0 0] 59)) w' →
      w'.cell? ⟨w.heap.size, 0, none⟩ = some (.bool na) ∧ w'.cell? ⟨w.heap.size, 1, none⟩ = some (.slice A ka ca) ∧ w'.cell? ⟨w.heap.size + 1, 0, none⟩ = some (.bool na) ∧ w'.cell? ⟨w.heap.size + 1, 1, none⟩ = some (.slice B kb cb) := by
    intro w' e
    have h1 := two_facts (W := w) (H := w.heap.size) (t := 59) (a := .bool na) (b := .slice A ka ca) (Ext.step (((Ext.rfl' _).alloc' _).alloc' _) e) rfl
    have h2 := two_facts (W := (w.alloc (.cells #[.bool na, .slice A ka ca] 59))) (H := w.heap.size + 1) (t := 59) (a := .bool na) (b := .slice B kb cb) (Ext.step ((Ext.rfl' _).alloc' _) e) (by simp)
    exact ⟨h1.1, h1.2.1, h2.1, h2.2.1⟩
  have ht : ∀ w', Ext (((w.alloc (.cells #[.bool na, .slice A ka ca] 59)).alloc (.cells #[.bool na, .slice B kb cb] 59)).alloc (.cells #[.bool false, .slice none 0 0] 59)) w' → _ :=
    fun w' e => two_facts (H := w.heap.size + 1 + 1) e (by simp)
  have HT := hid ht
  have hne1 : ¬ (w.heap.size + 1 + 1 = w.heap.size) := by omega
  have hne2 : ¬ (w.heap.size = w.heap.size + 1 + 1) := by omega
  have HK := hid hk
  have HW3 := hid hW3
  have HW2 := hid hW2
  clear hk hW3 hW2 ht
  go_enter Tryd.func40, Tryd.ntmps40
  go_wp2_with fail
  go_region_held3 (fun w' => w'.cell? ⟨w.heap.size, 0, none⟩ = some (.bool na) ∧ w'.cell? ⟨w.heap.size, 1, none⟩ = some (.slice A ka ca) ∧ w'.cell? ⟨w.heap.size + 1, 0, none⟩ = some (.bool na) ∧ w'.cell? ⟨w.heap.size + 1, 1, none⟩ = some (.slice B kb cb))
    (first | go_keep | exact HK.out _ hx3')
    (first | (go_at_call 63; refine (plus_any _ _ a b _ (ha.ext ?_) (hb.ext ?_) la lb).mono ?_; (first | exact HW3.out | exact HW3.out.drew'); (first | exact HW3.out | exact HW3.out.drew'); rintro e w3 ⟨v3, rfl, hz3, hx3⟩; obtain ⟨A3, k3, c3', rfl⟩ := hz3.slice; have hx3' := Ext.undrew hx3; obtain ⟨c0, c1, f0, f1, hl, _⟩ := HT.out _ hx3'))
  have hfin := NumPost.stored hx3' HW2.out (H := w.heap.size + 1 + 1) (by simp) (by rw [HM.out]; exact hz3) na HS.out
  have HF := hid hfin
  clear hfin
  go_wp2
  refine bodyPost_ret (v := .agg #[.bool na, .slice A3 k3 c3']) (by simp [results, Tryd.results40, go_sem, c0, c1]) rfl HF.out
set_option maxRecDepth 100000 in
set_option maxHeartbeats 1600000 in
theorem nplus_lt (A B : Option Addr) (ka ca kb cb a b : Nat) (na nb : Bool) (m : Int) (w : World) (ha : NatV w (.slice A ka ca) a) (hb : NatV w (.slice B kb cb) b) (la : a ≤ BIG) (lb : b ≤ BIG)
    (hne : na ≠ nb) (hab : a < b) (hm : m.natAbs = b - a) (hs : (nb && decide (0 < b - a)) = decide (m < 0)) :
    Calls Tryd.prog 40 #[.agg #[.bool na, .slice A ka ca], .agg #[.bool nb, .slice B kb cb]] w (NumPost m w) := by
  have HM := hid hm
  have HS := hid hs
  clear hm hs
  have hq : (na == nb) = false := by simpa using hne
  clear hne
  have hsg : sgn a b < 0 := by unfold sgn; rw [if_pos hab]; omega
  have hW2 : Ext w ((w.alloc (.cells #[.bool na, .slice A ka ca] 59)).alloc (.cells #[.bool nb, .slice B kb cb] 59)) := ((Ext.rfl' w).alloc' _).alloc' _
  have hW3 : Ext w (((w.alloc (.cells #[.bool na, .slice A ka ca] 59)).alloc (.cells #[.bool nb, .slice B kb cb] 59)).alloc (.cells #[.bool false, .slice none 0 0] 59)) := hW2.alloc' _
  have hk : ∀ w', Ext (((w.alloc (.cells #[.bool na, .slice A ka ca] 59)).alloc (.cells #[.bool nb, .slice B kb cb] 59)).alloc (.cells #[.bool false, .slice none 0 0] 59)) w' →
      w'.cell? ⟨w.heap.size, 0, none⟩ = some (.bool na) ∧ w'.cell? ⟨w.heap.size, 1, none⟩ = some (.slice A ka ca) ∧ w'.cell? ⟨w.heap.size + 1, 0, none⟩ = some (.bool nb) ∧ w'.cell? ⟨w.heap.size + 1, 1, none⟩ = some (.slice B kb cb) := by
    intro w' e
    have h1 := two_facts (W := w) (H := w.heap.size) (t := 59) (a := .bool na) (b := .slice A ka ca) (Ext.step (((Ext.rfl' _).alloc' _).alloc' _) e) rfl
    have h2 := two_facts (W := (w.alloc (.cells #[.bool na, .slice A ka ca] 59))) (H := w.heap.size + 1) (t := 59) (a := .bool nb) (b := .slice B kb cb) (Ext.step ((Ext.rfl' _).alloc' _) e) (by simp)
    exact ⟨h1.1, h1.2.1, h2.1, h2.2.1⟩
  have ht : ∀ w', Ext (((w.alloc (.cells #[.bool na, .slice A ka ca] 59)).alloc (.cells #[.bool nb, .slice B kb cb] 59)).alloc (.cells #[.bool false, .slice none 0 0] 59)) w' → _ :=
    fun w' e => two_facts (H := w.heap.size + 1 + 1) e (by simp)
  have HT := hid ht
  have hne1 : ¬ (w.heap.size + 1 + 1 = w.heap.size) := by omega
  have hne2 : ¬ (w.heap.size = w.heap.size + 1 + 1) := by omega
  have HK := hid hk
  have HW3 := hid hW3
  have HW2 := hid hW2
  clear hk hW3 hW2 ht
  go_enter Tryd.func40, Tryd.ntmps40
  go_wp2_with fail
  refine (natCmp_any _ _ a b _ (ha.ext ?_) (hb.ext ?_) la lb).mono ?_
  · exact HW3.out
  · exact HW3.out
  rintro e w1 ⟨rfl, hw1⟩
  have hx1 := hw1.ext
  have HX1 := hid hx1
  have hkk := HK.out _ hx1
  obtain ⟨e0, e1, e2, e3⟩ := hkk
  clear hx1 hw1
  go_wp2_with fail
  go_region_held3 (fun w' => w'.cell? ⟨w.heap.size, 0, none⟩ = some (.bool na) ∧ w'.cell? ⟨w.heap.size, 1, none⟩ = some (.slice A ka ca) ∧ w'.cell? ⟨w.heap.size + 1, 0, none⟩ = some (.bool nb) ∧ w'.cell? ⟨w.heap.size + 1, 1, none⟩ = some (.slice B kb cb))
    (first | go_keep | exact HK.out _ hx3a | exact HK.out _ hx3')
    (first | (go_at_call 66; refine (minus_any _ _ b a _ (hb.ext ?_) (ha.ext ?_) lb (by omega)).mono ?_; (first | exact HW3.out.step HX1.out | exact (HW3.out.step HX1.out).drew'); (first | exact HW3.out.step HX1.out | exact (HW3.out.step HX1.out).drew'); rintro e w2 ⟨v2, rfl, hz2, hx2⟩; have hx3a := HX1.out.step (Ext.undrew hx2); obtain ⟨A2, k2, c2', rfl⟩ := hz2.slice) | (go_at_call 65; refine (signed_any nb _ (b - a) _ hz2 m HM.out HS.out).mono ?_; rintro e w3 ⟨v3, rfl, ⟨z3, b3, rfl, hb3, hz3⟩, hx3⟩; have hx3' := hx3a.step hx3; obtain ⟨A3, k3, c3', rfl⟩ := hz3.slice; obtain ⟨c0, c1, f0, f1, hl, _⟩ := HT.out _ hx3'))
  have hfin := NumPost.stored hx3' HW2.out (H := w.heap.size + 1 + 1) (by simp) hz3 b3 hb3.out
  have HF := hid hfin
  clear hfin
  go_wp2
  refine bodyPost_ret (v := .agg #[.bool b3, .slice A3 k3 c3']) (by simp [results, Tryd.results40, go_sem, c0, c1]) rfl HF.out
set_option maxRecDepth 100000 in
set_option maxHeartbeats 1600000 in
theorem nplus_ge (A B : Option Addr) (ka ca kb cb a b : Nat) (na nb : Bool) (m : Int) (w : World) (ha : NatV w (.slice A ka ca) a) (hb : NatV w (.slice B kb cb) b) (la : a ≤ BIG) (lb : b ≤ BIG)
    (hne : na ≠ nb) (hab : ¬ a < b) (hm : m.natAbs = a - b) (hs : (na && decide (0 < a - b)) = decide (m < 0)) :
    Calls Tryd.prog 40 #[.agg #[.bool na, .slice A ka ca], .agg #[.bool nb, .slice B kb cb]] w (NumPost m w) := by
  have HM := hid hm
  have HS := hid hs
  clear hm hs
  have hq : (na == nb) = false := by simpa using hne
  clear hne
  have hsg : ¬ sgn a b < 0 := by unfold sgn; rw [if_neg hab]; split <;> omega
  have hW2 : Ext w ((w.alloc (.cells #[.bool na, .slice A ka ca] 59)).alloc (.cells #[.bool nb, .slice B kb cb] 59)) := ((Ext.rfl' w).alloc' _).alloc' _
  have hW3 : Ext w (((w.alloc (.cells #[.bool na, .slice A ka ca] 59)).alloc (.cells #[.bool nb, .slice B kb cb] 59)).alloc (.cells #[.bool false, .slice none 0 0] 59)) := hW2.alloc' _
  have hk : ∀ w', Ext (((w.alloc (.cells #[.bool na, .slice A ka ca] 59)).alloc (.cells #[.bool nb, .slice B kb cb] 59)).alloc (.cells #[.bool false, .slice none 0 0] 59)) w' →
      w'.cell? ⟨w.heap.size, 0, none⟩ = some (.bool na) ∧ w'.cell? ⟨w.heap.size, 1, none⟩ = some (.slice A ka ca) ∧ w'.cell? ⟨w.heap.size + 1, 0, none⟩ = some (.bool nb) ∧ w'.cell? ⟨w.heap.size + 1, 1, none⟩ = some (.slice B kb cb) := by
    intro w' e
    have h1 := two_facts (W := w) (H := w.heap.size) (t := 59) (a := .bool na) (b := .slice A ka ca) (Ext.step (((Ext.rfl' _).alloc' _).alloc' _) e) rfl
    have h2 := two_facts (W := (w.alloc (.cells #[.bool na, .slice A ka ca] 59))) (H := w.heap.size + 1) (t := 59) (a := .bool nb) (b := .slice B kb cb) (Ext.step ((Ext.rfl' _).alloc' _) e) (by simp)
    exact ⟨h1.1, h1.2.1, h2.1, h2.2.1⟩
  have ht : ∀ w', Ext (((w.alloc (.cells #[.bool na, .slice A ka ca] 59)).alloc (.cells #[.bool nb, .slice B kb cb] 59)).alloc (.cells #[.bool false, .slice none 0 0] 59)) w' → _ :=
    fun w' e => two_facts (H := w.heap.size + 1 + 1) e (by simp)
  have HT := hid ht
  have hne1 : ¬ (w.heap.size + 1 + 1 = w.heap.size) := by omega
  have hne2 : ¬ (w.heap.size = w.heap.size + 1 + 1) := by omega
  have HK := hid hk
  have HW3 := hid hW3
  have HW2 := hid hW2
  clear hk hW3 hW2 ht
  go_enter Tryd.func40, Tryd.ntmps40
  go_wp2_with fail
  refine (natCmp_any _ _ a b _ (ha.ext ?_) (hb.ext ?_) la lb).mono ?_
  · exact HW3.out
  · exact HW3.out
  rintro e w1 ⟨rfl, hw1⟩
  have hx1 := hw1.ext
  have HX1 := hid hx1
  have hkk := HK.out _ hx1
  obtain ⟨e0, e1, e2, e3⟩ := hkk
  clear hx1 hw1
  go_wp2_with fail
  go_region_held3 (fun w' => w'.cell? ⟨w.heap.size, 0, none⟩ = some (.bool na) ∧ w'.cell? ⟨w.heap.size, 1, none⟩ = some (.slice A ka ca) ∧ w'.cell? ⟨w.heap.size + 1, 0, none⟩ = some (.bool nb) ∧ w'.cell? ⟨w.heap.size + 1, 1, none⟩ = some (.slice B kb cb))
    (first | go_keep | exact HK.out _ hx3a | exact HK.out _ hx3')
    (first | (go_at_call 66; refine (minus_any _ _ a b _ (ha.ext ?_) (hb.ext ?_) la (by omega)).mono ?_; (first | exact HW3.out.step HX1.out | exact (HW3.out.step HX1.out).drew'); (first | exact HW3.out.step HX1.out | exact (HW3.out.step HX1.out).drew'); rintro e w2 ⟨v2, rfl, hz2, hx2⟩; have hx3a := HX1.out.step (Ext.undrew hx2); obtain ⟨A2, k2, c2', rfl⟩ := hz2.slice) | (go_at_call 65; refine (signed_any na _ (a - b) _ hz2 m HM.out HS.out).mono ?_; rintro e w3 ⟨v3, rfl, ⟨z3, b3, rfl, hb3, hz3⟩, hx3⟩; have hx3' := hx3a.step hx3; obtain ⟨A3, k3, c3', rfl⟩ := hz3.slice; obtain ⟨c0, c1, f0, f1, hl, _⟩ := HT.out _ hx3'))
  have hfin := NumPost.stored hx3' HW2.out (H := w.heap.size + 1 + 1) (by simp) hz3 b3 hb3.out
  have HF := hid hfin
  clear hfin
  go_wp2
  refine bodyPost_ret (v := .agg #[.bool b3, .slice A3 k3 c3']) (by simp [results, Tryd.results40, go_sem, c0, c1]) rfl HF.out
theorem nplus_any (va vb : Value) (m n : Int) (w : World) (ha : NumV w va m) (hb : NumV w vb n) (la : m.natAbs ≤ BIG) (lb : n.natAbs ≤ BIG) :
    Calls Tryd.prog 40 #[va, vb] w (NumPost (m + n) w) := by
  obtain ⟨sa, ba, rfl, hba, hza⟩ := ha
  obtain ⟨sb, bb, rfl, hbb, hzb⟩ := hb
  obtain ⟨A, ka, ca, rfl⟩ := hza.slice
  obtain ⟨B, kb, cb, rfl⟩ := hzb.slice
  have eba := hba.out
  have ebb := hbb.out
  subst eba ebb
  by_cases h1 : m < 0 <;> by_cases h2 : n < 0
  · rw [decide_eq_true h1, decide_eq_true h2]
    exact nplus_same A B ka ca kb cb _ _ true true (m + n) w hza hzb la lb (by omega) (by rw [decide_eq_true (by omega)])
  · rw [decide_eq_true h1, decide_eq_false h2]
    by_cases hab : m.natAbs < n.natAbs
    · exact nplus_lt A B ka ca kb cb _ _ true false (m + n) w hza hzb la lb (by simp) hab (by omega) (by simp; omega)
    · exact nplus_ge A B ka ca kb cb _ _ true false (m + n) w hza hzb la lb (by simp) hab (by omega) (by
        rw [Bool.eq_iff_iff]; simp; omega)
  · rw [decide_eq_false h1, decide_eq_true h2]
    by_cases hab : m.natAbs < n.natAbs
    · exact nplus_lt A B ka ca kb cb _ _ false true (m + n) w hza hzb la lb (by simp) hab (by omega) (by
        rw [Bool.eq_iff_iff]; simp; omega)
    · exact nplus_ge A B ka ca kb cb _ _ false true (m + n) w hza hzb la lb (by simp) hab (by omega) (by simp; omega)
  · rw [decide_eq_false h1, decide_eq_false h2]
    exact nplus_same A B ka ca kb cb _ _ false false (m + n) w hza hzb la lb (by omega) (by rw [decide_eq_false (by omega)])
end Go.Proofs.YtdbaemadphhhcaaDoor
