/- (number).compare, positive, rest, divide -/
import Derived.Test.YtdbaemadphhhcaaDoorNTimes
namespace Go.Proofs.YtdbaemadphhhcaaDoor
open Go.RowKit
def sgnI (a b : Int) : Int := if a < b then -1 else if b < a then 1 else 0
/-- two boxed numbers, read through whatever is laid behind them -/
theorem boxes {w w' : World} {a0 a1 b0 b1 : Value} {t : TypeId} (e : Ext ((w.alloc (.cells #[a0, a1] t)).alloc (.cells #[b0, b1] t)) w') :
    w'.cell? ⟨w.heap.size, 0, none⟩ = some a0 ∧ w'.cell? ⟨w.heap.size, 1, none⟩ = some a1 ∧ w'.cell? ⟨w.heap.size + 1, 0, none⟩ = some b0 ∧ w'.cell? ⟨w.heap.size + 1, 1, none⟩ = some b1 := by
  have h1 := two_facts (W := w) (H := w.heap.size) (t := t) (a := a0) (b := a1) (Ext.step ((Ext.rfl' _).alloc' _) e) rfl
  have h2 := two_facts (W := w.alloc (.cells #[a0, a1] t)) (H := w.heap.size + 1) (t := t) (a := b0) (b := b1) e (by simp)
  exact ⟨h1.1, h1.2.1, h2.1, h2.2.1⟩
set_option maxHeartbeats 800000 in
theorem ncmp_any (va vb : Value) (m n : Int) (w : World) (ha : NumV w va m) (hb : NumV w vb n) (la : m.natAbs ≤ BIG) (lb : n.natAbs ≤ BIG) :
    Calls Tryd.prog 44 #[va, vb] w fun e w' => e = .returned (.int .i64 (sgnI m n)) ∧ Ext w w' := by
  obtain ⟨sa, ba, rfl, hba, hza⟩ := ha
  obtain ⟨sb, bb, rfl, hbb, hzb⟩ := hb
  obtain ⟨A, ka, ca, rfl⟩ := hza.slice
  obtain ⟨B, kb, cb, rfl⟩ := hzb.slice
  have eba := hba.out
  have ebb := hbb.out
  subst eba ebb
  have hE : Ext w ((w.alloc (.cells #[.bool (decide (m < 0)), .slice A ka ca] 59)).alloc (.cells #[.bool (decide (n < 0)), .slice B kb cb] 59)) := ((Ext.rfl' w).alloc' _).alloc' _
  have e1 : m < 0 → n < 0 → sgn n.natAbs m.natAbs = sgnI m n := by intro h1 h2; unfold sgn sgnI; repeat (first | omega | split)
  have e2 : ¬ m < 0 → ¬ n < 0 → sgn m.natAbs n.natAbs = sgnI m n := by intro h1 h2; unfold sgn sgnI; repeat (first | omega | split)
  have e3 : m < 0 → ¬ n < 0 → sgnI m n = -1 := by intro h1 h2; unfold sgnI; rw [if_pos (by omega)]
  have e4 : ¬ m < 0 → n < 0 → sgnI m n = 1 := by intro h1 h2; unfold sgnI; rw [if_neg (by omega), if_pos (by omega)]
  have E1 := hid e1
  have E2 := hid e2
  have E3 := hid e3
  have E4 := hid e4
  have HE := hid hE
  clear e1 e2 e3 e4 hE hba hbb
  by_cases h1 : m < 0 <;> by_cases h2 : n < 0
  · rw [decide_eq_true h1, decide_eq_true h2] at *
    have S1 := hid (E1.out h1 h2)
    clear h1 h2
    go_enter Tryd.func44, Tryd.ntmps44
    go_wp2_with fail
    refine (natCmp_any _ _ n.natAbs m.natAbs _ (hzb.ext HE.out) (hza.ext HE.out) lb la).mono ?_
    rintro e w3 ⟨rfl, hw3⟩
    go_wp2
    go_ret
    exact ⟨by rw [← S1.out]; rfl, HE.out.step hw3.ext⟩
  · rw [decide_eq_true h1, decide_eq_false h2] at *
    have S1 := hid (E3.out h1 h2)
    clear h1 h2
    go_enter Tryd.func44, Tryd.ntmps44
    go_wp2
    go_ret
    exact ⟨by rw [S1.out]; rfl, HE.out⟩
  · rw [decide_eq_false h1, decide_eq_true h2] at *
    have S1 := hid (E4.out h1 h2)
    clear h1 h2
    go_enter Tryd.func44, Tryd.ntmps44
    go_wp2
    go_ret
    exact ⟨by rw [S1.out]; rfl, HE.out⟩
  · rw [decide_eq_false h1, decide_eq_false h2] at *
    have S1 := hid (E2.out h1 h2)
    clear h1 h2
    go_enter Tryd.func44, Tryd.ntmps44
    go_wp2_with fail
    refine (natCmp_any _ _ m.natAbs n.natAbs _ (hza.ext HE.out) (hzb.ext HE.out) la lb).mono ?_
    rintro e w3 ⟨rfl, hw3⟩
    go_wp2
    go_ret
    exact ⟨by rw [← S1.out]; rfl, HE.out.step hw3.ext⟩
theorem positive_any (va : Value) (m : Int) (w : World) (ha : NumV w va m) :
    Calls Tryd.prog 53 #[va] w fun e w' => e = .returned (.bool (decide (0 < m))) ∧ Ext w w' := by
  obtain ⟨sa, ba, rfl, hba, hza⟩ := ha
  obtain ⟨A, ka, ca, rfl⟩ := hza.slice
  have eba := hba.out
  have hk := hza.len_zero
  subst eba
  by_cases h1 : m < 0
  · have h2 : decide (0 < m) = false := by simp; omega
    rw [decide_eq_true h1, h2] at *
    clear h1 h2 hk
    go_enter Tryd.func53, Tryd.ntmps53
    go_wp2
    go_ret
    exact ⟨rfl, (Ext.rfl' w).alloc' _⟩
  · rw [decide_eq_false h1] at *
    by_cases h0 : 0 < ka
    · have h2 : decide (0 < m) = true := by simp; have := hk.1 h0; omega
      rw [h2]
      clear h1 h2 hk
      go_enter Tryd.func53, Tryd.ntmps53
      go_wp2
      go_ret
      exact ⟨rfl, (Ext.rfl' w).alloc' _⟩
    · have h2 : decide (0 < m) = false := by simp; have : ¬ 0 < m.natAbs := fun h => h0 (hk.2 h); omega
      rw [h2]
      clear h1 h2 hk
      go_enter Tryd.func53, Tryd.ntmps53
      go_wp2
      go_ret
      exact ⟨rfl, (Ext.rfl' w).alloc' _⟩
/-- division of a negative number -/
theorem div_neg {m n : Int} (hm : m < 0) (hn : 0 < n) (h0 : m.natAbs % n.natAbs = 0) : m / n = -((m.natAbs / n.natAbs : Nat) : Int) ∧ m % n = 0 := by
  have h := Nat.div_add_mod m.natAbs n.natAbs
  refine (Int.ediv_emod_unique hn).2 ⟨?_, by omega, hn⟩
  rw [h0, Nat.add_zero] at h
  have h' : ((n.natAbs * (m.natAbs / n.natAbs) : Nat) : Int) = (m.natAbs : Int) := by rw [h]
  rw [Int.natCast_mul] at h'
  rw [Int.mul_neg]
  have e1 : (n.natAbs : Int) = n := by omega
  rw [e1] at h'
  omega
theorem div_neg' {m n : Int} (hm : m < 0) (hn : 0 < n) (h0 : 0 < m.natAbs % n.natAbs) : m / n = -(((m.natAbs / n.natAbs + 1 : Nat)) : Int) ∧ m % n = ((n.natAbs - m.natAbs % n.natAbs : Nat) : Int) := by
  have h := Nat.div_add_mod m.natAbs n.natAbs
  have hlt := Nat.mod_lt m.natAbs (show 0 < n.natAbs by omega)
  refine (Int.ediv_emod_unique hn).2 ⟨?_, by omega, by omega⟩
  have h' : ((n.natAbs * (m.natAbs / n.natAbs) + m.natAbs % n.natAbs : Nat) : Int) = (m.natAbs : Int) := by rw [h]
  rw [Int.natCast_add, Int.natCast_mul] at h'
  rw [Int.mul_neg, Int.natCast_add, Int.mul_add]
  have e1 : (n.natAbs : Int) = n := by omega
  rw [e1] at h'
  omega
theorem div_pos' {m n : Int} (hm : ¬ m < 0) (hn : 0 < n) : m / n = ((m.natAbs / n.natAbs : Nat) : Int) ∧ m % n = ((m.natAbs % n.natAbs : Nat) : Int) := by
  have h := Nat.div_add_mod m.natAbs n.natAbs
  have hlt := Nat.mod_lt m.natAbs (show 0 < n.natAbs by omega)
  refine (Int.ediv_emod_unique hn).2 ⟨?_, by omega, by omega⟩
  have h' : ((n.natAbs * (m.natAbs / n.natAbs) + m.natAbs % n.natAbs : Nat) : Int) = (m.natAbs : Int) := by rw [h]
  rw [Int.natCast_add, Int.natCast_mul] at h'
  have e1 : (n.natAbs : Int) = n := by omega
  rw [e1] at h'
  omega
set_option maxHeartbeats 800000 in
theorem nrest_any (va : Value) (m : Int) (d : Nat) (w : World) (ha : NumV w va m) (la : m.natAbs ≤ BIG) (hd : 0 < d) (hd2 : d ≤ 2147483648) :
    Calls Tryd.prog 61 #[va, .int .u64 (d : Int)] w fun e w' => e = .returned (.int .u64 (m % d)) ∧ Ext w w' := by
  obtain ⟨sa, ba, rfl, hba, hza⟩ := ha
  obtain ⟨A, ka, ca, rfl⟩ := hza.slice
  have eba := hba.out
  subst eba
  have hlt := Nat.mod_lt m.natAbs hd
  have hE : ∀ x, Ext w (w.alloc x) := fun x => (Ext.rfl' w).alloc' x
  by_cases h1 : m < 0
  · rw [decide_eq_true h1]
    by_cases h0 : m.natAbs % d = 0
    · have hv : m % (d : Int) = 0 := (div_neg (n := d) h1 (by omega) (by simpa using h0)).2
      have HV := hid hv
      have H0 := hid h0
      clear hv h0 hba
      go_enter Tryd.func61, Tryd.ntmps61
      go_wp2_with fail
      refine (divS_any _ m.natAbs d _ (hza.ext (hE _)) la hd hd2).mono ?_
      rintro e w3 ⟨v3, rfl, hz3, hx3⟩
      obtain ⟨c0, c1, -, -, -, -⟩ := two_facts hx3 rfl
      rw [H0.out]
      go_wp2
      go_ret
      exact ⟨by rw [HV.out]; rfl, (hE _).step hx3⟩
    · have hv : m % (d : Int) = ((d - m.natAbs % d : Nat) : Int) := by
        have := (div_neg' (n := d) h1 (by omega) (by simp; omega)).2
        simpa using this
      have HV := hid hv
      have hr0 : 0 < m.natAbs % d := by omega
      clear hv hba h0
      go_enter Tryd.func61, Tryd.ntmps61
      go_wp2_with fail
      refine (divS_any _ m.natAbs d _ (hza.ext (hE _)) la hd hd2).mono ?_
      rintro e w3 ⟨v3, rfl, hz3, hx3⟩
      obtain ⟨c0, c1, -, -, -, -⟩ := two_facts hx3 rfl
      generalize m.natAbs % d = r at *
      go_wp2
      go_ret
      exact ⟨by rw [HV.out, Int.ofNat_sub (by omega)]; rfl, (hE _).step hx3⟩
  · rw [decide_eq_false h1]
    have hv : m % (d : Int) = ((m.natAbs % d : Nat) : Int) := by
      have := (div_pos' (n := d) h1 (by omega)).2
      simpa using this
    have HV := hid hv
    clear hv hba
    go_enter Tryd.func61, Tryd.ntmps61
    go_wp2_with fail
    refine (divS_any _ m.natAbs d _ (hza.ext (hE _)) la hd hd2).mono ?_
    rintro e w3 ⟨v3, rfl, hz3, hx3⟩
    obtain ⟨c0, c1, -, -, -, -⟩ := two_facts hx3 rfl
    generalize m.natAbs % d = r at *
    go_wp2
    go_ret
    exact ⟨by rw [HV.out]; rfl, (hE _).step hx3⟩
end Go.Proofs.YtdbaemadphhhcaaDoor
