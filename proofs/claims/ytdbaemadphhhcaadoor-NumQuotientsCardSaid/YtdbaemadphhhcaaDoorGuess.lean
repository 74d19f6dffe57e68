/- num.guess -/
import Derived.Test.YtdbaemadphhhcaaDoorDivS
import Derived.Test.YtdbaemadphhhcaaDoorLong
namespace Go.Proofs.YtdbaemadphhhcaaDoor
open Go.RowKit
def GuessPost (H v1 v2 u2 q : Nat) (w : World) (e : Ending) (w' : World) : Prop :=
  ∃ l left : Nat, e = .returned (.int .u64 (l : Int)) ∧ Drew w w' ∧ l * v1 + left = H ∧ q ≤ l ∧ l ≤ 1000000000 ∧ (1000000000 ≤ left ∨ (l < 1000000000 ∧ l * v2 ≤ left * 1000000000 + u2))
def GuessInv (H v1 q : Nat) (w : World) (lv lf : Value) (wr : World) : Prop :=
  ∃ l left : Nat, lv = .int .u64 l ∧ lf = .int .u64 left ∧ l * v1 + left = H ∧ q ≤ l ∧ l ≤ 1000000001 ∧ (l = 1000000001 → left < 1000000000) ∧ left < 2000000000 ∧ Drew w wr
set_option maxRecDepth 100000 in
set_option maxHeartbeats 1600000 in
theorem guess_l (g o gv m cw cv u0 u1 u2 v1 v2 q : Nat) (w : World) (hm : m ≤ 1000)
    (h0 : w.cell? ⟨g, o + (m + 2), none⟩ = some (.int .u64 (u0 : Int))) (h1 : w.cell? ⟨g, o + (m + 1), none⟩ = some (.int .u64 (u1 : Int))) (h2 : w.cell? ⟨g, o + m, none⟩ = some (.int .u64 (u2 : Int)))
    (k1 : w.cell? ⟨gv, m + 1, none⟩ = some (.int .u64 (v1 : Int))) (k2 : w.cell? ⟨gv, m, none⟩ = some (.int .u64 (v2 : Int)))
    (b0 : u0 ≤ v1) (b1 : u1 < 1000000000) (b2 : u2 < 1000000000) (bv1 : v1 < 1000000000) (bv2 : v2 < 1000000000) (bn : 500000000 ≤ v1)
    (hq0 : q * v1 ≤ u0 * 1000000000 + u1) (hqB : q < 1000000000) (hqd : ∀ l left : Nat, l * v1 + left = u0 * 1000000000 + u1 → left * 1000000000 + u2 < l * v2 → q < l) :
    Calls Tryd.prog 88 #[.slice (some ⟨g, o, none⟩) (m + 3) cw, .slice (some ⟨gv, 0, none⟩) (m + 2) cv] w (GuessPost (u0 * 1000000000 + u1) v1 v2 u2 q w) := by
  have hv0 : ¬ (v1 : Int) = 0 := by omega
  have HQ := hid hqd
  have HQ0 := hid hq0
  clear hqd hq0
  go_enter Tryd.func88, Tryd.ntmps88
  go_wp2_with fail
  go_quiet (fail)
  generalize hw1 : World.drewN w _ = w1
  have hwr1 : Drew w w1 := hw1 ▸ (Drew.rfl' w).drewN _
  have k1' : w1.cell? ⟨gv, m + 1, none⟩ = some (.int .u64 (v1 : Int)) := by rw [← hw1]; exact k1
  have k2' : w1.cell? ⟨gv, m, none⟩ = some (.int .u64 (v2 : Int)) := by rw [← hw1]; exact k2
  have h2' : w1.cell? ⟨g, o + m, none⟩ = some (.int .u64 (u2 : Int)) := by rw [← hw1]; exact h2
  clear hw1 h0 h1 h2 k1 k2
  go_wp2_with fail
  go_quiet (fail)
  generalize hw2 : World.drewN w1 _ = w2
  have hwr2 : Drew w w2 := hw2 ▸ hwr1.drewN _
  have K1 : w2.cell? ⟨gv, m + 1, none⟩ = some (.int .u64 (v1 : Int)) := by rw [← hw2]; exact k1'
  have K2 : w2.cell? ⟨gv, m, none⟩ = some (.int .u64 (v2 : Int)) := by rw [← hw2]; exact k2'
  have H2 : w2.cell? ⟨g, o + m, none⟩ = some (.int .u64 (u2 : Int)) := by rw [← hw2]; exact h2'
  clear hw2 h2' k1' k2' hwr1
  have hv1p : 0 < v1 := by omega
  have hdm := Nat.div_add_mod (u0 * 1000000000 + u1) v1
  have hmod := Nat.mod_lt (u0 * 1000000000 + u1) hv1p
  have hdiv : (u0 * 1000000000 + u1) / v1 ≤ 1000000001 := by
    refine Nat.lt_succ_iff.1 ((Nat.div_lt_iff_lt_mul hv1p).2 ?_)
    omega
  have hdq : q ≤ (u0 * 1000000000 + u1) / v1 := by rw [Nat.le_div_iff_mul_le hv1p]; exact HQ0.out
  have HDM := hid hdm
  clear hdm
  go_wp2_with fail
  go_loopw [7, 8] (fun lv lf wr => GuessInv (u0 * 1000000000 + u1) v1 q w2 lv lf wr) (fun lv _ _ => (intOf lv).toNat)
  case atStart =>
    refine ⟨(u0 * 1000000000 + u1) / v1, (u0 * 1000000000 + u1) % v1, by simp, by simp, ?_, hdq, hdiv, by omega, by omega, Drew.rfl' w2⟩
    rw [Nat.mul_comm]; exact HDM.out
  case round =>
    obtain ⟨l, left, rfl, rfl, he, hql, hl, hll, hleft, hwr⟩ := hrel
    have HE := hid he
    have k1 : wr.cell? ⟨gv, m + 1, none⟩ = some (.int .u64 (v1 : Int)) := by obtain ⟨_, rfl⟩ := hwr; exact K1
    have k2 : wr.cell? ⟨gv, m, none⟩ = some (.int .u64 (v2 : Int)) := by obtain ⟨_, rfl⟩ := hwr; exact K2
    have h2 : wr.cell? ⟨g, o + m, none⟩ = some (.int .u64 (u2 : Int)) := by obtain ⟨_, rfl⟩ := hwr; exact H2
    have HLL := hid hll
    clear he K1 K2 H2 HDM hll
    have hx1 : (l : Int) * (v2 : Int) ≤ 1000000001 * 999999999 := by
      rw [← Int.natCast_mul]
      have := Nat.mul_le_mul hl (show v2 ≤ 999999999 by omega)
      omega
    have hx0 : 0 ≤ (l : Int) * (v2 : Int) := by rw [← Int.natCast_mul]; omega
    by_cases c1 : left < 1000000000
    · by_cases c2 : 1000000000 ≤ l
      · have d1 : decide ((left : Int) < 1000000000) = true := by simp; omega
        have d2 : decide ((1000000000 : Int) ≤ (l : Int)) = true := by simp; omega
        have hl1 : 1 ≤ l := by omega
        clear hx1 hx0 k2 h2 hmod hdiv hdq hv1p
        go_wp2_with fail
        go_quiet (fail)
        generalize hw3 : World.drewN wr _ = w3
        have hwr3 : Drew w2 w3 := hw3 ▸ hwr.drewN _
        have k1' : w3.cell? ⟨gv, m + 1, none⟩ = some (.int .u64 (v1 : Int)) := by rw [← hw3]; exact k1
        clear hw3 k1 d1 d2 hwr
        have C1 := hid c1
        have C2 := hid c2
        clear c1 c2
        go_wp2
        go_roundw
        case rel =>
          have he := HE.out
          have hlt : q < l := by have := C2.out; omega
          obtain ⟨l', rfl⟩ : ∃ l', l = l' + 1 := ⟨l - 1, by omega⟩
          rw [Nat.add_mul, Nat.one_mul] at he
          exact ⟨l', left + v1, by simp, by simp, by omega, by omega, by omega, by omega, by have := C1.out; omega, by assumption⟩
        case measure => simp [intOf]; omega
      · by_cases c3 : left * 1000000000 + u2 < l * v2
        · have d1 : decide ((left : Int) < 1000000000) = true := by simp; omega
          have d2 : decide ((1000000000 : Int) ≤ (l : Int)) = false := by simp; omega
          have d3 : decide ((left : Int) * 1000000000 + u2 < (l : Int) * v2) = true := by
            rw [decide_eq_true_iff, ← Int.natCast_mul]; omega
          have hlt := HQ.out l left HE.out c3
          have HLT := hid hlt
          have C1 := hid c1
          have hl1 : 1 ≤ l := by omega
          clear hmod hdiv hdq hv1p c3 hlt c1 c2
          go_wp2_with fail
          go_quiet (fail)
          generalize hw3 : World.drewN wr _ = w3
          have hwr3 : Drew w2 w3 := hw3 ▸ hwr.drewN _
          have k1' : w3.cell? ⟨gv, m + 1, none⟩ = some (.int .u64 (v1 : Int)) := by rw [← hw3]; exact k1
          clear hw3 k1 d1 d2 d3 hwr k2 h2 hx1 hx0
          go_wp2
          go_roundw
          case rel =>
            have he := HE.out
            have hlt : q < l := HLT.out
            obtain ⟨l', rfl⟩ : ∃ l', l = l' + 1 := ⟨l - 1, by omega⟩
            rw [Nat.add_mul, Nat.one_mul] at he
            exact ⟨l', left + v1, by simp, by simp, by omega, by omega, by omega, by omega, by have := C1.out; omega, by assumption⟩
          case measure => simp [intOf]; omega
        · have d1 : decide ((left : Int) < 1000000000) = true := by simp; omega
          have d2 : decide ((1000000000 : Int) ≤ (l : Int)) = false := by simp; omega
          have d3 : decide ((left : Int) * 1000000000 + u2 < (l : Int) * v2) = false := by
            rw [decide_eq_false_iff_not, ← Int.natCast_mul]; omega
          have C3 := hid c3
          have C2 := hid c2
          clear hmod hdiv hdq hv1p c3 c1 c2
          go_wp2_with fail
          go_quiet (fail)
          clear d1 d2 d3
          go_wp2
          go_ret
          exact ⟨l, left, rfl, (hwr2.step hwr).drewN _, HE.out, hql, by have := C2.out; omega, .inr ⟨by have := C2.out; omega, by have := C3.out; omega⟩⟩
    · have d1 : decide ((left : Int) < 1000000000) = false := by simp; omega
      have C1 := hid c1
      clear hmod hdiv hdq hv1p c1
      go_wp2_with fail
      go_quiet (fail)
      clear d1
      go_wp2
      go_ret
      have h1 := C1.out
      have h2 := HLL.out
      exact ⟨l, left, rfl, (hwr2.step hwr).drewN _, HE.out, hql, by omega, .inl (by omega)⟩
end Go.Proofs.YtdbaemadphhhcaaDoor
