/- the reference's Of, at a number that is not negative -/
import Derived.Test.YtdbaemadphhhcaaDoorRParse
namespace Go.Proofs.YtdbaemadphhhcaaDoor
open Go.RowKit
set_option maxRecDepth 100000 in
set_option maxHeartbeats 3200000 in
theorem of_nat (n : Nat) (w : World) (hn : n < 1000000000000000000) :
    Calls Tryd.prog 37 #[.int .i64 (n : Int)] w (RefPost (n : Int) w) := by
  obtain ⟨i0, hi, hz0, hz1, hz2⟩ := info_parts infoI
  go_enter Tryd.func37, Tryd.ntmps37
  go_wp2_with fail
  generalize hW0 : w.alloc (.cells #[.bool false, .slice none 0 0] 31) = W0
  have hE : Ext w W0 := by rw [← hW0]; exact (Ext.rfl' w).alloc' _
  have hR : Row W0 w.heap.size 31 [.bool false, .slice none 0 0] := by rw [← hW0]; exact Row.new w _ _
  clear hW0
  go_loopw [0, 4] (fun z v wr => ∃ (j q : Nat) (xs : List Nat) (A : Option Addr) (c : Nat), v = .slice A j c ∧ z = .int .i64 (q : Int) ∧ q ≤ n ∧ wr.ownsRow W0.heap.size 3 1 (.slice A j c) j (I64s xs) ∧ Ext W0 wr ∧ W0.heap.size ≤ wr.heap.size ∧
      Hid (xs.length = j ∧ K.lv xs + 1000000000 ^ j * q = n ∧ (∀ x ∈ xs, x < 1000000000) ∧ (0 < q ∨ xs.getLast? ≠ some 0) ∧ j ≤ 2)) (fun z _ _ => (intOf z).toNat)
  case atStart =>
    exact ⟨0, n, [], none, 0, rfl, rfl, Nat.le_refl _, World.ownsRow_nil _ _ _ _, Ext.rfl' _, Nat.le_refl _, hid ⟨rfl, by simp [K.lv], by simp, by simp, by omega⟩⟩
  case round =>
    obtain ⟨j, q, xs, A, c, rfl, rfl, hqn, hown, hex, hsz, hxs⟩ := hrel
    have HOWN := hid hown
    clear hown
    by_cases hq : 0 < q
    · have hj : j < 2 := by
        have h1 := hxs.out.2.1
        have h2 := hxs.out.2.2.2.2
        rcases Nat.lt_or_ge j 2 with h | h
        · exact h
        · obtain rfl : j = 2 := by omega
          simp at h1
          omega
      go_wp2_with (at_builtin; refine wpList_append_own _ rfl _ _ 29 rfl W0.heap.size 3 i0 (.int .i64 0) 1 8 Tryd.underlying29 hi hz0 hz1 hz2 rfl (by decide) _ _ _ rfl (HOWN.out.alloc _) ⟨wr.heap.size, 0, none⟩ 1 1 [.int .i64 ((q : Int) % 1000000000)] rfl rfl (cell_one_new _ _ _) (fun u hu => by simp at hu; subst hu; rfl) ?c1 ?c2 ?c3 ?_)
      case c1 => unfold maxLen; omega
      case c2 => omega
      case c3 => first | omega | (simp; omega)
      intro v' w1 hown' hgrow hnil
      obtain ⟨g, cap, sp, rfl, hg, hc1, hc2, hrow1, hvl, hsl⟩ := own_form hown' (by omega)
      have hex' : Ext W0 w1 := (hex.alloc' _).grown hgrow (by simp; omega) (by
        intro k hk
        exact (HOWN.out.lt k hk).1)
      have hsz' : W0.heap.size ≤ w1.heap.size := hex'.size
      have HO := hid hown'
      clear hown' hgrow hnil hrow1 hvl hsl hg hc1 hc2
      go_wp2
      go_roundw
      case rel =>
        have hx := hxs.out
        refine ⟨j + 1, q / 1000000000, xs ++ [q % 1000000000], _, _, rfl, by simp, by omega, by simpa using HO.out, hex', hsz', hid ⟨by simp [hx.1], ?_, ?_, ?_, by omega⟩⟩
        · rw [lv_snoc, hx.1, ← hx.2.1, Nat.pow_succ, Nat.mul_assoc, Nat.add_assoc, ← Nat.mul_add]
          congr 2
          omega
        · intro y hy
          rcases List.mem_append.1 hy with h | h
          · exact hx.2.2.1 y h
          · obtain rfl : y = q % 1000000000 := by simpa using h
            omega
        · by_cases h0 : 0 < q / 1000000000
          · exact .inl h0
          · refine .inr ?_
            rw [List.getLast?_append]
            simp
            omega
      case measure => simp [intOf]; omega
    · have hjc : j ≤ c := by
        rcases HOWN.out.2 with ⟨h, h0⟩ | ⟨g, cap, cur, h, hg, hh, hc, _⟩
        · injection h with h1 h2 h3; omega
        · injection h with h1 h2 h3; omega
      have hx := hxs.out
      have hrd := Rd.of_own HOWN.out
      have hr := hR.ext hex
      have c0 : wr.cell? ⟨w.heap.size, 0, none⟩ = some (.bool false) := hr.cell 0
      have c1 : wr.cell? ⟨w.heap.size, 1, none⟩ = some (.slice none 0 0) := hr.cell 1
      have f0 := hr.free 0
      have f1 := hr.free 1
      obtain rfl : q = 0 := by omega
      have hfin : RefPost (n : Int) w (.returned (.agg #[.bool false, .slice A j c])) ((wr.setCell ⟨w.heap.size, 0, none⟩ (.bool false)).setCell ⟨w.heap.size, 1, none⟩ (.slice A j c)) := by
        refine ⟨_, rfl, ⟨A, j, c, xs, false, rfl, ?_, hx.1, hjc, ?_, ⟨hx.2.2.1, hx.2.2.2.1.resolve_left (by omega)⟩, ?_⟩, ((hE.step hex).set' (Nat.le_refl _) _).set' (Nat.le_refl _) _⟩
        · refine hid ?_
          symm
          exact decide_eq_false (by omega)
        · refine Rd.two hrd ?_ hr
          intro u hu
          obtain ⟨y, _, rfl⟩ := List.mem_map.1 hu
          exact ⟨_, _, rfl⟩
        · rw [Int.natAbs_natCast, ← hx.2.1]; simp
      have HF := hid hfin
      clear hfin hx hrd hr hjc
      go_wp2
      refine bodyPost_ret (v := .agg #[.bool false, .slice A j c]) (by simp [results, Tryd.results37, go_sem, c0, c1]) rfl HF.out
end Go.Proofs.YtdbaemadphhhcaaDoor
