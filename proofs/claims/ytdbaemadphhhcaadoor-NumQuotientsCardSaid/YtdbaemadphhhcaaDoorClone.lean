/- slices.Clone of a natural -/
import Derived.Test.YtdbaemadphhhcaaDoorMake
import Derived.Test.YtdbaemadphhhcaaDoorTrim
namespace Go.Proofs.YtdbaemadphhhcaaDoor
open Go.RowKit
def ClonePost (n : Nat) (xs : List Nat) (w : World) (e : Ending) (w' : World) : Prop :=
  ∃ A c, n ≤ c ∧ e = .returned (.slice A n c) ∧ Ext w w' ∧ (n = 0 ∨ ∃ g spare, A = some ⟨g, 0, none⟩ ∧ w.heap.size ≤ g ∧ Row w' g 76 (U64s xs ++ spare))
theorem ClonePost.of_own {n : Nat} {xs : List Nat} {w w' : World} {v : Value} (h : w'.ownsRow w.heap.size 76 1 v n (U64s xs)) (e : Ext w w') : ClonePost n xs w (.returned v) w' := by
  rcases h.2 with ⟨rfl, rfl⟩ | ⟨g, cap, cur, rfl, hg, hh, hc, _, hs, ht⟩
  · exact ⟨none, 0, Nat.le_refl _, rfl, e, .inl rfl⟩
  · refine ⟨_, cap, hc, rfl, e, .inr ⟨g, cur.toList.drop (n * 1), rfl, hg, ?_⟩⟩
    unfold Row
    rw [hh, ← ht, List.take_append_drop]
set_option maxHeartbeats 400000 in
theorem clone_any (A : Option Addr) (n c : Nat) (xs : List Nat) (w : World) (ha : Rd w A (U64s xs)) (ln : xs.length = n) (hn : n ≤ 1000000) :
    Calls Tryd.prog 78 #[.slice A n c] w (ClonePost n xs w) := by
  have LN := hid ln
  clear ln
  obtain ⟨i0, hi, hz0, hz1, hz2⟩ := info_parts infoU
  have q22 : ∀ (w : World) (a : Option Addr) (n c n' c' : Nat), (binOp .eql 57 (.slice a n c) (.slice none n' c')).run Tryd.prog w = .ok (.bool a.isNone) w := fun w a n c n' c' => Lib.run_eql_slice_nil w _ _ a n c n' c' Tryd.underlying57
  rcases A with _ | a
  · have h0 : n = 0 := by
      rcases ha with h | ⟨_, _, h, _⟩
      · rw [← LN.out]; simpa using h
      · cases h
    subst h0
    go_enter Tryd.func78, Tryd.ntmps78
    go_wp2
    go_ret
    exact ⟨none, 0, Nat.le_refl _, rfl, Ext.rfl' _, .inl rfl⟩
  · have hcell : Hid (∀ j u, (U64s xs)[j]? = some u → w.cell? (a.add j) = some u) := by
      rcases ha with h | ⟨b, o, h, _, hc⟩
      · intro j u hu; rw [h] at hu; simp at hu
      · injection h with h
        subst h
        intro j u hu
        rw [Addr.add_lit]
        exact hc j u hu
    clear ha
    go_enter Tryd.func78, Tryd.ntmps78
    go_wp2_with (at_builtin; refine wpList_append_own _ rfl _ _ 57 rfl w.heap.size 76 i0 (.int .u64 0) 1 8 Tryd.underlying57 hi hz0 hz1 hz2 rfl (by decide) _ _ _ rfl (World.ownsRow_made w #[] 0 (Nat.le_refl _) (Nat.zero_le _) rfl) a n c (U64s xs) rfl ?qc1 ?qc2 ?qc3 ?qc4 ?qc5 ?qc6 ?_)
    case qc1 => simp [LN.out]
    case qc2 =>
      intro j u hj
      exact Lib.cell?_alloc_some _ (hcell.out j u hj)
    case qc3 => intro u hu; obtain ⟨x, _, rfl⟩ := List.mem_map.1 hu; rfl
    case qc4 => unfold maxLen; omega
    case qc5 => omega
    case qc6 => simp
    intro v' w1 hown hgrow hnil
    go_wp2
    go_ret
    have hown' : w1.ownsRow w.heap.size 76 1 v' n (U64s xs) := by simpa using hown
    exact ClonePost.of_own hown' (((Below.refl _ w).alloc (Nat.le_refl _) _).grown hgrow (by simp) (by intro k hk; simp [Value.ownBlock] at hk; omega))
end Go.Proofs.YtdbaemadphhhcaaDoor
