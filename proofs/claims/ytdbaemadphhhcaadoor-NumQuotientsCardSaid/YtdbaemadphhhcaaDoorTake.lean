/- num.takeAway, num.putBack -/
import Derived.Test.YtdbaemadphhhcaaDoorTimes
import Derived.Test.YtdbaemadphhhcaaDoorLong
namespace Go.Proofs.YtdbaemadphhhcaaDoor
open Go.RowKit
theorem only_refl (w : World) (g : Nat) : w.grownBy w (some g) := World.grownBy.refl w _
theorem only_set {a b : World} {g : Nat} (h : a.grownBy b (some g)) (i : Nat) (u : Value) : a.grownBy (b.setCell ⟨g, i, none⟩ u) (some g) :=
  ⟨h.os, h.tape, h.output, by simpa [World.setCell] using h.size, fun k hk hne => (Below.heap_setCell b _ u k (fun e => hne (by rw [e]))).trans (h.block k hk hne)⟩
theorem only_step {a b c : World} {g : Nat} (h : a.grownBy b (some g)) (k : b.grownBy c (some g)) : a.grownBy c (some g) :=
  ⟨k.os.trans h.os, k.tape.trans h.tape, k.output.trans h.output, Nat.le_trans h.size k.size, fun i hi hne => (k.block i (Nat.lt_of_lt_of_le hi h.size) hne).trans (h.block i hi hne)⟩
theorem only_drew {a b : World} {g : Nat} (h : Drew a b) : a.grownBy b (some g) := by
  obtain ⟨n, rfl⟩ := h
  exact ⟨rfl, rfl, rfl, Nat.le_refl _, fun _ _ _ => rfl⟩
theorem only_ext {a b : World} {g : Nat} (h : Ext a b) : a.grownBy b (some g) := ⟨h.os, h.tape, h.output, h.size, fun k hk _ => h.block k hk⟩
theorem Ext.only {a b c : World} {g : Nat} (h : Ext a b) (k : b.grownBy c (some g)) (hg : a.heap.size ≤ g) : Ext a c :=
  ⟨k.os.trans h.os, k.tape.trans h.tape, k.output.trans h.output, Nat.le_trans h.size k.size, fun i hi => (k.block i (Nat.lt_of_lt_of_le hi h.size) (fun e => by injection e with e; omega)).trans (h.block i hi)⟩
theorem Row.only {w w' : World} {g g' : Nat} {t : TypeId} {vs : List Value} (h : Row w g' t vs) (e : w.grownBy w' (some g)) (hne : g' ≠ g) : Row w' g' t vs :=
  (e.block g' h.lt (fun x => hne (by injection x))).trans h
theorem mid_put2 {w : World} {g : Nat} {t : TypeId} {a b rest : List Nat} {x k j : Nat} (h : Row w g t (U64s (a ++ b ++ x :: rest))) (ha : a.length = k) (hb : b.length = j) (u : Value) (v : Nat) :
    Row ((w.setCell ⟨g, k + j, none⟩ u).setCell ⟨g, k + j, none⟩ (.int .u64 (v : Int))) g t (U64s (a ++ (b ++ [v]) ++ rest)) := by
  have h1 := Row.step2 (done := a ++ b) (rest := rest) (sp := []) (x := x) (k := k + j) (by simpa using h) (by simp [ha, hb]) u v
  simpa using h1
def TakePost (g : Nat) (lo ws hi ys : List Nat) (u0 l : Nat) (w : World) (e : Ending) (w' : World) : Prop :=
  e = .returned (.bool (decide (u0 < tkc ws ys l 0))) ∧ Row w' g 76 (U64s (lo ++ tkl ws ys l 0 ++ 0 :: hi)) ∧ w.grownBy w' (some g)

set_option maxHeartbeats 1600000 in
theorem take_l (g o gv n cw cv u0 l : Nat) (lo ws hi ys : List Nat) (w : World) (hrow0 : Row w g 76 (U64s (lo ++ ws ++ u0 :: hi))) (hv : Row w gv 76 (U64s ys)) (hne : gv ≠ g)
    (hlo : lo.length = o) (hws : ws.length = n) (hys : ys.length = n) (hn : n ≤ 1000) (ho : o ≤ 1001) (hl : l ≤ 1000000000) (bw : ∀ x ∈ ws, x < 1000000000) (by_ : ∀ y ∈ ys, y < 1000000000) :
    Calls Tryd.prog 89 #[.slice (some ⟨g, o, none⟩) (n + 1) cw, .slice (some ⟨gv, 0, none⟩) n cv, .int .u64 (l : Int)] w (TakePost g lo ws hi ys u0 l w) := by
  have HLO := hid hlo
  have HWS := hid hws
  have HYS := hid hys
  have BW := hid bw
  have BY := hid by_
  clear hlo hws hys bw by_
  go_enter Tryd.func89, Tryd.ntmps89
  go_wp2
  go_loopw [8, 17] (fun cy i wr => ∃ (k c : Nat) (d : List Nat), k ≤ n ∧ c ≤ 1000000001 ∧ i = .int .i64 k ∧ cy = .int .u64 c ∧ Row wr g 76 (U64s (lo ++ d ++ (ws.drop k ++ u0 :: hi))) ∧ d.length = k ∧
      d ++ tkl (ws.drop k) (ys.drop k) l c = tkl ws ys l 0 ∧ tkc (ws.drop k) (ys.drop k) l c = tkc ws ys l 0 ∧ w.grownBy wr (some g)) (fun _ i _ => n - (intOf i).toNat)
  case atStart => exact ⟨0, 0, [], by omega, by omega, rfl, rfl, by simpa using hrow0, rfl, rfl, rfl, only_refl w g⟩
  case round =>
    obtain ⟨k, c, d, hk, hc, rfl, rfl, hrow, hd, hinv, hinv2, hon⟩ := hrel
    have HD := hid hd
    have HI := hid hinv
    have HJ := hid hinv2
    clear hd hinv hinv2 hrow0
    by_cases hlt : k < n
    · obtain ⟨ww, ew⟩ : ∃ x, ws[k]? = some x := ⟨_, List.getElem?_eq_getElem (by rw [HWS.out]; omega)⟩
      obtain ⟨y, ey⟩ : ∃ x, ys[k]? = some x := ⟨_, List.getElem?_eq_getElem (by rw [HYS.out]; omega)⟩
      have hwB := BW.out ww (mem_at ew)
      have hyB := BY.out y (mem_at ey)
      have HW := hid ew
      have HY := hid ey
      rw [drop_at ew, List.cons_append] at hrow
      have hcell : wr.cell? ⟨g, o + k, none⟩ = some (.int .u64 ww) := by rw [hrow.cell]; exact mid_at HLO.out HD.out
      have hfree := hrow.free (o + k)
      have hyc : wr.cell? ⟨gv, k, none⟩ = some (.int .u64 y) := by
        have h := hv.only hon hne
        rw [h.cell]; exact U64s_at HY.out
      have hyl : y * l ≤ 999999999000000000 := Nat.le_trans (Nat.mul_le_mul (show y ≤ 999999999 by omega) hl) (by omega)
      have hyl' : (y : Int) * (l : Int) ≤ 999999999000000000 := by rw [← Int.natCast_mul]; omega
      have hyl0 : 0 ≤ (y : Int) * (l : Int) := by rw [← Int.natCast_mul]; omega
      have HYL := hid hyl
      clear ew ey hyl
      by_cases hcmp : (ww : Int) < ((c : Int) + (y : Int) * (l : Int)) % 1000000000
      · have hcn : ww < (c + y * l) % 1000000000 := by
          have e1 : (((c + y * l) % 1000000000 : Nat) : Int) = ((c : Int) + (y : Int) * (l : Int)) % 1000000000 := by simp
          omega
        go_wp2
        go_roundw
        case rel =>
          refine ⟨k + 1, ((c + y * l) / 1000000000 + 1), d ++ [(ww + 1000000000 - (c + y * l) % 1000000000)], by omega, ?_, rfl, by simp, ?_, by simp [HD.out], ?_, ?_, only_set (only_set hon _ _) _ _⟩
          · have := HYL.out
            omega
          · have h1 := mid_put2 hrow HLO.out HD.out (.int .u64 ((ww : Int) + 1000000000)) (ww + 1000000000 - (c + y * l) % 1000000000)
            rw [show (((ww + 1000000000 - (c + y * l) % 1000000000) : Nat) : Int) = (ww : Int) + 1000000000 - (((c : Int) + (y : Int) * (l : Int)) % 1000000000) by
              have e1 : (((c + y * l) % 1000000000 : Nat) : Int) = ((c : Int) + (y : Int) * (l : Int)) % 1000000000 := by simp
              rw [← e1]; omega] at h1
            simpa using h1
          · rw [← HI.out, drop_at HW.out, drop_at HY.out, tkl_yes (by omega)]
            simp
          · rw [← HJ.out, drop_at HW.out, drop_at HY.out, tkc_yes (by omega)]
        case measure => simp [intOf]; omega
      · have hcn : ¬ ww < (c + y * l) % 1000000000 := by
          have e1 : (((c + y * l) % 1000000000 : Nat) : Int) = ((c : Int) + (y : Int) * (l : Int)) % 1000000000 := by simp
          omega
        go_wp2
        go_roundw
        case rel =>
          refine ⟨k + 1, ((c + y * l) / 1000000000), d ++ [(ww - (c + y * l) % 1000000000)], by omega, ?_, rfl, by simp, ?_, by simp [HD.out], ?_, ?_, only_set hon _ _⟩
          · have := HYL.out
            omega
          · have h1 := mid_put hrow HLO.out HD.out (ww - (c + y * l) % 1000000000)
            rw [show (((ww - (c + y * l) % 1000000000) : Nat) : Int) = (ww : Int) - (((c : Int) + (y : Int) * (l : Int)) % 1000000000) by
              have e1 : (((c + y * l) % 1000000000 : Nat) : Int) = ((c : Int) + (y : Int) * (l : Int)) % 1000000000 := by simp
              rw [← e1]; omega] at h1
            simpa using h1
          · rw [← HI.out, drop_at HW.out, drop_at HY.out, tkl_no (by omega)]
            simp
          · rw [← HJ.out, drop_at HW.out, drop_at HY.out, tkc_no (by omega)]
        case measure => simp [intOf]; omega
    · obtain rfl : k = n := by omega
      have hw0 : ws.drop k = [] := List.drop_of_length_le (by rw [HWS.out]; omega)
      have hy0 : ys.drop k = [] := List.drop_of_length_le (by rw [HYS.out]; omega)
      have hdone : d = tkl ws ys l 0 := by rw [← HI.out, hw0, hy0]; simp [tkl]
      have hcar : c = tkc ws ys l 0 := by rw [← HJ.out, hw0, hy0]; simp [tkc]
      rw [hw0, List.nil_append] at hrow
      have hcell : wr.cell? ⟨g, o + k, none⟩ = some (.int .u64 u0) := by rw [hrow.cell]; exact mid_at HLO.out HD.out
      have hfree := hrow.free (o + k)
      have hnext := mid_put hrow HLO.out HD.out 0
      have HDO := hid hdone
      have HCA := hid hcar
      clear hw0 hy0 hdone hcar HI HJ hv
      by_cases hcmp : u0 < c
      · go_wp2
        go_ret
        exact ⟨by rw [← HCA.out, decide_eq_true hcmp]; rfl, by rw [← HDO.out]; simpa using hnext, only_set hon _ _⟩
      · go_wp2
        go_ret
        exact ⟨by rw [← HCA.out, decide_eq_false hcmp]; rfl, by rw [← HDO.out]; simpa using hnext, only_set hon _ _⟩

def PutPost (g : Nat) (lo ws hi ys : List Nat) (w : World) (e : Ending) (w' : World) : Prop :=
  e = .returned (.tuple #[]) ∧ Row w' g 76 (U64s (lo ++ pbl ws ys 0 ++ hi)) ∧ w.grownBy w' (some g)
set_option maxHeartbeats 1600000 in
theorem put_l (g o gv n nw cw cv : Nat) (lo ws hi ys : List Nat) (w : World) (hrow0 : Row w g 76 (U64s (lo ++ ws ++ hi))) (hv : Row w gv 76 (U64s ys)) (hne : gv ≠ g)
    (hlo : lo.length = o) (hws : ws.length = n) (hys : ys.length = n) (hnw : n ≤ nw) (hn : nw ≤ 1001) (ho : o ≤ 1001) (bw : ∀ x ∈ ws, x < 1000000000) (by_ : ∀ y ∈ ys, y < 1000000000) :
    Calls Tryd.prog 90 #[.slice (some ⟨g, o, none⟩) nw cw, .slice (some ⟨gv, 0, none⟩) n cv] w (PutPost g lo ws hi ys w) := by
  have HLO := hid hlo
  have HWS := hid hws
  have HYS := hid hys
  have BW := hid bw
  have BY := hid by_
  clear hlo hws hys bw by_
  go_enter Tryd.func90, Tryd.ntmps90
  go_wp2
  go_loopw [4, 9] (fun cy i wr => ∃ (k c : Nat) (d : List Nat), k ≤ n ∧ c ≤ 1 ∧ i = .int .i64 k ∧ cy = .int .u64 c ∧ Row wr g 76 (U64s (lo ++ d ++ (ws.drop k ++ hi))) ∧ d.length = k ∧
      d ++ pbl (ws.drop k) (ys.drop k) c = pbl ws ys 0 ∧ w.grownBy wr (some g)) (fun _ i _ => n - (intOf i).toNat)
  case atStart => exact ⟨0, 0, [], by omega, by omega, rfl, rfl, by simpa using hrow0, rfl, rfl, only_refl w g⟩
  case round =>
    obtain ⟨k, c, d, hk, hc, rfl, rfl, hrow, hd, hinv, hon⟩ := hrel
    have HD := hid hd
    have HI := hid hinv
    clear hd hinv hrow0
    by_cases hlt : k < n
    · obtain ⟨ww, ew⟩ : ∃ x, ws[k]? = some x := ⟨_, List.getElem?_eq_getElem (by rw [HWS.out]; omega)⟩
      obtain ⟨y, ey⟩ : ∃ x, ys[k]? = some x := ⟨_, List.getElem?_eq_getElem (by rw [HYS.out]; omega)⟩
      have hwB := BW.out ww (mem_at ew)
      have hyB := BY.out y (mem_at ey)
      have HW := hid ew
      have HY := hid ey
      rw [drop_at ew, List.cons_append] at hrow
      have hcell : wr.cell? ⟨g, o + k, none⟩ = some (.int .u64 ww) := by rw [hrow.cell]; exact mid_at HLO.out HD.out
      have hfree := hrow.free (o + k)
      have hyc : wr.cell? ⟨gv, k, none⟩ = some (.int .u64 y) := by
        have h := hv.only hon hne
        rw [h.cell]; exact U64s_at HY.out
      clear ew ey
      go_wp2
      go_roundw
      case rel =>
        refine ⟨k + 1, (c + (ww + y)) / 1000000000, d ++ [(c + (ww + y)) % 1000000000], by omega, by omega, rfl, rfl, ?_, by simp [HD.out], ?_, only_set hon _ _⟩
        · have h1 := mid_put hrow HLO.out HD.out ((c + (ww + y)) % 1000000000)
          simpa using h1
        · rw [← HI.out, drop_at HW.out, drop_at HY.out, pbl]
          simp
      case measure => simp [intOf]; omega
    · obtain rfl : k = n := by omega
      have hw0 : ws.drop k = [] := List.drop_of_length_le (by rw [HWS.out]; omega)
      have hy0 : ys.drop k = [] := List.drop_of_length_le (by rw [HYS.out]; omega)
      have hdone : d = pbl ws ys 0 := by rw [← HI.out, hw0, hy0]; simp [pbl]
      rw [hw0, List.nil_append, hdone] at hrow
      clear hw0 hy0 hdone HI hv
      go_wp2
      go_end0
      exact ⟨rfl, hrow, hon⟩
end Go.Proofs.YtdbaemadphhhcaaDoor
