/- (number).gcd -/
import Derived.Test.YtdbaemadphhhcaaDoorReadB
import Derived.Deep.LoopGhost
namespace Go.Proofs.YtdbaemadphhhcaaDoor
open Go.RowKit Go.Deep
theorem gcd_step (x y : Nat) (h : 0 < y) : Nat.gcd y (x % y) = Nat.gcd x y := by
  rw [Nat.gcd_comm x y, Nat.gcd_rec y x, Nat.gcd_comm]
set_option maxRecDepth 100000 in
set_option maxHeartbeats 1600000 in
theorem ngcd_any (va vb : Value) (m n : Int) (w : World) (ha : NumV w va m) (hb : NumV w vb n) (la : m.natAbs ≤ BIG) (lb : n.natAbs ≤ BIG) :
    Calls Tryd.prog 56 #[va, vb] w (NumPost (Nat.gcd m.natAbs n.natAbs : Int) w) := by
  obtain ⟨sa, ba, rfl, hba, hza⟩ := ha
  obtain ⟨sb, bb, rfl, hbb, hzb⟩ := hb
  obtain ⟨A, ka, ca, rfl⟩ := hza.slice
  obtain ⟨B, kb, cb, rfl⟩ := hzb.slice
  have hE2 : Ext w ((w.alloc (.cells #[.bool ba, .slice A ka ca] 59)).alloc (.cells #[.bool bb, .slice B kb cb] 59)) := ((Ext.rfl' w).alloc' _).alloc' _
  have hE : Ext w (((w.alloc (.cells #[.bool ba, .slice A ka ca] 59)).alloc (.cells #[.bool bb, .slice B kb cb] 59)).alloc (.cells #[.bool false, .slice none 0 0] 59)) := hE2.alloc' _
  have HE := hid hE
  have HE2 := hid hE2
  clear hba hbb hE hE2
  go_enter Tryd.func56, Tryd.ntmps56
  go_wp2_with fail
  go_region_held3 (fun w' => w'.cell? ⟨w.heap.size, 1, none⟩ = some (.slice A ka ca) ∧ w'.cell? ⟨w.heap.size + 1, 1, none⟩ = some (.slice B kb cb)) (go_keep) (fail)
  go_wp2_with fail
  go_loopg [5, 6] n.natAbs (fun g s5 s6 wr => ∃ (x y : Nat), NatV wr s5 x ∧ NatV wr s6 y ∧ x ≤ BIG ∧ y ≤ BIG ∧ y = g ∧ Hid (Nat.gcd x y = Nat.gcd m.natAbs n.natAbs) ∧ Ext (((w.alloc (.cells #[.bool ba, .slice A ka ca] 59)).alloc (.cells #[.bool bb, .slice B kb cb] 59)).alloc (.cells #[.bool false, .slice none 0 0] 59)) wr)
  case atStart => exact ⟨m.natAbs, n.natAbs, hza.ext HE.out.drew', hzb.ext HE.out.drew', la, lb, rfl, hid rfl, (Ext.rfl' _).drew'⟩
  case round =>
    obtain ⟨x, y, hx, hy, lx, ly, rfl, hg, hext⟩ := hrel
    obtain ⟨A1, k1, c1, rfl⟩ := hx.slice
    obtain ⟨A2, k2, c2, rfl⟩ := hy.slice
    by_cases hk : 0 < k2
    · have hy0 : 0 < y := (hy.len_zero).1 hk
      go_wp2_with fail
      refine (div_any _ _ x y wr hx hy lx ly hy0).mono ?_
      rintro e w2 ⟨v1, v2, rfl, hz1, hz2, hx2⟩
      have hlt := Nat.mod_lt x hy0
      have HLT := hid hlt
      obtain ⟨A3, k3, c3, rfl⟩ := hz2.slice
      clear hlt hk
      go_wp2
      go_roundg (x % y)
      case measure => exact HLT.out
      case rel => exact ⟨y, x % y, hy.ext hx2, hz2, ly, by have := HLT.out; omega, rfl, hid (by rw [← hg.out]; exact gcd_step x y hy0), hext.step hx2⟩
    · obtain rfl : y = 0 := by
        have := hy.len_zero
        omega
      have hfin := hg.out
      rw [Nat.gcd_zero_right] at hfin
      obtain ⟨g0, g1, g2, g3, -, -⟩ := two_facts (H := w.heap.size + 1 + 1) hext (by simp)
      have hst := NumPost.stored (n := (Nat.gcd m.natAbs n.natAbs : Int)) hext HE2.out (H := w.heap.size + 1 + 1) (by simp) (by rw [abs_cast, ← hfin]; exact hx) false (dec_cast _)
      have HF := hid hst
      clear hfin hst hext hg hx hy
      go_wp2
      refine bodyPost_ret (v := .agg #[.bool false, .slice A1 k1 c1]) (by simp [results, Tryd.results56, go_sem, g0, g1]) rfl HF.out
end Go.Proofs.YtdbaemadphhhcaaDoor
