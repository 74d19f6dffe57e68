/- the reference's Is of layer 3 -/
import Derived.Test.YtflgkijmbpcnfaaGreatDoorJG26
import Derived.Test.YtflgkijmbpcnfaaGreatDoorJG12
set_option linter.unusedSimpArgs false
set_option linter.unusedVariables false
namespace Go.Proofs.YtflgkijmbpcnfaaGreatDoor
open Go.RowKit
set_option maxRecDepth 100000 in
set_option maxHeartbeats 3200000 in
theorem is_any (v : Value) (m : Int) (us ad : List Int) (Wd : Option Addr) (wn wc : Nat) (ws : List Int) (w : World) (hv : MapV w v m us ad) (hw : Rd w Wd (Is ws)) (hl : ws.length = wn) (hwb : wn ≤ 140737488351232) {b : Bool} (hb : Hid (wordB m ws = b)) :
    Calls Tryz.prog 44 #[v, .slice Wd wn wc] w (fun e w' => e = .returned (.bool b) ∧ Ext w w') := by
  obtain ⟨A, n, cc, B, n2, d, rfl, -⟩ := hv
  have hx : Ext w (w.alloc (.cells #[.int .i64 m, .slice A n cc, .slice B n2 d] 24)) := (Ext.rfl' w).alloc' _
  have hrw : Row (w.alloc (.cells #[.int .i64 m, .slice A n cc, .slice B n2 d] 24)) w.heap.size 24 [.int .i64 m, .slice A n cc, .slice B n2 d] := Row.new w _ _
  obtain ⟨W1, hW1⟩ : ∃ W1, (w.alloc (.cells #[.int .i64 m, .slice A n cc, .slice B n2 d] 24)) = W1 := ⟨_, rfl⟩
  rw [hW1] at hx hrw
  have HX := hid hx
  have HR := hid hrw
  have HW1 := hid hW1
  have HWD := hid (hw.ext hx)
  have HL := hid hl
  have wn63 : wn ≤ 9223372036854775807 := by omega
  obtain ⟨f0, f1, f2, -, -, -⟩ := row_facts3 hrw
  clear hW1 hx hrw hw hl
  go_enter Tryz.func44, Tryz.ntmps44
  go_upto_region 1 with fail
  rw [HW1.out]
  clear f0 f1 f2
  go_wp2_with fail
  go_loopw [5] (fun iz wr => ∃ j : Nat, j ≤ wn ∧ iz = .int .i64 (j : Int) ∧ Hid (∀ i, i < j → 0 ≤ ws.getD i 0 ∧ ws.getD i 0 < m) ∧ Ext W1 wr) (fun iz _ => wn - (intOf iz).toNat)
  case atStart => exact ⟨0, by omega, rfl, hid (fun i hi => by omega), Ext.rfl' _⟩
  case round =>
    obtain ⟨j, hj, rfl, HALL, hex⟩ := hrel
    have HEX := hid hex
    have HEW := hid (HX.out.step hex)
    obtain ⟨f0, f1, f2, -, -, -⟩ := row_facts3 (HR.out.ext HEX.out)
    by_cases hlt : j < wn
    · obtain ⟨b3, o3, e3, -, hc3⟩ := (HWD.out.ext HEX.out).atI (k := j) (by rw [HL.out]; exact hlt)
      subst e3
      have hjn : (j : Int) < (wn : Int) := by omega
      obtain ⟨r, hr⟩ : ∃ r, ws.getD j 0 = r := ⟨_, rfl⟩
      rw [hr] at hc3
      have HRR := hid hr
      clear hr
      have HMEM : Hid (r ∈ ws) := hid (by rw [← HRR.out, List.getD_eq_getElem?_getD, List.getElem?_eq_getElem (by rw [HL.out]; exact hlt)]; exact List.getElem_mem _)
      by_cases hr0 : r < 0
      · obtain rfl : b = false := by rw [← hb.out]; exact Bool.eq_false_iff.2 (fun h => by have := (wordB_iff.1 h).2 r HMEM.out; omega)
        go_wp2_with fail
        go_quiet (fail)
        have HE2 := hid (HEW.out.drewN nq)
        go_wp2
        go_ret
        exact ⟨rfl, HE2.out⟩
      · by_cases hrm : m ≤ r
        · obtain rfl : b = false := by rw [← hb.out]; exact Bool.eq_false_iff.2 (fun h => by have := (wordB_iff.1 h).2 r HMEM.out; omega)
          go_wp2_with fail
          go_quiet (fail)
          have HE2 := hid (HEW.out.drewN nq)
          go_wp2
          go_ret
          exact ⟨rfl, HE2.out⟩
        · have HNX : Hid (∀ i, i < j + 1 → 0 ≤ ws.getD i 0 ∧ ws.getD i 0 < m) := hid (fun i hi => by
            rcases Nat.lt_or_ge i j with h | h
            · exact HALL.out i h
            · obtain rfl : i = j := by omega
              rw [HRR.out]; omega)
          go_wp2_with fail
          go_quiet (fail)
          have HE2 := hid (HEX.out.drewN nq)
          go_wp2
          go_roundw
          case rel => exact ⟨j + 1, by omega, by simp, HNX, HE2.out⟩
          case measure => first | (simp [intOf]; done) | (simp [intOf]; omega)
    · obtain rfl : j = wn := by omega
      by_cases hlen : j ≤ 200
      · have hlz : (j : Int) ≤ 200 := by omega
        obtain rfl : b = true := by
          rw [← hb.out]
          refine wordB_iff.2 ⟨by rw [HL.out]; exact hlen, fun r hr => ?_⟩
          obtain ⟨i, hi, rfl⟩ := List.getElem_of_mem hr
          have := HALL.out i (by rw [HL.out] at hi; exact hi)
          rwa [List.getD_eq_getElem?_getD, List.getElem?_eq_getElem hi] at this
        clear f0 f1 f2
        go_wp2
        go_ret
        exact ⟨rfl, HEW.out⟩
      · have hlz : ¬ (j : Int) ≤ 200 := by omega
        obtain rfl : b = false := by rw [← hb.out]; exact Bool.eq_false_iff.2 (fun h => by have := (wordB_iff.1 h).1; rw [HL.out] at this; omega)
        clear f0 f1 f2
        go_wp2
        go_ret
        exact ⟨rfl, HEW.out⟩
end Go.Proofs.YtflgkijmbpcnfaaGreatDoor
