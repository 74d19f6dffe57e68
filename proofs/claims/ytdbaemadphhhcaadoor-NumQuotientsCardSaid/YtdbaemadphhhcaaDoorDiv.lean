/- (natural).divide -/
import Derived.Test.YtdbaemadphhhcaaDoorCmp
import Derived.Test.YtdbaemadphhhcaaDoorDivL
namespace Go.Proofs.YtdbaemadphhhcaaDoor
open Go.RowKit
theorem NatV.zero (w : World) : NatV w (.slice none 0 0) 0 := ⟨none, 0, 0, [], rfl, rfl, Nat.le_refl _, Rd.nil _ _, K.Lim.nil, rfl⟩
set_option maxRecDepth 100000 in
set_option maxHeartbeats 1600000 in
theorem div_any (va vb : Value) (a b : Nat) (w : World) (ha : NatV w va a) (hb : NatV w vb b) (la : a ≤ BIG) (lb : b ≤ BIG) (h0 : 0 < b) :
    Calls Tryd.prog 70 #[va, vb] w (DivLPost (a / b) (a % b) w) := by
  by_cases hab : a < b
  · go_enter Tryd.func70, Tryd.ntmps70
    go_wp2_with fail
    refine (natCmp_any va vb a b w ha hb la lb).mono ?_
    rintro e w1 ⟨rfl, hw1⟩
    rw [show sgn a b = -1 by unfold sgn; rw [if_pos hab]]
    have hq : a / b = 0 := Nat.div_eq_of_lt hab
    have hr : a % b = a := Nat.mod_eq_of_lt hab
    have HQ := hid hq
    have HR := hid hr
    clear hq hr
    go_wp2
    go_ret2
    exact ⟨_, _, rfl, by rw [HQ.out]; exact NatV.zero _, by rw [HR.out]; exact ha.ext hw1.ext, hw1.ext⟩
  · obtain ⟨A, n, ca, xs, hva, h2, h3, h4, h5, h6⟩ := ha
    obtain ⟨B, m, cb, ys, hvb, k2, k3, k4, k5, k6⟩ := hb
    have hn := len_of_big h5 (by omega)
    have hm := len_of_big k5 (by omega)
    have hn' : n ≤ 1000 := by omega
    have hmn : m ≤ n := by
      have := len_of_lt k5 xs.length (by have := K.lv_lt xs h5.1; omega)
      omega
    have hm0 : m ≠ 0 := by
      intro e; subst e
      have : ys = [] := List.eq_nil_of_length_eq_zero k2
      subst this
      simp [K.lv] at k6; omega
    have hcmp := natCmp_any va vb a b w ⟨A, n, ca, xs, hva, h2, h3, h4, h5, h6⟩ ⟨B, m, cb, ys, hvb, k2, k3, k4, k5, k6⟩ la lb
    have hsg : 0 ≤ sgn a b := by unfold sgn; rw [if_neg hab]; split <;> omega
    have HC := hid hcmp
    clear hcmp
    subst hva hvb
    by_cases hm1 : m = 1
    · subst hm1
      obtain ⟨b1, o1, x, eB, ey, hb1, hy⟩ := k4.at_ (k := 0) (by omega)
      subst eB
      have hx : ys = [x] := by
        match ys, k2, ey with
        | [y], _, ey => simp at ey; rw [ey]
      have hbx : b = x := by rw [← k6, hx]; simp [K.lv]
      have hxB := k5.1 x (mem_at ey)
      subst hbx
      have hvA : NatV w (.slice A n ca) a := ⟨A, n, ca, xs, rfl, h2, h3, h4, h5, h6⟩
      clear h2 h6 k2 k6 ey hx k4 k5 k3 hn hm h4 h5 h3 hmn hm0 hn'
      have hU : U64s [a % b] = [.int .u64 ((a : Int) % (b : Int))] := by simp [U64s]
      have HU := hid hU
      have HXB := hid hxB
      clear hU hxB
      go_enter Tryd.func70, Tryd.ntmps70
      go_wp2_with fail
      refine HC.out.mono ?_
      rintro e w1 ⟨rfl, hw1⟩
      have hy1 : w1.cell? ⟨b1, o1 + 0, none⟩ = some (.int .u64 (b : Int)) := by obtain ⟨_, rfl⟩ := hw1; exact hy
      have hy2 : w1.cell? ⟨b1, o1, none⟩ = some (.int .u64 (b : Int)) := hy1
      clear hy1 hy
      go_wp2_with fail
      refine (divS_any _ a b w1 (hvA.ext hw1.ext) la h0 (by have := HXB.out; omega)).mono ?_
      rintro e w2 ⟨v2, rfl, hv2, hx2⟩
      have hmod : a % b < 1000000000 := Nat.lt_trans (Nat.mod_lt _ h0) HXB.out
      have HML := hid hmod
      clear hmod hab la lb
      go_wp2_with fail
      have hrow : Row (w2.alloc (.cells #[.int .u64 ((a : Int) % (b : Int))] 76)) w2.heap.size 76 (U64s [a % b]) := by rw [HU.out]; exact Row.new w2 _ _
      refine (trimmed (some ⟨w2.heap.size, 0, none⟩) 1 1 [a % b] _ (Row.rd0 hrow) rfl (by omega) (by omega)).mono ?_
      rintro e w3 ⟨k, hk, rfl, hcut, hw3⟩
      have hE : Ext w w3 := ((hw1.ext.step hx2).alloc' _).step hw3.ext
      have hv3 : NatV w3 v2 (a / b) := hv2.ext (((Ext.rfl' w2).alloc' _).step hw3.ext)
      have hlim := hcut.lim (by intro z hz; rw [List.mem_singleton.1 hz]; exact HML.out)
      have hlv := hcut.lv
      have hk1 : k ≤ 1 := hk
      have HLV := hid hlv
      have HCU := hid hcut
      clear hlv hcut hk
      go_wp2
      go_ret2
      refine ⟨v2, _, rfl, hv3, ⟨_, k, 1, [a % b].take k, rfl, by rw [List.length_take, List.length_singleton]; omega, hk1, ?_, hlim, by rw [HLV.out]; simp [K.lv]⟩, hE⟩
      have h0 := (Row.rd0 hrow).take k
      rw [show (U64s [a % b]).take k = U64s ([a % b].take k) from (List.map_take ..).symm] at h0
      exact h0.ext hw3.ext
    · obtain ⟨m', rfl⟩ : ∃ m', m = m' + 2 := ⟨m - 2, by omega⟩
      obtain ⟨t, ht⟩ : ∃ t, ys[m' + 1]? = some t := ⟨_, List.getElem?_eq_getElem (by omega)⟩
      have ht0 : 0 < t := by
        have h := k5.2
        rw [List.getLast?_eq_getElem?, k2, show m' + 2 - 1 = m' + 1 by omega, ht] at h
        rcases Nat.eq_zero_or_pos t with e | e
        · subst e; exact absurd rfl h
        · exact e
      have HA := hid h2
      have HV := hid h6
      have HB := hid k2
      have HW := hid k6
      have HT := hid ht
      clear h2 h6 k2 k6 ht
      go_enter Tryd.func70, Tryd.ntmps70
      go_wp2_with fail
      refine HC.out.mono ?_
      rintro e w1 ⟨rfl, hw1⟩
      go_wp2_with fail
      refine (divL_l A B ca cb n m' t xs ys w1 (h4.drew hw1) (k4.drew hw1) HA.out HB.out (by omega) hmn h5.1 k5.1 HT.out ht0).mono ?_
      rintro e w2 ⟨v1, v2, rfl, hv1, hv2, hx2⟩
      rw [HV.out, HW.out] at *
      go_wp2
      go_ret2
      exact ⟨v1, v2, rfl, hv1, hv2, hw1.ext.step hx2⟩
end Go.Proofs.YtdbaemadphhhcaaDoor
