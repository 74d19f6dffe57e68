/- katabasisref01.Valid -/
import Derived.Test.YtdbaemadphhhcaaDoorValid
namespace Go.Proofs.YtdbaemadphhhcaaDoor
open Go.RowKit
theorem Str_list (l : List UInt8) : (Str l).toList = l := Str_toList l
theorem ne_lit {c d : UInt8} (h : ¬ c = d) : ((c.toNat : Int) == (d.toNat : Int)) = false := by
  rw [beq_eq_false_iff_ne]; intro e; exact h (UInt8.toNat.inj (by omega))
/-- the loop over the digits from 'a' on -/
theorem all_drop {l : List UInt8} {a k : Nat} {c : UInt8} (hk : a ≤ k) (h : l[k]? = some c) (ha : ((l.take k).drop a).all K.dig = true) (hc : K.dig c = true) : ((l.take (k + 1)).drop a).all K.dig = true := by
  obtain ⟨hk', e⟩ := List.getElem?_eq_some_iff.1 h
  rw [List.take_succ_eq_append_getElem hk', e, List.drop_append_of_le_length (by rw [List.length_take]; omega), List.all_append, ha]
  simp [hc]
theorem all_drop_false {l : List UInt8} {a k : Nat} {c : UInt8} (hk : a ≤ k) (h : l[k]? = some c) (hc : K.dig c = false) : (l.drop a).all K.dig = false := by
  rw [List.all_eq_false]
  refine ⟨c, ?_, by simp [hc]⟩
  apply List.mem_of_getElem? (i := k - a)
  rw [List.getElem?_drop, show a + (k - a) = k by omega]
  exact h
theorem body_drop (l : List UInt8) : K.body l = l.drop (if l.head? = some 45 then 1 else 0) := by
  unfold K.body; split <;> simp
set_option maxRecDepth 100000 in
set_option maxHeartbeats 1600000 in
theorem rvalid_any (l : List UInt8) (w : World) (hl : l.length ≤ 140737488351232) :
    Calls Tryd.prog 16 #[.string (Str l)] w fun e w' => e = .returned (.bool (K.validL l)) ∧ w = w' := by
  have hv : K.validL l = (!(K.body l).isEmpty && decide ((K.body l).length ≤ 2000) && (if (K.body l).head? = some 48 then l == [48] else (K.body l).all K.dig)) := rfl
  have hS : (Str l).size = l.length := Str_size l
  have hT := Str_list l
  cases l with
  | nil =>
    have HVV : Hid (K.validL [] = false) := hid rfl
    clear hv hS hl
    go_enter Tryd.func16, Tryd.ntmps16
    go_wp2
    go_ret
    exact ⟨rfl, rfl⟩
  | cons c r =>
    obtain ⟨h0, e0⟩ := Str_at (l := c :: r) (i := 0) (c := c) rfl
    have hlen : (c :: r).length = r.length + 1 := rfl
    by_cases hc : c = 45
    · subst hc
      have hcc : ((((Str (45 :: r))[0]'h0).toNat : Int) == 45) = true := by rw [e0]; rfl
      have hb : K.body (45 :: r) = r := rfl
      rw [hb] at hv
      clear e0
      cases r with
      | nil =>
        have HVV : Hid (K.validL [45] = false) := hid rfl
        clear hv
        go_enter Tryd.func16, Tryd.ntmps16
        go_wp2
        go_ret
        exact ⟨by rw [HVV.out]; rfl, rfl⟩
      | cons d r =>
        obtain ⟨h1, e1⟩ := Str_at (l := 45 :: d :: r) (i := 1) (c := d) rfl
        have hlen2 : (45 :: d :: r).length = r.length + 1 + 1 := rfl
        by_cases hbig : r.length + 1 ≤ 2000
        · by_cases hd : d = 48
          · subst hd
            have HVV : Hid (K.validL (45 :: 48 :: r) = false) := by refine hid ?_; rw [hv]; simp
            have hdd : ((((Str (45 :: 48 :: r))[1]'h1).toNat : Int) == 48) = true := by rw [e1]; rfl
            clear hv e1
            go_enter Tryd.func16, Tryd.ntmps16
            go_wp2
            go_ret
            exact ⟨by rw [HVV.out]; rfl, rfl⟩
          · have hvv : K.validL (45 :: d :: r) = ((45 :: d :: r).drop 1).all K.dig := by
              rw [hv, if_neg (by simpa using hd)]
              simp only [List.isEmpty_cons, Bool.not_false, Bool.true_and, List.length_cons, hbig, decide_true]
              rfl
            have HVV := hid hvv
            have hdd : ((((Str (45 :: d :: r))[1]'h1).toNat : Int) == 48) = false := by
              rw [e1]; exact ne_lit hd
            clear hv e1 hd hvv
            go_enter Tryd.func16, Tryd.ntmps16
            go_wp2_with fail
            generalize hll : 45 :: d :: r = l at *
            have HVV : Hid (K.validL (45 :: d :: r) = (l.drop 1).all K.dig) := by rw [hll]; exact HVV
            generalize (Str l)[0]'h0 = x0 at *
            generalize (Str l)[1]'h1 = x1 at *
            have hpos : 1 ≤ l.length := by omega
            clear hll h0 hlen hlen2 hdd hcc hT h1 hb hbig
            go_loop [5] (fun i => ∃ k : Nat, 1 ≤ k ∧ k ≤ l.length ∧ i = .int .i64 k ∧ Hid (((l.take k).drop 1).all K.dig = true)) (fun i => l.length - (intOf i).toNat)
            case atStart => exact ⟨1, Nat.le_refl _, by omega, rfl, hid (by rw [List.drop_of_length_le (by rw [List.length_take]; omega)]; rfl)⟩
            case round =>
              obtain ⟨k, hk1, hk2, rfl, hall⟩ := hrel
              by_cases hlt : k < l.length
              · obtain ⟨x, ex⟩ : ∃ x, l[k]? = some x := ⟨_, List.getElem?_eq_getElem hlt⟩
                obtain ⟨hh, e0⟩ := Str_at ex
                have HX := hid ex
                clear ex
                by_cases hd1 : x.toNat < 48
                · have hf : (l.drop 1).all K.dig = false := all_drop_false hk1 HX.out (by unfold K.dig; simp; omega)
                  have HF := hid hf
                  have e1 : ((Str l)[k]'hh).toNat < 48 := by rw [e0]; exact hd1
                  clear hf e0
                  go_wp2
                  go_ret
                  exact ⟨by rw [HVV.out, HF.out]; rfl, rfl⟩
                · by_cases hd2 : 57 < x.toNat
                  · have hf : (l.drop 1).all K.dig = false := all_drop_false hk1 HX.out (by unfold K.dig; simp; omega)
                    have HF := hid hf
                    have e1 : ¬ ((Str l)[k]'hh).toNat < 48 := by rw [e0]; exact hd1
                    have e2 : 57 < ((Str l)[k]'hh).toNat := by rw [e0]; exact hd2
                    clear hf e0
                    go_wp2
                    go_ret
                    exact ⟨by rw [HVV.out, HF.out]; rfl, rfl⟩
                  · have hdg : Hid (K.dig x = true) := by unfold K.dig Hid; simp; omega
                    have e1 : ¬ ((Str l)[k]'hh).toNat < 48 := by rw [e0]; exact hd1
                    have e2 : ¬ 57 < ((Str l)[k]'hh).toNat := by rw [e0]; exact hd2
                    clear e0
                    go_wp2
                    go_round
                    case rel => exact ⟨k + 1, by omega, by omega, rfl, hid (all_drop hk1 HX.out hall.out hdg.out)⟩
                    case measure => simp [intOf]; omega
              · have hf : Hid ((l.drop 1).all K.dig = true) := by
                  have h := hall.out
                  rwa [List.take_of_length_le (by omega)] at h
                go_wp2
                go_ret
                exact ⟨by rw [HVV.out, hf.out]; rfl, rfl⟩
        · have HVV : Hid (K.validL (45 :: d :: r) = false) := by refine hid ?_; rw [hv]; simp; omega
          clear hv e1
          go_enter Tryd.func16, Tryd.ntmps16
          go_wp2
          go_ret
          exact ⟨by rw [HVV.out]; rfl, rfl⟩
    · have hcc : ((((Str (c :: r))[0]'h0).toNat : Int) == 45) = false := by
        rw [e0]; exact ne_lit hc
      have hb : K.body (c :: r) = c :: r := by unfold K.body; rw [if_neg (by simpa using hc)]
      rw [hb] at hv
      by_cases hbig : r.length + 1 ≤ 2000
      · by_cases hd : c = 48
        · subst hd
          have hdd : ((((Str (48 :: r))[0]'h0).toNat : Int) == 48) = true := by rw [e0]; rfl
          cases r with
          | nil =>
            have HVV : Hid (K.validL [48] = ([48].drop 0).all K.dig) := hid rfl
            clear hv e0 hc
            go_enter Tryd.func16, Tryd.ntmps16
            go_wp2_with fail
            generalize hll : [(48 : UInt8)] = l at *
            have HVV : Hid (K.validL ([(48 : UInt8)]) = (l.drop 0).all K.dig) := by rw [hll]; exact HVV
            generalize (Str l)[0]'h0 = x0 at *
            have hpos : 0 ≤ l.length := by omega
            clear hll h0 hlen hdd hcc hT hb hbig
            go_loop [5] (fun i => ∃ k : Nat, 0 ≤ k ∧ k ≤ l.length ∧ i = .int .i64 k ∧ Hid (((l.take k).drop 0).all K.dig = true)) (fun i => l.length - (intOf i).toNat)
            case atStart => exact ⟨0, Nat.le_refl _, by omega, rfl, hid (by rw [List.drop_of_length_le (by rw [List.length_take]; omega)]; rfl)⟩
            case round =>
              obtain ⟨k, hk1, hk2, rfl, hall⟩ := hrel
              by_cases hlt : k < l.length
              · obtain ⟨x, ex⟩ : ∃ x, l[k]? = some x := ⟨_, List.getElem?_eq_getElem hlt⟩
                obtain ⟨hh, e0⟩ := Str_at ex
                have HX := hid ex
                clear ex
                by_cases hd1 : x.toNat < 48
                · have hf : (l.drop 0).all K.dig = false := all_drop_false hk1 HX.out (by unfold K.dig; simp; omega)
                  have HF := hid hf
                  have e1 : ((Str l)[k]'hh).toNat < 48 := by rw [e0]; exact hd1
                  clear hf e0
                  go_wp2
                  go_ret
                  exact ⟨by rw [HVV.out, HF.out]; rfl, rfl⟩
                · by_cases hd2 : 57 < x.toNat
                  · have hf : (l.drop 0).all K.dig = false := all_drop_false hk1 HX.out (by unfold K.dig; simp; omega)
                    have HF := hid hf
                    have e1 : ¬ ((Str l)[k]'hh).toNat < 48 := by rw [e0]; exact hd1
                    have e2 : 57 < ((Str l)[k]'hh).toNat := by rw [e0]; exact hd2
                    clear hf e0
                    go_wp2
                    go_ret
                    exact ⟨by rw [HVV.out, HF.out]; rfl, rfl⟩
                  · have hdg : Hid (K.dig x = true) := by unfold K.dig Hid; simp; omega
                    have e1 : ¬ ((Str l)[k]'hh).toNat < 48 := by rw [e0]; exact hd1
                    have e2 : ¬ 57 < ((Str l)[k]'hh).toNat := by rw [e0]; exact hd2
                    clear e0
                    go_wp2
                    go_round
                    case rel => exact ⟨k + 1, by omega, by omega, rfl, hid (all_drop hk1 HX.out hall.out hdg.out)⟩
                    case measure => simp [intOf]; omega
              · have hf : Hid ((l.drop 0).all K.dig = true) := by
                  have h := hall.out
                  rwa [List.take_of_length_le (by omega)] at h
                go_wp2
                go_ret
                exact ⟨by rw [HVV.out, hf.out]; rfl, rfl⟩
          | cons d r =>
            have hbig2 : r.length + 1 + 1 ≤ 2000 := by simpa using hbig
            have HVV : Hid (K.validL (48 :: d :: r) = false) := by refine hid ?_; rw [hv]; simp
            clear hv e0 hc
            go_enter Tryd.func16, Tryd.ntmps16
            go_wp2
            go_ret
            exact ⟨by rw [HVV.out]; rfl, rfl⟩
        · have hvv : K.validL (c :: r) = ((c :: r).drop 0).all K.dig := by
            rw [hv, if_neg (by simpa using hd)]
            simp only [List.isEmpty_cons, Bool.not_false, Bool.true_and, List.length_cons, hbig, decide_true]
            rfl
          have HVV := hid hvv
          have hdd : ((((Str (c :: r))[0]'h0).toNat : Int) == 48) = false := by
            rw [e0]; exact ne_lit hd
          clear hv e0 hd hvv hc
          go_enter Tryd.func16, Tryd.ntmps16
          go_wp2_with fail
          generalize hll : c :: r = l at *
          have HVV : Hid (K.validL (c :: r) = (l.drop 0).all K.dig) := by rw [hll]; exact HVV
          generalize (Str l)[0]'h0 = x0 at *
          have hpos : 0 ≤ l.length := by omega
          clear hll h0 hlen hdd hcc hT hb hbig
          go_loop [5] (fun i => ∃ k : Nat, 0 ≤ k ∧ k ≤ l.length ∧ i = .int .i64 k ∧ Hid (((l.take k).drop 0).all K.dig = true)) (fun i => l.length - (intOf i).toNat)
          case atStart => exact ⟨0, Nat.le_refl _, by omega, rfl, hid (by rw [List.drop_of_length_le (by rw [List.length_take]; omega)]; rfl)⟩
          case round =>
            obtain ⟨k, hk1, hk2, rfl, hall⟩ := hrel
            by_cases hlt : k < l.length
            · obtain ⟨x, ex⟩ : ∃ x, l[k]? = some x := ⟨_, List.getElem?_eq_getElem hlt⟩
              obtain ⟨hh, e0⟩ := Str_at ex
              have HX := hid ex
              clear ex
              by_cases hd1 : x.toNat < 48
              · have hf : (l.drop 0).all K.dig = false := all_drop_false hk1 HX.out (by unfold K.dig; simp; omega)
                have HF := hid hf
                have e1 : ((Str l)[k]'hh).toNat < 48 := by rw [e0]; exact hd1
                clear hf e0
                go_wp2
                go_ret
                exact ⟨by rw [HVV.out, HF.out]; rfl, rfl⟩
              · by_cases hd2 : 57 < x.toNat
                · have hf : (l.drop 0).all K.dig = false := all_drop_false hk1 HX.out (by unfold K.dig; simp; omega)
                  have HF := hid hf
                  have e1 : ¬ ((Str l)[k]'hh).toNat < 48 := by rw [e0]; exact hd1
                  have e2 : 57 < ((Str l)[k]'hh).toNat := by rw [e0]; exact hd2
                  clear hf e0
                  go_wp2
                  go_ret
                  exact ⟨by rw [HVV.out, HF.out]; rfl, rfl⟩
                · have hdg : Hid (K.dig x = true) := by unfold K.dig Hid; simp; omega
                  have e1 : ¬ ((Str l)[k]'hh).toNat < 48 := by rw [e0]; exact hd1
                  have e2 : ¬ 57 < ((Str l)[k]'hh).toNat := by rw [e0]; exact hd2
                  clear e0
                  go_wp2
                  go_round
                  case rel => exact ⟨k + 1, by omega, by omega, rfl, hid (all_drop hk1 HX.out hall.out hdg.out)⟩
                  case measure => simp [intOf]; omega
            · have hf : Hid ((l.drop 0).all K.dig = true) := by
                have h := hall.out
                rwa [List.take_of_length_le (by omega)] at h
              go_wp2
              go_ret
              exact ⟨by rw [HVV.out, hf.out]; rfl, rfl⟩
      · have HVV : Hid (K.validL (c :: r) = false) := by refine hid ?_; rw [hv]; simp; omega
        clear hv e0 hc
        go_enter Tryd.func16, Tryd.ntmps16
        go_wp2
        go_ret
        exact ⟨by rw [HVV.out]; rfl, rfl⟩
end Go.Proofs.YtdbaemadphhhcaaDoor
