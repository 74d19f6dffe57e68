/- num.Valid -/
import Derived.Test.YtdbaemadphhhcaaDoorWrite
import Derived.Laws.RangeAny
namespace Go.Proofs.YtdbaemadphhhcaaDoor
open Go.RowKit
theorem Str_toList (l : List UInt8) : (Str l).toList = l := by rw [ByteArray.toList_eq]; simp [Str]
theorem Str_get (l : List UInt8) (i : Nat) (h : i < (Str l).size) : (Str l)[i]'h = l[i]'(by rw [Str_size] at h; exact h) := by
  show (Str l).data[i]'_ = _
  simp [Str]
theorem Str_at {l : List UInt8} {i : Nat} {c : UInt8} (h : l[i]? = some c) : ∃ hh : i < (Str l).size, (Str l)[i]'hh = c := by
  obtain ⟨hi, hc⟩ := List.getElem?_eq_some_iff.1 h
  exact ⟨by rw [Str_size]; exact hi, by rw [Str_get]; exact hc⟩
theorem all_take {l : List UInt8} {k : Nat} {c : UInt8} (h : l[k]? = some c) (ha : (l.take k).all K.dig = true) (hc : K.dig c = true) : (l.take (k + 1)).all K.dig = true := by
  obtain ⟨hk, e⟩ := List.getElem?_eq_some_iff.1 h
  rw [List.take_succ_eq_append_getElem hk, e, List.all_append, ha]
  simp [hc]
theorem all_false {l : List UInt8} {k : Nat} {c : UInt8} (h : l[k]? = some c) (hc : K.dig c = false) : l.all K.dig = false := by
  rw [List.all_eq_false]
  exact ⟨c, List.mem_of_getElem? h, by simp [hc]⟩
theorem Ext.iter (w : World) (s : ByteArray) (pos : Nat) : Ext w (w.iter s pos) := (Ext.rfl' w).alloc' _
set_option maxRecDepth 100000 in
set_option maxHeartbeats 800000 in
theorem valid_any (l : List UInt8) (w : World) (hl : l.length ≤ 140737488351232) :
    Calls Tryd.prog 15 #[.string (Str l)] w fun e w' => e = .returned (.bool (K.validL l)) ∧ Ext w w' := by
  have hbl : (K.body l).length ≤ l.length := by unfold K.body; split <;> simp
  have hv : K.validL l = (!(K.body l).isEmpty && decide ((K.body l).length ≤ 2000) && (if (K.body l).head? = some 48 then l == [48] else (K.body l).all K.dig)) := rfl
  have t1 := Str_toList l
  obtain ⟨b, hb⟩ : ∃ b, K.body l = b := ⟨_, rfl⟩
  rw [hb] at hv hbl
  have HB := hid hb
  have HV := hid hv
  have t2 := Str_toList b
  have s2 := Str_size b
  clear hv hb
  cases b with
  | nil =>
    have hv : K.validL l = false := by rw [HV.out]; rfl
    rw [hv]
    go_enter Tryd.func15, Tryd.ntmps15
    go_wp2_with fail
    refine (trimPrefix_any _ _).mono ?_
    rintro e w2 ⟨rfl, rfl⟩
    rw [HB.out]
    go_wp2
    go_ret
    exact ⟨rfl, Ext.rfl' _⟩
  | cons c r =>
    by_cases h2000 : (c :: r).length ≤ 2000
    · by_cases h48 : c = 48
      · have hv : K.validL l = (l == [48]) := by rw [HV.out, h48]; simp; intro _; simpa using h2000
        obtain ⟨h0, e0⟩ := Str_at (l := c :: r) (i := 0) (c := c) rfl
        have hc : ((((Str (c :: r))[0]'h0).toNat : Int) == 48) = true := by rw [e0, h48]; rfl
        rw [hv]
        have hn1 : r.length + 1 ≤ 2000 := by simpa using h2000
        clear hv e0 h48
        go_enter Tryd.func15, Tryd.ntmps15
        go_wp2_with fail
        refine (trimPrefix_any _ _).mono ?_
        rintro e w2 ⟨rfl, rfl⟩
        rw [HB.out]
        go_wp2
        go_ret
        exact ⟨rfl, Ext.rfl' _⟩
      · have hv : K.validL l = (c :: r).all K.dig := by
          rw [HV.out, if_neg (by simpa using h48)]
          simp only [List.isEmpty_cons, Bool.not_false, Bool.true_and, h2000, decide_true]
        obtain ⟨h0, e0⟩ := Str_at (l := c :: r) (i := 0) (c := c) rfl
        have hc : ((((Str (c :: r))[0]'h0).toNat : Int) == 48) = false := by
          rw [e0]; simp; intro e; apply h48
          exact UInt8.toNat.inj (by simp; omega)
        have HVV := hid hv
        have hn1 : r.length + 1 ≤ 2000 := by simpa using h2000
        have hn : (Str (c :: r)).size ≤ 2000 := by rw [Str_size]; exact h2000
        have HN := hid hn
        clear hv e0 h48
        go_enter Tryd.func15, Tryd.ntmps15
        go_wp2_with fail
        refine (trimPrefix_any _ _).mono ?_
        rintro e w2 ⟨rfl, rfl⟩
        rw [HB.out]
        go_wp2_with fail
        generalize (Str (c :: r))[0]'h0 = x0 at *
        clear t1 t2 s2 h2000 hbl hn hn1 hc h0
        generalize hbb : c :: r = b at *
        go_loopw [] (fun wr => ∃ pos : Nat, pos ≤ (Str b).size ∧ wr = w.iter (Str b) pos ∧ (b.take pos).all K.dig = true) (fun wr => (Str b).size - wr.iterPos w.heap.size)
        case atStart => exact ⟨0, by omega, rfl, by simp⟩
        case round =>
          obtain ⟨pos, hp, rfl, hall⟩ := hrel
          have HA := hid hall
          clear hall hbb
          by_cases hlt : pos < (Str b).size
          · obtain ⟨x, ex⟩ : ∃ x, b[pos]? = some x := ⟨_, List.getElem?_eq_getElem (by rw [Str_size] at hlt; exact hlt)⟩
            obtain ⟨hh, e0⟩ := Str_at ex
            have HX := hid ex
            clear ex
            by_cases hx : x.toNat < 128
            · have hnx : ∀ ty, (Instr.next (.pointer (some ⟨w.heap.size, 0, none⟩)) true ty).run Tryd.prog (w.iter (Str b) pos) = .ok (.tuple #[.bool true, .int .i64 pos, .int .i32 x.toNat]) (w.iter (Str b) (pos + 1)) := fun ty => by
                have h := run_next_ascii (P := Tryd.prog) w (Str b) pos ty hlt (by rw [e0]; exact hx)
                rw [e0] at h
                exact h
              have h48 : (c :: r).length = (c :: r).length := rfl
              clear e0 h48
              by_cases hd1 : x.toNat < 48
              · have HF : Hid (b.all K.dig = false) := hid <| all_false HX.out (by unfold K.dig; simp; omega)
                go_wp2
                go_ret
                exact ⟨by rw [HVV.out, HF.out]; rfl, Ext.iter _ _ _⟩
              · by_cases hd2 : 57 < x.toNat
                · have HF : Hid (b.all K.dig = false) := hid <| all_false HX.out (by unfold K.dig; simp; omega)
                  go_wp2
                  go_ret
                  exact ⟨by rw [HVV.out, HF.out]; rfl, Ext.iter _ _ _⟩
                · have hdg : Hid (K.dig x = true) := by unfold K.dig Hid; simp; omega
                  go_wp2
                  go_roundw
                  case rel => exact ⟨pos + 1, by omega, rfl, all_take HX.out HA.out hdg.out⟩
                  case measure => simp; omega
            · have hhigh := decode_high (Str b) pos hlt (by rw [e0]; omega)
              have hnx : ∀ ty, (Instr.next (.pointer (some ⟨w.heap.size, 0, none⟩)) true ty).run Tryd.prog (w.iter (Str b) pos) = _ := fun ty => run_next_any w (Str b) pos ty hlt
              have HF : Hid (b.all K.dig = false) := hid <| all_false HX.out (by unfold K.dig; simp; omega)
              have hge : ¬ ((Utf8.decode (Str b) pos).1 : Int) < 48 := by omega
              have hgt : (57 : Int) < ((Utf8.decode (Str b) pos).1 : Int) := by omega
              clear e0 hhigh
              generalize Utf8.decode (Str b) pos = dd at *
              go_wp2
              go_ret
              exact ⟨by rw [HVV.out, HF.out]; rfl, Ext.iter _ _ _⟩
          · have hnx : ∀ ty, (Instr.next (.pointer (some ⟨w.heap.size, 0, none⟩)) true ty).run Tryd.prog (w.iter (Str b) pos) = _ := fun ty => run_next_end w (Str b) pos ty hlt
            have HF : Hid (b.all K.dig = true) := hid <| by
              have h := HA.out
              rwa [List.take_of_length_le (by rw [Str_size] at hlt; omega)] at h
            go_wp2
            go_ret
            exact ⟨by rw [HVV.out, HF.out]; rfl, Ext.iter _ _ _⟩
    · have hv : K.validL l = false := by rw [HV.out]; simp; intro h; simp at h2000; omega
      rw [hv]
      have hn : ¬ r.length + 1 ≤ 2000 := by simpa using h2000
      clear h2000
      go_enter Tryd.func15, Tryd.ntmps15
      go_wp2_with fail
      refine (trimPrefix_any _ _).mono ?_
      rintro e w2 ⟨rfl, rfl⟩
      rw [HB.out]
      go_wp2
      go_ret
      exact ⟨rfl, Ext.rfl' _⟩
end Go.Proofs.YtdbaemadphhhcaaDoor
