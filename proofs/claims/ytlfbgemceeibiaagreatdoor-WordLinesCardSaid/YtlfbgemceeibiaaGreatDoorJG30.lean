/- the reference's Rest of layer 3 -/
import Derived.Test.YtlfbgemceeibiaaGreatDoorJG29
import Derived.Test.YtlfbgemceeibiaaGreatDoorJG26
import Derived.Test.YtlfbgemceeibiaaGreatDoorJG24
import Derived.Deep.LoopGhost
set_option linter.unusedSimpArgs false
set_option linter.unusedVariables false
namespace Go.Proofs.YtlfbgemceeibiaaGreatDoor
open Go.RowKit
theorem NB.lt {B g : Nat} {w : World} (h : NB B w g) : g < w.heap.size := h.2.lt
theorem NB.ne {B g : Nat} {w : World} (h : NB B w g) : ¬ (g = w.heap.size) := by have := h.lt; omega
theorem NB.ne' {B g : Nat} {w : World} (h : NB B w g) : ¬ (w.heap.size = g) := by have := h.lt; omega
theorem NB.row {B g : Nat} {w : World} (h : NB B w g) : Row w g 36 [.bool false, .slice none 0 0] := h.2
theorem NB.ge {B g : Nat} {w : World} (h : NB B w g) : B ≤ g := h.1
theorem NB.two_lt {B : Nat} {w : World} (_ : B ≤ w.heap.size) : w.heap.size < w.heap.size + 1 := Nat.lt_succ_self _
theorem NB.two1 {B : Nat} {w : World} (h : B ≤ w.heap.size) : NB B ((w.alloc (.cells #[.bool false, .slice none 0 0] 36)).alloc (.cells #[.bool false, .slice none 0 0] 36)) w.heap.size := ⟨h, (Row.new w 36 [.bool false, .slice none 0 0]).alloc _⟩
theorem NB.two2 {B : Nat} {w : World} (h : B ≤ w.heap.size) : NB B ((w.alloc (.cells #[.bool false, .slice none 0 0] 36)).alloc (.cells #[.bool false, .slice none 0 0] 36)) (w.heap.size + 1) := by
  refine ⟨by omega, ?_⟩
  have := Row.new (w.alloc (.cells #[.bool false, .slice none 0 0] 36)) 36 [.bool false, .slice none 0 0]
  rwa [World.size_alloc] at this
theorem NB.two1D {B : Nat} {w : World} (h : B ≤ w.heap.size) : NB B ((w.drew.alloc (.cells #[.bool false, .slice none 0 0] 36)).alloc (.cells #[.bool false, .slice none 0 0] 36)) w.heap.size := ⟨h, (Row.new w.drew 36 [.bool false, .slice none 0 0]).alloc _⟩
theorem NB.two2D {B : Nat} {w : World} (h : B ≤ w.heap.size) : NB B ((w.drew.alloc (.cells #[.bool false, .slice none 0 0] 36)).alloc (.cells #[.bool false, .slice none 0 0] 36)) (w.heap.size + 1) := by
  refine ⟨by omega, ?_⟩
  have := Row.new (w.drew.alloc (.cells #[.bool false, .slice none 0 0] 36)) 36 [.bool false, .slice none 0 0]
  rwa [World.size_alloc] at this
theorem no_int2 (b : Bool) (P : Option Addr) (q c : Nat) : NoInt [.bool b, .slice P q c] := by
  intro v hv k x e
  subst e
  simp at hv
theorem NB.noInt {B g : Nat} {w : World} (h : NB B w g) : NoIntB w g := ⟨_, _, _, h.2, by simpa using no_int2 false none 0 0⟩
theorem KeepRd.rfl' (w : World) : KeepRd w w := fun _ _ h => h
theorem KeepRd.allocN {w w1 : World} {o : Obj} (h : KeepRd w w1) : KeepRd w (w1.alloc o) := h.trans (KeepRd.of_ext ((Ext.rfl' w1).alloc' o))
theorem KeepRd.setN {w w1 : World} {g i : Nat} {u : Value} (h : KeepRd w w1) (hn : NoIntB w1 g) : KeepRd w (w1.setCell ⟨g, i, none⟩ u) :=
  h.trans (KeepRd.but hn (by rw [World.size_setCell]; exact Nat.le_refl _) (fun j _ hj => Below.heap_setCell w1 ⟨g, i, none⟩ u j hj))
theorem NoIntB.newN (w : World) (t : TypeId) (b : Bool) (P : Option Addr) (q c : Nat) : NoIntB (w.alloc (.cells #[.bool b, .slice P q c] t)) w.heap.size := ⟨_, _, _, Row.new w t [.bool b, .slice P q c], by simpa using no_int2 b P q c⟩
theorem NoIntB.allocN {w : World} {g : Nat} {o : Obj} (h : NoIntB w g) : NoIntB (w.alloc o) g := by
  refine h.keep (Below.heap_alloc w o g ?_)
  obtain ⟨cs, t, fr, h1, -⟩ := h
  rcases Nat.lt_or_ge g w.heap.size with hl | hl
  · exact hl
  · rw [Array.getElem?_eq_none hl] at h1; cases h1
theorem NoIntB.setN {w : World} {g h i : Nat} {u : Value} (hn : NoIntB w g) (hu : ∀ k x, u ≠ .int k x) : NoIntB (w.setCell ⟨h, i, none⟩ u) g := by
  by_cases hg : g = h
  · subst hg
    obtain ⟨cs, t, fr, h1, h2⟩ := hn
    refine ⟨cs.setIfInBounds i u, t, fr, by simp [World.setCell, Array.getElem?_modify, h1], fun v hv k x => ?_⟩
    rw [Array.toList_setIfInBounds] at hv
    rcases List.mem_or_eq_of_mem_set hv with h3 | h3
    · exact h2 v h3 k x
    · rw [h3]; exact hu k x
  · exact hn.keep (Below.heap_setCell w ⟨h, i, none⟩ u g hg)
theorem NoIntB.setB {w : World} {g h i : Nat} {b : Bool} (hn : NoIntB w g) : NoIntB (w.setCell ⟨h, i, none⟩ (.bool b)) g := hn.setN (fun k x => by simp)
theorem NoIntB.setS {w : World} {g h i : Nat} {P : Option Addr} {q c : Nat} (hn : NoIntB w g) : NoIntB (w.setCell ⟨h, i, none⟩ (.slice P q c)) g := hn.setN (fun k x => by simp)
theorem Row.new2 (w : World) (o : Obj) (t : TypeId) (vs : List Value) : Row ((w.alloc o).alloc (.cells vs.toArray t)) (w.heap.size + 1) t vs := by
  have := Row.new (w.alloc o) t vs
  rwa [World.size_alloc] at this
theorem Row.put2 {w : World} {H : Nat} {t : TypeId} {a b a' b' : Value} (h : Row w H t [a, b]) : Row ((w.setCell ⟨H, 0, none⟩ a').setCell ⟨H, 1, none⟩ b') H t [a', b'] := (h.set 0 a').set 1 b'
theorem Row.far2 {w : World} {H g : Nat} {t : TypeId} {vs : List Value} {a' b' : Value} (h : Row w g t vs) (hne : g ≠ H) : Row ((w.setCell ⟨H, 0, none⟩ a').setCell ⟨H, 1, none⟩ b') g t vs := (h.far (by exact hne) a').far (by exact hne) b'
theorem pair_put {w wr : World} {Ha Hb : Nat} (ra : Row wr Ha 36 [.bool false, .slice none 0 0]) (rb : Row wr Hb 36 [.bool false, .slice none 0 0]) (hne : Hb ≠ Ha) (hx : Ext w wr) (ha : w.heap.size ≤ Ha) (hb : w.heap.size ≤ Hb) {V1 V2 : Value} {X Y : Int} (h1 : RefV wr V1 X) (h2 : RefV wr V2 Y) (a b c d : Value) :
    RefV ((((wr.setCell ⟨Ha, 0, none⟩ a).setCell ⟨Ha, 1, none⟩ b).setCell ⟨Hb, 0, none⟩ c).setCell ⟨Hb, 1, none⟩ d) V1 X ∧ RefV ((((wr.setCell ⟨Ha, 0, none⟩ a).setCell ⟨Ha, 1, none⟩ b).setCell ⟨Hb, 0, none⟩ c).setCell ⟨Hb, 1, none⟩ d) V2 Y ∧
      Ext w ((((wr.setCell ⟨Ha, 0, none⟩ a).setCell ⟨Ha, 1, none⟩ b).setCell ⟨Hb, 0, none⟩ c).setCell ⟨Hb, 1, none⟩ d) := by
  have rb2 := Row.far2 (a' := a) (b' := b) rb hne
  exact ⟨(h1.box ra).box rb2, (h2.box ra).box rb2, (((hx.set' (by show _ ≤ Ha; omega) _).set' (by show _ ≤ Ha; omega) _).set' (by show _ ≤ Hb; omega) _).set' (by show _ ≤ Hb; omega) _⟩
theorem rest2_s (v vn : Value) (m x : Int) (us ad : List Int) (w : World) (hv : MapV w v m us ad) (hn : RefV w vn x) (lx : x.natAbs ≤ BIG) (h1 : 1 ≤ m) (h2 : m ≤ 2147483647) {q : Int} (hq : Hid (x % m = q)) :
    Calls Tryz.prog 51 #[v, vn] w (fun e w' => e = .returned (.int .i64 q) ∧ Ext w w') := by
  rw [← hq.out]; exact rest2_any v vn m x us ad w hv hn lx h1 h2
/-- the rest after j rounds -/
def RestAt (m : Int) (us ad : List Int) (ws : List Int) (j : Nat) (T : Int) : Prop := 0 ≤ T ∧ T < m ^ j ∧ IsWord m us ad (ws.take j) T
theorem fits_pow {m : Int} {us ad ws : List Int} (hM : mapP m us ad) (hW : wordB m ws = true) {j : Nat} (hj : j ≤ ws.length) : K.fits (m ^ j) := by
  have hB := take_B (us := us) (ad := ad) hM hW hj
  have h200 := (wordB_iff.1 hW).1
  have hm := hM.1
  have h := (hB.fits hM (by omega) (r := 0) (by omega) (by omega)).2.2.1
  rw [lineI_div, List.length_take, Nat.min_eq_left hj] at h
  exact h
/-- what a place of the search knows -/
def Spot (m : Int) (M A0 D : Int) (T0 : Int) (a o r : Int) (t0 : Nat) : Prop := ∀ t : Nat, t ≤ t0 → M * (T0 + (t : Int) * D) + A0 = D * (o + (t : Int) * a) ∧ K.fits (T0 + (t : Int) * D) ∧ K.fits (T0 + (t : Int) * D + D)
theorem spot_of {m : Int} {us ad ws : List Int} (hM : mapP m us ad) (hR : regB m us = true) (hW : wordB m ws = true) {j : Nat} (hj : j < ws.length) {T0 : Int} (h : RestAt m us ad ws j T0) :
    ∃ t0 : Nat, (t0 : Int) < m ∧ (orbN m us ad j T0 + (t0 : Int) * (lineI m us ad (ws.take j)).1) % m = ws.getD j 0 ∧
      (∀ t : Nat, (t : Int) < m → (lineI m us ad (ws.take j)).1 * (T0 + (t : Int) * m ^ j) + (lineI m us ad (ws.take j)).2.1 = m ^ j * (orbN m us ad j T0 + (t : Int) * (lineI m us ad (ws.take j)).1) ∧
        0 ≤ T0 + (t : Int) * m ^ j ∧ T0 + (t : Int) * m ^ j < m ^ (j + 1)) ∧
      (∀ t : Nat, (t : Int) < m → (orbN m us ad j T0 + (t : Int) * (lineI m us ad (ws.take j)).1) % m = ws.getD j 0 → RestAt m us ad ws (j + 1) (T0 + (t : Int) * m ^ j)) := by
  have hm := hM.1
  have hm2 := hM.2.1
  have hp : 0 < m ^ j := Int.pow_pos (by omega)
  have hlen : (ws.take j).length = j := by rw [List.length_take]; omega
  have hwt : ∀ r ∈ ws.take j, 0 ≤ r ∧ r < m := fun r hr => (wordB_iff.1 hW).2 r (List.mem_of_mem_take hr)
  have hcop := line_cop hM hR (ws.take j) hwt
  have hrr := word_at hW hj
  obtain ⟨t0, h1, h2⟩ := sol_int (m := m) (a := (lineI m us ad (ws.take j)).1) (x := orbN m us ad j T0) (r := ws.getD j 0) (by omega) (by omega) (by omega) hcop.1 hrr.1 hrr.2
  have hbd : ∀ t : Nat, (t : Int) < m → 0 ≤ T0 + (t : Int) * m ^ j ∧ T0 + (t : Int) * m ^ j < m ^ (j + 1) := fun t ht => by
    have e1 : 0 ≤ (t : Int) * m ^ j := Int.mul_nonneg (by omega) (by omega)
    have e2 : (t : Int) * m ^ j ≤ (m - 1) * m ^ j := Int.mul_le_mul_of_nonneg_right (by omega) (by omega)
    have e3 : m ^ (j + 1) = m ^ j * m := Int.pow_succ m j
    have e4 : (m - 1) * m ^ j = m ^ j * m - m ^ j := by rw [Int.sub_mul, Int.one_mul, Int.mul_comm]
    have := h.1
    have := h.2.1
    omega
  refine ⟨t0, h1, h2, fun t ht => ⟨?_, hbd t ht⟩, fun t ht e => ?_⟩
  · have hw : IsWord m us ad (ws.take j) (T0 + (t : Int) * m ^ (ws.take j).length) := word_mod (by omega) h.2.2
    rw [hlen] at hw
    have e1 := lin_orb hM (T0 + (t : Int) * m ^ j) j
    have e2 : wordI m us ad j (T0 + (t : Int) * m ^ j) = ws.take j := by
      have := (wordI_iff (ws := ws.take j)).2 hw
      rwa [hlen] at this
    rw [e2, lineI_div, hlen] at e1
    rw [e1, alike_orb (by omega) j T0 t j (Nat.le_refl _), Nat.sub_self, Int.pow_zero, Int.mul_one, growN_line j (ws.take j) hlen h.2.2]
  · have hn := IsWord.next (ws := ws.take j) (x := T0) (t := t) (r := ws.getD j 0) (by omega) h.2.2 (by rw [hlen]; exact e)
    rw [hlen, ← take_next hj] at hn
    exact ⟨(hbd t ht).1, (hbd t ht).2, hn.1⟩
set_option maxRecDepth 100000 in
set_option maxHeartbeats 12800000 in
theorem rest3_any (v : Value) (m : Int) (us ad : List Int) (Wd : Option Addr) (wn wq : Nat) (ws : List Int) (w : World) (hv : MapV w v m us ad) (hw : Rd w Wd (Is ws)) (hl : ws.length = wn) (hM : Hid (mapP m us ad)) (hW : Hid (wordB m ws = true)) (hR : Hid (regB m us = true)) :
    Calls Tryz.prog 29 #[v, .slice Wd wn wq] w (fun e w' => ∃ T v1 v2, e = .returned (.tuple #[v1, v2]) ∧ RefV w' v1 T ∧ RefV w' v2 (m ^ wn) ∧ RestAt m us ad ws wn T ∧ Ext w w') := by
  have h200 : wn ≤ 200 := by rw [← hl]; exact (wordB_iff.1 hW.out).1
  have hm1 : 1 ≤ m := by have := hM.out.1; omega
  have hm2 : m ≤ 2147483647 := by have := hM.out.2.1; omega
  have HV := hid hv
  have HWD := hid hw
  have HL := hid hl
  obtain ⟨A, n, cc, B, n2, d, rfl, -⟩ := hv
  have hx : Ext w (((w.alloc (.cells #[.int .i64 m, .slice A n cc, .slice B n2 d] 24)).alloc (.cells #[.bool false, .slice none 0 0] 36)).alloc (.cells #[.bool false, .slice none 0 0] 36)) := (((Ext.rfl' w).alloc' _).alloc' _).alloc' _
  have hr1 : Row (((w.alloc (.cells #[.int .i64 m, .slice A n cc, .slice B n2 d] 24)).alloc (.cells #[.bool false, .slice none 0 0] 36)).alloc (.cells #[.bool false, .slice none 0 0] 36)) w.heap.size 24 [.int .i64 m, .slice A n cc, .slice B n2 d] := ((Row.new w _ _).alloc _).alloc _
  have hr2 : Row (((w.alloc (.cells #[.int .i64 m, .slice A n cc, .slice B n2 d] 24)).alloc (.cells #[.bool false, .slice none 0 0] 36)).alloc (.cells #[.bool false, .slice none 0 0] 36)) (w.heap.size + 1) 36 [.bool false, .slice none 0 0] := by
    have := (Row.new (w.alloc (.cells #[.int .i64 m, .slice A n cc, .slice B n2 d] 24)) 36 [.bool false, .slice none 0 0]).alloc (.cells #[.bool false, .slice none 0 0] 36)
    rwa [World.size_alloc] at this
  have hr3 : Row (((w.alloc (.cells #[.int .i64 m, .slice A n cc, .slice B n2 d] 24)).alloc (.cells #[.bool false, .slice none 0 0] 36)).alloc (.cells #[.bool false, .slice none 0 0] 36)) (w.heap.size + 1 + 1) 36 [.bool false, .slice none 0 0] := by
    have := Row.new ((w.alloc (.cells #[.int .i64 m, .slice A n cc, .slice B n2 d] 24)).alloc (.cells #[.bool false, .slice none 0 0] 36)) 36 [.bool false, .slice none 0 0]
    rwa [World.size_alloc, World.size_alloc] at this
  obtain ⟨W3, hW3⟩ : ∃ W3, (((w.alloc (.cells #[.int .i64 m, .slice A n cc, .slice B n2 d] 24)).alloc (.cells #[.bool false, .slice none 0 0] 36)).alloc (.cells #[.bool false, .slice none 0 0] 36)) = W3 := ⟨_, rfl⟩
  rw [hW3] at hx hr1 hr2 hr3
  have HW3 := hid hW3
  have HX := hid hx
  have R1 := hid hr1
  have R2 := hid hr2
  have R3 := hid hr3
  clear hW3 hx hr1 hr2 hr3 hw hl
  go_enter Tryz.func29, Tryz.ntmps29
  go_upto_region 1 with fail
  rw [HW3.out]
  go_wp2_with fail
  refine (one_any W3).mono ?_
  rintro e w4 ⟨v4, rfl, hv4, hx4⟩
  have hv4' := hv4
  obtain ⟨b1, A1, k1, c1, b2, A2, k2, c2, b3, A3, k3, c3, rfl, -⟩ := hv4
  have hy := (hx4.alloc' (.cells #[.bool false, .slice none 0 0] 36)).alloc' (.cells #[.bool b1, .slice A1 k1 c1, .bool b2, .slice A2 k2 c2, .bool b3, .slice A3 k3 c3] 49)
  have q1 : Row ((w4.alloc (.cells #[.bool false, .slice none 0 0] 36)).alloc (.cells #[.bool b1, .slice A1 k1 c1, .bool b2, .slice A2 k2 c2, .bool b3, .slice A3 k3 c3] 49)) w4.heap.size 36 [.bool false, .slice none 0 0] := (Row.new w4 _ _).alloc _
  have q2 : Row ((w4.alloc (.cells #[.bool false, .slice none 0 0] 36)).alloc (.cells #[.bool b1, .slice A1 k1 c1, .bool b2, .slice A2 k2 c2, .bool b3, .slice A3 k3 c3] 49)) (w4.heap.size + 1) 49 [.bool b1, .slice A1 k1 c1, .bool b2, .slice A2 k2 c2, .bool b3, .slice A3 k3 c3] := by
    have := Row.new (w4.alloc (.cells #[.bool false, .slice none 0 0] 36)) 49 [.bool b1, .slice A1 k1 c1, .bool b2, .slice A2 k2 c2, .bool b3, .slice A3 k3 c3]
    rwa [World.size_alloc] at this
  have hvv := hv4'.ext (((Ext.rfl' w4).alloc' (.cells #[.bool false, .slice none 0 0] 36)).alloc' (.cells #[.bool b1, .slice A1 k1 c1, .bool b2, .slice A2 k2 c2, .bool b3, .slice A3 k3 c3] 49))
  obtain ⟨HR, hHR⟩ : ∃ HR, w4.heap.size = HR := ⟨_, rfl⟩
  have hgt : w.heap.size + 1 + 1 < HR := by
    have e1 := R3.out.lt
    have e2 := hx4.size
    omega
  obtain ⟨W5, hW5⟩ : ∃ W5, ((w4.alloc (.cells #[.bool false, .slice none 0 0] 36)).alloc (.cells #[.bool b1, .slice A1 k1 c1, .bool b2, .slice A2 k2 c2, .bool b3, .slice A3 k3 c3] 49)) = W5 := ⟨_, rfl⟩
  rw [hW5] at hy q1 q2 hvv
  rw [hHR] at q1 q2
  have HW5 := hid hW5
  have HE5 := hid hy
  have Q1 := hid q1
  have Q2 := hid q2
  have HL5 := hid hvv
  have HGT := hid hgt
  clear hx4 hv4' hy q1 q2 hvv hW5 hgt
  go_upto_region 2 with fail
  rw [HW5.out]
  clear hHR
  go_wp2_with fail
  go_loopw [8] (fun iz wr => ∃ (j : Nat) (T : Int) (b : Bool) (P : Option Addr) (q c : Nat) (b1 : Bool) (A1 : Option Addr) (k1 c1 : Nat) (b2 : Bool) (A2 : Option Addr) (k2 c2 : Nat) (b3 : Bool) (A3 : Option Addr) (k3 c3 : Nat), j ≤ wn ∧ iz = .int .i64 (j : Int) ∧ Row wr w.heap.size 24 [.int .i64 m, .slice A n cc, .slice B n2 d] ∧ Row wr (w.heap.size + 1) 36 [.bool false, .slice none 0 0] ∧ Row wr (w.heap.size + 1 + 1) 36 [.bool false, .slice none 0 0] ∧ Row wr HR 36 [.bool b, .slice P q c] ∧ Row wr (HR + 1) 49 [.bool b1, .slice A1 k1 c1, .bool b2, .slice A2 k2 c2, .bool b3, .slice A3 k3 c3] ∧ RefV wr (.agg #[.bool b, .slice P q c]) T ∧ LineR wr (.agg #[.bool b1, .slice A1 k1 c1, .bool b2, .slice A2 k2 c2, .bool b3, .slice A3 k3 c3]) (lineI m us ad (ws.take j)) ∧ Hid (RestAt m us ad ws j T) ∧ Ext w wr) (fun iz _ => wn - (intOf iz).toNat)
  case atStart => exact ⟨0, 0, false, none, 0, 0, b1, A1, k1, c1, b2, A2, k2, c2, b3, A3, k3, c3, by omega, rfl, R1.out.ext HE5.out, R2.out.ext HE5.out, R3.out.ext HE5.out, Q1.out, Q2.out, ref_nil _, HL5.out, hid ⟨Int.le_refl _, by simp, by simpa using IsWord.nil m us ad 0⟩, HX.out.step HE5.out⟩
  case round =>
    clear R1 R2 R3 Q1 Q2 HL5 HW3 HW5 HX HE5
    obtain ⟨j, T0, b, P, q, c, b1, A1, k1, c1, b2, A2, k2, c2, b3, A3, k3, c3, hj, rfl, hr1, hr2, hr3, hr4, hr5, hvt, hlr, HAT, hex⟩ := hrel
    have R1 := hid hr1
    have R2 := hid hr2
    have R3 := hid hr3
    have R4 := hid hr4
    have R5 := hid hr5
    have VT := hid hvt
    have LR := hid hlr
    have EX := hid hex
    clear hr1 hr2 hr3 hr4 hr5 hvt hlr hex
    by_cases hlt : j < wn
    · have hjl : j < ws.length := by rw [HL.out]; exact hlt
      obtain ⟨t0, ht0, hsol, hspot, hnext⟩ := spot_of hM.out hR.out hW.out hjl HAT.out
      have HNX := hid (line_next m us ad hjl)
      have HTB := hid (take_B hM.out hW.out (Nat.le_of_lt hjl) (us := us) (ad := ad))
      have hfD := fits_pow (us := us) (ad := ad) hM.out hW.out (Nat.le_of_lt hjl)
      have hfD1 := fits_pow (us := us) (ad := ad) hM.out hW.out (j := j + 1) (by omega)
      have hDe : (lineI m us ad (ws.take j)).2.2 = m ^ j := by rw [lineI_div, List.length_take]; congr 1; omega
      have hfl := HTB.out.fits hM.out (by omega) (r := 0) (by omega) (by omega)
      have hDp : 0 < m ^ j := Int.pow_pos (by omega)
      obtain ⟨⟨M, A0, D⟩, hLI⟩ : ∃ x, lineI m us ad (ws.take j) = x := ⟨_, rfl⟩
      rw [hLI] at hsol hspot hnext hDe hfl
      have HLI := hid hLI
      have HLR : Hid (LineR wr (.agg #[.bool b1, .slice A1 k1 c1, .bool b2, .slice A2 k2 c2, .bool b3, .slice A3 k3 c3]) (M, A0, D)) := hid (by rw [← hLI]; exact LR.out)
      simp only at hDe
      rw [← hDe] at hspot hnext hfD hDp
      have hjD : m ^ (j + 1) = D * m := by rw [Int.pow_succ, hDe]
      obtain ⟨rr, hrr⟩ : ∃ rr, ws.getD j 0 = rr := ⟨_, rfl⟩
      have HWR := hid (word_at hW.out hjl)
      rw [hrr] at hsol hnext HWR HNX
      have HRR := hid hrr
      obtain ⟨oo, hoo⟩ : ∃ oo, orbN m us ad j T0 = oo := ⟨_, rfl⟩
      rw [hoo] at hsol hspot hnext
      have HSOL := hid hsol
      have HSPOT := hid hspot
      have HNEXT := hid hnext
      have HFD := hid hfD
      have HFD1 := hid hfD1
      have HFM := hid hfl.1
      have HFA := hid hfl.2.1
      have HT0 := hid ht0
      have HDP := hid hDp
      have HDE := hid hDe
      obtain ⟨bw, ow, ew, -, hcw⟩ := HWD.out.atI (k := j) hjl
      subst ew
      rw [hrr] at hcw
      have HCW : Hid (∀ W', Ext w W' → W'.cell? ⟨bw, ow + j, none⟩ = some (.int .i64 rr)) := hid (by
        intro W' e
        obtain ⟨b2, o2, e2, -, h2⟩ := (HWD.out.ext e).atI (k := j) hjl
        cases e2
        rw [hrr] at h2
        exact h2)
      have i0 : (0 : Int) ≤ (j : Int) := by omega
      have i1 : (j : Int) < (wn : Int) := by omega
      clear hfl hsol hspot hnext hfD hfD1 ht0 hDp hDe hrr hoo hLI hcw hjl
      go_wp2_with fail
      go_loopg [9, 10] t0 (fun g _ _ wr => ∃ (t : Nat) (b : Bool) (P : Option Addr) (q c : Nat), t ≤ t0 ∧ g = t0 - t ∧ Row wr w.heap.size 24 [.int .i64 m, .slice A n cc, .slice B n2 d] ∧ Row wr (w.heap.size + 1) 36 [.bool false, .slice none 0 0] ∧ Row wr (w.heap.size + 1 + 1) 36 [.bool false, .slice none 0 0] ∧ Row wr HR 36 [.bool b, .slice P q c] ∧ Row wr (HR + 1) 49 [.bool b1, .slice A1 k1 c1, .bool b2, .slice A2 k2 c2, .bool b3, .slice A3 k3 c3] ∧ RefV wr (.agg #[.bool b, .slice P q c]) (T0 + (t : Int) * D) ∧ LineR wr (.agg #[.bool b1, .slice A1 k1 c1, .bool b2, .slice A2 k2 c2, .bool b3, .slice A3 k3 c3]) (M, A0, D) ∧ Ext w wr)
      case atStart => exact ⟨0, b, P, q, c, by omega, by omega, R1.out, R2.out, R3.out, R4.out, R5.out, by rw [show T0 + ((0 : Nat) : Int) * D = T0 by simp]; exact VT.out, HLR.out, EX.out⟩
      case round =>
        clear R1 R2 R3 R4 R5 VT LR HLR EX
        obtain ⟨t, b, P, q, c, ht, rfl, hr1, hr2, hr3, hr4, hr5, hvt, hlr, hex⟩ := hrel
        have R1 := hid hr1
        have R2 := hid hr2
        have R3 := hid hr3
        have R4 := hid hr4
        have R5 := hid hr5
        have LR := hid hlr
        have EX := hid hex
        have htm : (t : Int) < m := by have := HT0.out; omega
        obtain ⟨hE, hT0, hT1⟩ := HSPOT.out t htm
        obtain ⟨T, hT⟩ : ∃ T, T0 + (t : Int) * D = T := ⟨_, rfl⟩
        rw [hT] at hE hT0 hT1 hvt
        have HTE := hid hT
        have VT := hid hvt
        have HTP := hid hT0
        have HTL := hid hT1
        have hfT : K.fits T := Nat.lt_of_lt_of_le (show T.natAbs < (m ^ (j + 1)).natAbs by omega) (Nat.le_of_lt HFD1.out)
        have HFT := hid hfT
        obtain ⟨Q, hQ⟩ : ∃ Q, oo + (t : Int) * M = Q := ⟨_, rfl⟩
        rw [hQ] at hE
        have HQE := hid hQ
        have HEQ := hid hE
        have hNB : (M * T + A0).natAbs ≤ BIG := lin_big HFM.out HFT.out HFA.out
        have HNB := hid hNB
        have HBV : Hid (M.natAbs ≤ BIG ∧ T.natAbs ≤ BIG ∧ (M * T).natAbs ≤ BIG ∧ A0.natAbs ≤ BIG) := hid ⟨fits_big HFM.out, fits_big hfT, mulF_big HFM.out hfT, fits_big HFA.out⟩
        obtain ⟨dn, hdn⟩ := Int.eq_ofNat_of_zero_le (show 0 ≤ D by have := HDP.out; omega)
        have HDN := hid hdn
        have HD0 := hid (show 0 < dn by have := HDP.out; omega)
        have HDB := hid (show dn ≤ BIG by have := fits_big HFD.out; omega)
        obtain ⟨e1, E1, f1, g1, e2, E2, f2, g2, e3, E3, f3, g3, he, hl1, hl2, hl3⟩ := id hlr
        cases he
        have HL1 := hid hl1
        have HL2 := hid hl2
        have HL3 : Hid (RefV wr (.agg #[.bool b3, .slice A3 k3 c3]) (dn : Int)) := hid (by rw [← hdn]; exact hl3)
        have HS : Hid (∀ W', Ext wr W' → W'.cell? ⟨HR, 0, none⟩ = some (.bool b) ∧ W'.cell? ⟨HR, 1, none⟩ = some (.slice P q c) ∧ W'.cell? ⟨HR + 1, 0, none⟩ = some (.bool b1) ∧ W'.cell? ⟨HR + 1, 1, none⟩ = some (.slice A1 k1 c1) ∧ W'.cell? ⟨HR + 1, 2, none⟩ = some (.bool b2) ∧ W'.cell? ⟨HR + 1, 3, none⟩ = some (.slice A2 k2 c2) ∧ W'.cell? ⟨HR + 1, 4, none⟩ = some (.bool b3) ∧ W'.cell? ⟨HR + 1, 5, none⟩ = some (.slice A3 k3 c3)) := hid (by
          intro W' e
          obtain ⟨p0, p1, -, -⟩ := row_facts (R4.out.ext e)
          obtain ⟨⟨q0, q1, q2, q3, q4, q5⟩, -⟩ := row_facts6 (R5.out.ext e)
          exact ⟨p0, p1, q0, q1, q2, q3, q4, q5⟩)
        have hcur : Ext wr wr := Ext.rfl' _
        clear hr1 hr2 hr3 hr4 hr5 hvt hlr hex hE hT0 hT1 hT hQ hfT hNB hdn hl1 hl2 hl3
        go_upto_region 5 with fail
        go_cut [9] (fun sx wx => ∃ (g : Nat) (b : Bool) (P : Option Addr) (k c : Nat), sx = .pointer (some ⟨g, 0, none⟩) ∧ Row wx g 36 [.bool b, .slice P k c] ∧ RefV wx (.agg #[.bool b, .slice P k c]) Q ∧ Ext wr wx)
        case first =>
          clear HV HWD HL R1 R2 R3 R4 R5 LR EX HAT HNX HTB HLI HSOL HSPOT HNEXT HFD HFD1 HFM HFA HT0 HDP HDE HCW HTE HTP HTL HFT HQE HWR HRR hM hW hR
          go_region_held3 (fun W' => W'.cell? ⟨HR, 0, none⟩ = some (.bool b) ∧ W'.cell? ⟨HR, 1, none⟩ = some (.slice P q c) ∧ W'.cell? ⟨HR + 1, 0, none⟩ = some (.bool b1) ∧ W'.cell? ⟨HR + 1, 1, none⟩ = some (.slice A1 k1 c1) ∧ W'.cell? ⟨HR + 1, 2, none⟩ = some (.bool b2) ∧ W'.cell? ⟨HR + 1, 3, none⟩ = some (.slice A2 k2 c2) ∧ W'.cell? ⟨HR + 1, 4, none⟩ = some (.bool b3) ∧ W'.cell? ⟨HR + 1, 5, none⟩ = some (.slice A3 k3 c3))
            (first | (with_reducible exact HS.out _ hcur) | (with_reducible exact HS.out _ hcur.drew') | (refine HS.out _ ?_; (repeat (first | (with_reducible exact hcur) | (with_reducible refine Ext.alloc' ?_ _) | (with_reducible refine Ext.drew' ?_) | (with_reducible refine Ext.set' ?_ ?_ _))); all_goals (first | exact HBA.out.1 | exact HBB.out.1 | (have := hcur.size; simp; omega))) | go_keep)
            (first
              | (go_at_call 80; refine (value_any b1 b2 b3 b A1 A2 A3 P k1 k2 k3 q c1 c2 c3 c M A0 T _ (HL1.out.ext ?_) (HL2.out.ext ?_) (VT.out.ext ?_) HBV).mono ?_; (first | exact hcur | exact hcur.drew' | exact hcur.alloc' _ | exact (hcur.alloc' _).alloc' _ | exact hcur.drew'.alloc' _ | exact (hcur.drew'.alloc' _).alloc' _ | exact (hcur.alloc' _).drew' | exact ((hcur.alloc' _).alloc' _).drew'); (first | exact hcur | exact hcur.drew' | exact hcur.alloc' _ | exact (hcur.alloc' _).alloc' _ | exact hcur.drew'.alloc' _ | exact (hcur.drew'.alloc' _).alloc' _ | exact (hcur.alloc' _).drew' | exact ((hcur.alloc' _).alloc' _).drew'); (first | exact hcur | exact hcur.drew' | exact hcur.alloc' _ | exact (hcur.alloc' _).alloc' _ | exact hcur.drew'.alloc' _ | exact (hcur.drew'.alloc' _).alloc' _ | exact (hcur.alloc' _).drew' | exact ((hcur.alloc' _).alloc' _).drew'); rintro e w20 ⟨v20, rfl, hv20, hx⟩; (first | (have HBA := hid (HBA.out.ext hx); have HBB := hid (HBB.out.ext hx)) | (have HBB := hid ((NB.new hcur.size).ext hx); have HNE := hid (HBA.out.lt); have HBA := hid (HBA.out.ext (Ext.step ((Ext.rfl' _).alloc' _) hx))) | (have HBA := hid (HBA.out.ext hx)) | (have HBA := hid ((NB.two1 hcur.size).ext hx); have HBB := hid ((NB.two2 hcur.size).ext hx); have HNE := hid (NB.two_lt hcur.size)) | (have HBA := hid ((NB.two1D hcur.size).ext hx); have HBB := hid ((NB.two2D hcur.size).ext hx); have HNE := hid (NB.two_lt hcur.size)) | (have HBA := hid ((NB.new hcur.size).ext hx)) | (have HBA := hid ((NB.newD hcur.size).ext hx)) | skip); have hcur := Ext.step hcur (by first | exact hx | exact Ext.undrew hx | exact Ext.step ((Ext.rfl' _).alloc' _) hx | exact Ext.step (((Ext.rfl' _).alloc' _).alloc' _) hx | exact Ext.step ((Ext.rfl' _).drew'.alloc' _) hx | exact Ext.step (((Ext.rfl' _).drew'.alloc' _).alloc' _) hx); have HV20 := hid hv20; obtain ⟨A20, k20, c20, xs20, b20, rfl, -⟩ := hv20; (first | (have hyy := row_facts HBA.out.2; obtain ⟨y0, y1, y2, y3⟩ := hyy; have n1 := HBA.out.ne; have n2 := HBA.out.ne'; have z0 := fun o => (row_facts (HBA.out.2.alloc o)).1; have z1 := fun o => (row_facts (HBA.out.2.alloc o)).2.1; have z2 := fun o => (row_facts (HBA.out.2.alloc o)).2.2.1; have z3 := fun o => (row_facts (HBA.out.2.alloc o)).2.2.2) | skip); (first | (have hxx := row_facts HBB.out.2; obtain ⟨x0, x1, x2, x3⟩ := hxx; have n3 := HBB.out.ne; have n4 := HBB.out.ne'; have n5 := Nat.ne_of_lt HNE.out; have n6 := (Nat.ne_of_lt HNE.out).symm) | skip))
              | (go_at_call 33; refine (rdiv_any _ _ (M * T + A0) dn _ (HV20.out.ext ?_) (HL3.out.ext ?_) HNB.out HDB.out HD0.out).mono ?_; (first | exact Ext.rfl' _ | exact (Ext.rfl' _).drew' | exact (Ext.rfl' _).alloc' _ | exact ((Ext.rfl' _).alloc' _).alloc' _); (first | exact hcur | exact hcur.drew' | exact hcur.alloc' _ | exact (hcur.alloc' _).alloc' _ | exact hcur.drew'.alloc' _ | exact (hcur.drew'.alloc' _).alloc' _ | exact (hcur.alloc' _).drew' | exact ((hcur.alloc' _).alloc' _).drew'); rintro e w21 ⟨v25, v26, rfl, hq, hr, hx⟩; (first | (have HBA := hid (HBA.out.ext hx); have HBB := hid (HBB.out.ext hx)) | (have HBB := hid ((NB.new hcur.size).ext hx); have HNE := hid (HBA.out.lt); have HBA := hid (HBA.out.ext (Ext.step ((Ext.rfl' _).alloc' _) hx))) | (have HBA := hid (HBA.out.ext hx)) | (have HBA := hid ((NB.two1 hcur.size).ext hx); have HBB := hid ((NB.two2 hcur.size).ext hx); have HNE := hid (NB.two_lt hcur.size)) | (have HBA := hid ((NB.two1D hcur.size).ext hx); have HBB := hid ((NB.two2D hcur.size).ext hx); have HNE := hid (NB.two_lt hcur.size)) | (have HBA := hid ((NB.new hcur.size).ext hx)) | (have HBA := hid ((NB.newD hcur.size).ext hx)) | skip); have hcur := Ext.step hcur (by first | exact hx | exact Ext.undrew hx | exact Ext.step ((Ext.rfl' _).alloc' _) hx | exact Ext.step (((Ext.rfl' _).alloc' _).alloc' _) hx | exact Ext.step ((Ext.rfl' _).drew'.alloc' _) hx | exact Ext.step (((Ext.rfl' _).drew'.alloc' _).alloc' _) hx); have HQ := hid hq; obtain ⟨A25, k25, c25, xs25, b25, rfl, -⟩ := hq; obtain ⟨A26, k26, c26, xs26, b26, rfl, -⟩ := hr; (first | (have hyy := row_facts HBA.out.2; obtain ⟨y0, y1, y2, y3⟩ := hyy; have n1 := HBA.out.ne; have n2 := HBA.out.ne'; have z0 := fun o => (row_facts (HBA.out.2.alloc o)).1; have z1 := fun o => (row_facts (HBA.out.2.alloc o)).2.1; have z2 := fun o => (row_facts (HBA.out.2.alloc o)).2.2.1; have z3 := fun o => (row_facts (HBA.out.2.alloc o)).2.2.2) | skip); (first | (have hxx := row_facts HBB.out.2; obtain ⟨x0, x1, x2, x3⟩ := hxx; have n3 := HBB.out.ne; have n4 := HBB.out.ne'; have n5 := Nat.ne_of_lt HNE.out; have n6 := (Nat.ne_of_lt HNE.out).symm) | skip)))
          all_goals
            have HQ2 : Hid (RefV w21 (.agg #[.bool b25, .slice A25 k25 c25]) Q) := hid (by
              have h := HQ.out
              rwa [← HDN.out, HEQ.out, Int.mul_ediv_cancel_left _ (by have := HD0.out; have := HDN.out; omega)] at h)
            go_wp2_with fail
            go_meet
            refine ⟨_, b25, A25, k25, c25, rfl, ?_, HQ2.out.kept ?_, ?_⟩
            · first
                | (with_reducible exact Row.alloc (Row.new w21 _ [.bool b25, .slice A25 k25 c25]) _)
                | (with_reducible exact Row.new2 w21 _ _ [.bool b25, .slice A25 k25 c25])
                | (with_reducible exact Row.far2 (Row.put2 (Row.alloc (NB.row HBA.out) _)) (Nat.ne_of_lt HBA.out.lt))
                | (with_reducible exact Row.far2 (Row.put2 (NB.row HBA.out)) (Nat.ne_of_lt HNE.out))
                | (with_reducible exact Row.far2 (Row.new w21 _ [.bool b25, .slice A25 k25 c25]) (Nat.ne_of_lt HBA.out.lt).symm)
                | (with_reducible exact Row.far2 (Row.put2 (NB.row HBB.out)) (Nat.ne_of_lt HNE.out).symm)
            · (repeat (first | (with_reducible exact KeepRd.rfl' _) | (with_reducible refine KeepRd.allocN ?_) | (with_reducible refine KeepRd.setN ?_ ?_)))
              all_goals (repeat (first | (with_reducible exact HBA.out.noInt) | (with_reducible exact HBB.out.noInt) | (with_reducible exact NoIntB.newN _ _ _ _ _ _) | (with_reducible refine NoIntB.setB ?_) | (with_reducible refine NoIntB.setS ?_) | (with_reducible refine NoIntB.allocN ?_)))
            · (repeat (first | (with_reducible exact hcur) | (with_reducible refine Ext.alloc' ?_ _) | (with_reducible refine Ext.set' ?_ ?_ _)))
              all_goals (first | exact HBA.out.1 | exact HBB.out.1 | (have := hcur.size; simp; omega))
        case rest =>
          obtain ⟨g9, b9, P9, q9, c9, rfl, hrow, hvq, hex⟩ := hcut
          have B9 := hid hrow
          have VQ := hid hvq
          have E9 := hid hex
          have HQB : Hid (Q.natAbs ≤ BIG) := hid (by
            have h1 : (D * Q).natAbs ≤ BIG := by rw [← HEQ.out]; exact HNB.out
            rw [Int.natAbs_mul] at h1
            exact Nat.le_trans (Nat.le_mul_of_pos_left _ (by have := HDP.out; omega)) h1)
          obtain ⟨qm, hqm⟩ : ∃ qm, Q % m = qm := ⟨_, rfl⟩
          have HQM := hid hqm
          clear hcur hrow hvq hex hqm HS
          have HS : Hid (∀ W', Ext wc W' → W'.cell? ⟨w.heap.size, 0, none⟩ = some (.int .i64 m) ∧ W'.cell? ⟨w.heap.size, 1, none⟩ = some (.slice A n cc) ∧ W'.cell? ⟨w.heap.size, 2, none⟩ = some (.slice B n2 d) ∧ W'.cell? ⟨g9, 0, none⟩ = some (.bool b9) ∧ W'.cell? ⟨g9, 1, none⟩ = some (.slice P9 q9 c9) ∧ W'.cell? ⟨bw, ow + j, none⟩ = some (.int .i64 rr)) := hid (by
            intro W' e
            obtain ⟨p0, p1, p2, -, -, -⟩ := row_facts3 (R1.out.ext (E9.out.step e))
            obtain ⟨q0, q1, -, -⟩ := row_facts (B9.out.ext e)
            exact ⟨p0, p1, p2, q0, q1, HCW.out _ (EX.out.step (E9.out.step e))⟩)
          have hcur : Ext wc wc := Ext.rfl' _
          go_upto_region 6 with fail
          by_cases hq : qm = rr
          case pos =>
            obtain rfl := hq.symm
            go_region_held3 (fun W' => W'.cell? ⟨w.heap.size, 0, none⟩ = some (.int .i64 m) ∧ W'.cell? ⟨w.heap.size, 1, none⟩ = some (.slice A n cc) ∧ W'.cell? ⟨w.heap.size, 2, none⟩ = some (.slice B n2 d) ∧ W'.cell? ⟨g9, 0, none⟩ = some (.bool b9) ∧ W'.cell? ⟨g9, 1, none⟩ = some (.slice P9 q9 c9) ∧ W'.cell? ⟨bw, ow + j, none⟩ = some (.int .i64 rr))
              (first | (with_reducible exact HS.out _ hcur) | (with_reducible exact HS.out _ hcur.drew') | go_keep)
              (first
                | (go_at_call 51; refine (rest2_s _ _ m Q us ad _ (HV.out.ext ((EX.out.step E9.out).step ?_)) (VQ.out.ext ?_) HQB.out hm1 hm2 HQM).mono ?_; (first | exact hcur | exact hcur.drew' | exact hcur.alloc' _ | exact hcur.drew'.alloc' _ | exact (hcur.alloc' _).drew'); (first | exact hcur | exact hcur.drew' | exact hcur.alloc' _ | exact hcur.drew'.alloc' _ | exact (hcur.alloc' _).drew'); rintro e w22 ⟨rfl, hx⟩; have hcur := Ext.step hcur (by first | exact hx | exact Ext.undrew hx | exact Ext.step ((Ext.rfl' _).alloc' _) hx | exact Ext.step ((Ext.rfl' _).drew'.alloc' _) hx)))
            all_goals
              have E22 := hid (E9.out.step hcur)
              have R1 := hid (R1.out.ext E22.out)
              have R2 := hid (R2.out.ext E22.out)
              have R3 := hid (R3.out.ext E22.out)
              have R4 := hid (R4.out.ext E22.out)
              have R5 := hid (R5.out.ext E22.out)
              have VT := hid (VT.out.ext E22.out)
              have LR := hid (LR.out.ext E22.out)
              have EX := hid (EX.out.step E22.out)
              have HRT : Hid (RestAt m us ad ws (j + 1) T) := hid (by
                have := HNEXT.out t htm (by rw [HQE.out]; exact HQM.out)
                rwa [HTE.out] at this)
              clear hcur HS B9 VQ E9 HQB HQM HBV HNB HEQ HQE HTE HTP HTL HFT HDN HD0 HDB HL1 HL2 HL3 HSOL HSPOT HNEXT HFD HFD1 HFM HFA HDP HDE HT0
              obtain ⟨⟨y0, y1, y2, y3, y4, y5⟩, z0, z1, z2, z3, z4, z5⟩ := row_facts6 R5.out
              obtain ⟨f0, f1, f2, -, -, -⟩ := row_facts3 R1.out
              have hcw := HCW.out _ EX.out
              have hcur : Ext w22 w22 := Ext.rfl' _
              go_upto_region 8 with fail
              go_region_with (go_at_call 62; refine (then_any _ _ m rr us ad (M, A0, D) j _ (HV.out.ext (EX.out.step ?_)) hM (LR.out.ext ?_) (hid (by rw [← HLI.out]; exact HTB.out)) (by omega) HWR.out.1 HWR.out.2).mono ?_; (first | exact hcur | exact hcur.drew' | exact hcur.alloc' _ | exact hcur.drew'.alloc' _ | exact (hcur.alloc' _).drew'); (first | exact hcur | exact hcur.drew' | exact hcur.alloc' _ | exact hcur.drew'.alloc' _ | exact (hcur.alloc' _).drew'); rintro e w6 ⟨v6, rfl, hv6, hx⟩; have hcur := Ext.step hcur (by first | exact hx | exact Ext.undrew hx | exact Ext.step ((Ext.rfl' _).alloc' _) hx | exact Ext.step ((Ext.rfl' _).drew'.alloc' _) hx); have HV6 := hid hv6; obtain ⟨p1, P1, q1, d1, p2, P2, q2, d2, p3, P3, q3, d3, rfl, -⟩ := hv6; obtain ⟨⟨y0, y1, y2, y3, y4, y5⟩, z0, z1, z2, z3, z4, z5⟩ := row_facts6 (R5.out.ext hcur))
              all_goals
                have rl := R5.out.ext hcur
                have HFIN : Hid (∀ WF, WF = (((((((w6.setCell ⟨HR + 1, 0, none⟩ (.bool p1)).setCell ⟨HR + 1, 1, none⟩ (.slice P1 q1 d1)).setCell ⟨HR + 1, 2, none⟩ (.bool p2)).setCell ⟨HR + 1, 3, none⟩ (.slice P2 q2 d2)).setCell ⟨HR + 1, 4, none⟩ (.bool p3)).setCell ⟨HR + 1, 5, none⟩ (.slice P3 q3 d3))) → ∃ (jn : Nat) (T : Int) (b : Bool) (P : Option Addr) (q c : Nat) (b1 : Bool) (A1 : Option Addr) (k1 c1 : Nat) (b2 : Bool) (A2 : Option Addr) (k2 c2 : Nat) (b3 : Bool) (A3 : Option Addr) (k3 c3 : Nat), jn ≤ wn ∧ Value.int .i64 ((j : Int) + 1) = .int .i64 (jn : Int) ∧ Row WF w.heap.size 24 [.int .i64 m, .slice A n cc, .slice B n2 d] ∧ Row WF (w.heap.size + 1) 36 [.bool false, .slice none 0 0] ∧ Row WF (w.heap.size + 1 + 1) 36 [.bool false, .slice none 0 0] ∧ Row WF HR 36 [.bool b, .slice P q c] ∧ Row WF (HR + 1) 49 [.bool b1, .slice A1 k1 c1, .bool b2, .slice A2 k2 c2, .bool b3, .slice A3 k3 c3] ∧ RefV WF (.agg #[.bool b, .slice P q c]) T ∧ LineR WF (.agg #[.bool b1, .slice A1 k1 c1, .bool b2, .slice A2 k2 c2, .bool b3, .slice A3 k3 c3]) (lineI m us ad (ws.take jn)) ∧ Hid (RestAt m us ad ws jn T) ∧ Ext w WF) := hid (by
                  rintro WF rfl
                  have ho : Off w6 _ (HR + 1) := Off.six (w3 := w6) (H := HR + 1) (a := .bool p1) (b := .slice P1 q1 d1) (c := .bool p2) (d := .slice P2 q2 d2) (e := .bool p3) (f := .slice P3 q3 d3)
                  have hk := ho.keep rl (no_int6 _ _ _ _ _ _ _ _ _ _ _ _)
                  refine ⟨j + 1, T, b, P, q, c, p1, P1, q1, d1, p2, P2, q2, d2, p3, P3, q3, d3, by omega, by simp, ho.row (R1.out.ext hcur) (by have := HGT.out; omega), ho.row (R2.out.ext hcur) (by have := HGT.out; omega), ho.row (R3.out.ext hcur) (by have := HGT.out; omega), ho.row (R4.out.ext hcur) (by omega), rl.put6, (VT.out.ext hcur).kept hk, ?_, HRT, (EX.out.step hcur).set6 (by have := HGT.out; omega)⟩
                  rw [HNX.out, HLI.out]
                  exact LineR.over rl HV6.out)
                clear rl hcur
                go_wp2
                go_roundw
                case rel => exact HFIN.out _ rfl
                case measure => first | (simp [intOf]; done) | (simp [intOf]; omega)
          case neg =>
            have q1 : (qm == rr) = false := beq_eq_false_iff_ne.2 hq
            have q2 : (qm != rr) = true := by rw [bne, q1]; rfl
            have HLT : Hid (t < t0) := hid (by
              rcases Nat.lt_or_ge t t0 with h | h
              · exact h
              · obtain rfl : t = t0 := by omega
                exact absurd (by rw [← HQM.out, ← HQE.out]; exact HSOL.out) hq)
            go_region_held3 (fun W' => W'.cell? ⟨w.heap.size, 0, none⟩ = some (.int .i64 m) ∧ W'.cell? ⟨w.heap.size, 1, none⟩ = some (.slice A n cc) ∧ W'.cell? ⟨w.heap.size, 2, none⟩ = some (.slice B n2 d) ∧ W'.cell? ⟨g9, 0, none⟩ = some (.bool b9) ∧ W'.cell? ⟨g9, 1, none⟩ = some (.slice P9 q9 c9) ∧ W'.cell? ⟨bw, ow + j, none⟩ = some (.int .i64 rr))
              (first | (with_reducible exact HS.out _ hcur) | (with_reducible exact HS.out _ hcur.drew') | go_keep)
              (first
                | (go_at_call 51; refine (rest2_s _ _ m Q us ad _ (HV.out.ext ((EX.out.step E9.out).step ?_)) (VQ.out.ext ?_) HQB.out hm1 hm2 HQM).mono ?_; (first | exact hcur | exact hcur.drew' | exact hcur.alloc' _ | exact hcur.drew'.alloc' _ | exact (hcur.alloc' _).drew'); (first | exact hcur | exact hcur.drew' | exact hcur.alloc' _ | exact hcur.drew'.alloc' _ | exact (hcur.alloc' _).drew'); rintro e w22 ⟨rfl, hx⟩; have hcur := Ext.step hcur (by first | exact hx | exact Ext.undrew hx | exact Ext.step ((Ext.rfl' _).alloc' _) hx | exact Ext.step ((Ext.rfl' _).drew'.alloc' _) hx)))
            all_goals
              have E22 := hid (E9.out.step hcur)
              have R1 := hid (R1.out.ext E22.out)
              have R2 := hid (R2.out.ext E22.out)
              have R3 := hid (R3.out.ext E22.out)
              have R4 := hid (R4.out.ext E22.out)
              have R5 := hid (R5.out.ext E22.out)
              have VT := hid (VT.out.ext E22.out)
              have LR := hid (LR.out.ext E22.out)
              have EX := hid (EX.out.step E22.out)
              have HL3 := hid (show RefV w22 (.agg #[.bool b3, .slice A3 k3 c3]) D by rw [HDN.out]; exact HL3.out.ext E22.out)
              clear hcur HS B9 VQ E9 HQB HQM HBV HNB HEQ HQE HTL HDN HD0 HL1 HL2 HSOL HSPOT HNEXT HFD1 HFM HFA HDP HDE HT0 HNX HTB HLI HWR HRR HCW
              obtain ⟨⟨y0, y1, y2, y3, y4, y5⟩, -⟩ := row_facts6 R5.out
              obtain ⟨x0, x1, x2, x3⟩ := row_facts R4.out
              go_wp2_with fail
              refine (radd_any _ _ T D w22 VT.out HL3.out (fits_big HFT.out) (fits_big HFD.out)).mono ?_
              rintro e w23 ⟨v23, rfl, hv23, hx⟩
              have HV23 := hid hv23
              have H23 := hid hx
              obtain ⟨A23, k23, c23, xs23, b23, rfl, -⟩ := hv23
              have HFIN : Hid (∀ WF, WF = ((w23.setCell ⟨HR, 0, none⟩ (.bool b23)).setCell ⟨HR, 1, none⟩ (.slice A23 k23 c23)) → ∃ (tn : Nat) (b : Bool) (P : Option Addr) (q c : Nat), tn ≤ t0 ∧ t0 - (t + 1) = t0 - tn ∧ Row WF w.heap.size 24 [.int .i64 m, .slice A n cc, .slice B n2 d] ∧ Row WF (w.heap.size + 1) 36 [.bool false, .slice none 0 0] ∧ Row WF (w.heap.size + 1 + 1) 36 [.bool false, .slice none 0 0] ∧ Row WF HR 36 [.bool b, .slice P q c] ∧ Row WF (HR + 1) 49 [.bool b1, .slice A1 k1 c1, .bool b2, .slice A2 k2 c2, .bool b3, .slice A3 k3 c3] ∧ RefV WF (.agg #[.bool b, .slice P q c]) (T0 + (tn : Int) * D) ∧ LineR WF (.agg #[.bool b1, .slice A1 k1 c1, .bool b2, .slice A2 k2 c2, .bool b3, .slice A3 k3 c3]) (M, A0, D) ∧ Ext w WF) := hid (by
                rintro WF rfl
                have hgt := HGT.out
                have r4 := R4.out.ext H23.out
                have hk : KeepRd w23 ((w23.setCell ⟨HR, 0, none⟩ (.bool b23)).setCell ⟨HR, 1, none⟩ (.slice A23 k23 c23)) := (((Off.rfl' w23 HR).set 0 (.bool b23)).set 1 (.slice A23 k23 c23)).keep r4 (no_int2 _ _ _ _)
                have hlt := HLT.out
                refine ⟨t + 1, b23, A23, k23, c23, by omega, rfl, Row.far2 (R1.out.ext H23.out) (by omega), Row.far2 (R2.out.ext H23.out) (by omega), Row.far2 (R3.out.ext H23.out) (by omega), Row.put2 r4, Row.far2 (R5.out.ext H23.out) (by omega), ?_, (LR.out.ext H23.out).kept hk, ((EX.out.step H23.out).set' (by show w.heap.size ≤ HR; omega) _).set' (by show w.heap.size ≤ HR; omega) _⟩
                have e1 : T0 + ((t + 1 : Nat) : Int) * D = T + D := by rw [← HTE.out, Int.natCast_add, Int.add_mul]; omega
                rw [e1]
                exact HV23.out.kept hk)
              have HMEAS : Hid (t0 - (t + 1) < t0 - t) := hid (by have := HLT.out; omega)
              clear y0 y1 y2 y3 y4 y5 x0 x1 x2 x3 hx
              obtain ⟨x0, x1, x2, x3⟩ := row_facts (R4.out.ext H23.out)
              go_wp2
              go_roundg (t0 - (t + 1))
              case measure => exact HMEAS.out
              case rel => exact HFIN.out _ rfl
    · obtain rfl : j = wn := by omega
      have HTK := hid (show ws.take j = ws from by rw [← HL.out, List.take_length])
      obtain ⟨e1, E1, f1, g1, e2, E2, f2, g2, e3, E3, f3, g3, he, -, -, hl3⟩ := id LR.out
      cases he
      have hdv : (lineI m us ad (ws.take j)).2.2 = m ^ j := by rw [HTK.out, lineI_div, HL.out]
      rw [hdv] at hl3
      have HD3 := hid hl3
      have PA := hid (pair_put R2.out R3.out (by omega) EX.out (by omega) (by omega) VT.out hl3 (.bool b) (.slice P q c) (.bool b3) (.slice A3 k3 c3))
      have PB := hid (pair_put R3.out R2.out (by omega) EX.out (by omega) (by omega) VT.out hl3 (.bool b3) (.slice A3 k3 c3) (.bool b) (.slice P q c))
      obtain ⟨⟨y0, y1, y2, y3, y4, y5⟩, -⟩ := row_facts6 R5.out
      obtain ⟨x0, x1, -, -⟩ := row_facts R4.out
      obtain ⟨s0, s1, s2, s3⟩ := row_facts R2.out
      obtain ⟨r0, r1, r2, r3⟩ := row_facts R3.out
      clear hl3 hdv
      go_upto_region 9 with fail
      go_region_with fail
      all_goals
        go_wp2
        refine bodyPost_ret (v := .tuple #[.agg #[.bool b, .slice P q c], .agg #[.bool b3, .slice A3 k3 c3]]) (by simp [results, Tryz.results29, go_sem, s0, s1, r0, r1]) rfl ?_
        first
          | (with_reducible exact ⟨T0, _, _, rfl, PA.out.1, PA.out.2.1, HAT.out, PA.out.2.2⟩)
          | (with_reducible exact ⟨T0, _, _, rfl, PB.out.1, PB.out.2.1, HAT.out, PB.out.2.2⟩)
          | (with_reducible exact ⟨T0, _, _, rfl, PA.out.1.ext ((Ext.rfl' _).drew'), PA.out.2.1.ext ((Ext.rfl' _).drew'), HAT.out, PA.out.2.2.drew'⟩)
          | (with_reducible exact ⟨T0, _, _, rfl, PB.out.1.ext ((Ext.rfl' _).drew'), PB.out.2.1.ext ((Ext.rfl' _).drew'), HAT.out, PB.out.2.2.drew'⟩)
end Go.Proofs.YtlfbgemceeibiaaGreatDoor
