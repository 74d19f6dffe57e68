/- Joined texts: the reckoner of package word; words and their linear maps: plain mathematics; word.check; word.lineOfNoStep, lineOfStep, the function literal of Line; the function literal of word.Line. -/
import Derived.Test.YtleccblkafcidaaGreatDoorJG05
import Derived.Test.YtleccblkafcidaaGreatDoorJG12
import Derived.Test.YtleccblkafcidaaGreatDoorJG10
import Derived.Test.YtleccblkafcidaaGreatDoorJG11
import Derived.Test.YtleccblkafcidaaGreatDoorJG06
import Derived.Deep.DeepCutAuto
set_option linter.unusedSimpArgs false
set_option linter.unusedVariables false
/- the reckoner of package word -/
namespace Go.Proofs.YtleccblkafcidaaGreatDoor
open Go.RowKit
theorem Row.same {w : World} {g : Nat} {t : TypeId} {v : Value} (h : Row w g t [v]) : Ext w (w.setCell ⟨g, 0, none⟩ v) := by
  refine ⟨rfl, rfl, rfl, by rw [World.size_setCell]; exact Nat.le_refl _, fun j hj => ?_⟩
  by_cases e : j = g
  · subst e
    exact (h.set 0 v : Row _ _ _ [v]).trans h.symm
  · exact Below.heap_setCell w ⟨g, 0, none⟩ v j (by show j ≠ g; exact e)
def NoteW (g : Nat) (f c : Int) (w : World) : World := if f = 0 then w.setCell ⟨g, 0, none⟩ (.int .i64 c) else w
set_option maxRecDepth 100000 in
set_option maxHeartbeats 800000 in
theorem note_any (g : Nat) (s : ByteArray) (c f : Int) (w : World) (hr : Row w g 193 [.int .i64 f]) :
    Calls Tryz.prog 194 #[.pointer (some ⟨g, 0, none⟩), .string s, .int .i64 c] w (fun e w' => e = .returned (.string s) ∧ w' = NoteW g f c w) := by
  have c0 : w.cell? ⟨g, 0, none⟩ = some (.int .i64 f) := hr.cell 0
  have f0 := hr.free 0
  by_cases h : f = 0
  · subst h
    go_enter Tryz.func194, Tryz.ntmps194
    go_wp2
    go_ret
    exact ⟨rfl, rfl⟩
  · have hf : (f == 0) = false := by rw [beq_eq_false_iff_ne]; exact h
    have HN : Hid (NoteW g f c w = w) := hid (if_neg h)
    go_enter Tryz.func194, Tryz.ntmps194
    go_wp2
    go_ret
    exact ⟨rfl, HN.out.symm⟩
/-- what an operation of the reckoner leaves -/
def RecGen (r : Int) (f : Int) (g : Nat) (w0 : World) (e : Ending) (w' : World) : Prop :=
  ∃ (l : List UInt8) (f' : Int), e = .returned (.string (Str l)) ∧ Row w' g 193 [.int .i64 f'] ∧ (f' = 0 ∨ f' = 3) ∧ Hid (l.length ≤ 2001 ∧ (f = 0 → (K.fits r → f' = 0 ∧ l = K.txt r) ∧ (¬ K.fits r → f' = 3)) ∧ (f = 3 → f' = 3)) ∧ Ext w0 w'
def RecOk (r : Int) (w : World) (e : Ending) (w' : World) : Prop := e = .returned (.string (Str (K.txt r))) ∧ Ext w w'
theorem NoteW.row {g : Nat} {f c : Int} {w : World} (hr : Row w g 193 [.int .i64 f]) : Row (NoteW g f c w) g 193 [.int .i64 (if f = 0 then c else f)] := by
  unfold NoteW
  by_cases h : f = 0
  · rw [if_pos h, if_pos h]; exact hr.set 0 _
  · rw [if_neg h, if_neg h]; exact hr
theorem NoteW.ext {g : Nat} {f c : Int} {w w0 : World} (e : Ext w0 w) (hg : w0.heap.size ≤ g) : Ext w0 (NoteW g f c w) := by
  unfold NoteW
  by_cases h : f = 0
  · rw [if_pos h]; exact e.set' (by show _ ≤ g; exact hg) _
  · rw [if_neg h]; exact e
set_option maxRecDepth 100000 in
set_option maxHeartbeats 800000 in
theorem times_call (g : Nat) (a b : List UInt8) (f : Int) (w : World) (hr : Row w g 193 [.int .i64 f]) (s : ByteArray) (c : Int) {Q : World → Prop} (hc : Hid (Calls Tryz.prog 123 #[.string (Str a), .string (Str b)] w (fun e w' => e = .returned (.tuple #[.string s, .int .i64 c]) ∧ Ext w w'))) :
    Calls Tryz.prog 148 #[.pointer (some ⟨g, 0, none⟩), .string (Str a), .string (Str b)] w (fun e w' => e = .returned (.string s) ∧ ∃ w1, Ext w w1 ∧ w' = NoteW g f c w1) := by
  have HR := hid hr
  clear hr
  go_enter Tryz.func148, Tryz.ntmps148
  go_wp2_with fail
  refine hc.out.mono ?_
  rintro e w1 ⟨rfl, hx1⟩
  have HX := hid hx1
  clear hx1
  go_wp2_with fail
  refine (note_any g s c f w1 (HR.out.ext HX.out)).mono ?_
  rintro e w2 ⟨rfl, rfl⟩
  go_wp2
  go_ret
  exact ⟨rfl, w1, HX.out, rfl⟩
theorem times_ok (g : Nat) (a b : List UInt8) (w : World) (hr : Row w g 193 [.int .i64 0]) (va : K.validL a = true) (vb : K.validL b = true) (hf : K.fits (K.numL a * K.numL b)) (ht : Tab w) :
    Calls Tryz.prog 148 #[.pointer (some ⟨g, 0, none⟩), .string (Str a), .string (Str b)] w (RecOk (K.numL a * K.numL b) w) := by
  refine (times_call (Q := fun _ => True) g a b 0 w hr (Str (K.txt (K.numL a * K.numL b))) 0 (hid ((mul_ok a b w (len_of (valid_len va)) (len_of (valid_len vb)) va vb ht).mono fun e w' h => ⟨h.1 hf, h.2.2⟩))).mono ?_
  rintro e w' ⟨rfl, w1, hx, rfl⟩
  exact ⟨rfl, hx.step (by unfold NoteW; rw [if_pos rfl]; exact (hr.ext hx).same)⟩
theorem times_gen (g : Nat) (a b : List UInt8) (f : Int) (w0 w : World) (he : Ext w0 w) (hg : w0.heap.size ≤ g) (hr : Row w g 193 [.int .i64 f]) (hf : f = 0 ∨ f = 3) (la : a.length ≤ 2001) (lb : b.length ≤ 2001) (hv : Hid (f = 0 → K.validL a = true ∧ K.validL b = true)) (ht : Tab w) :
    Calls Tryz.prog 148 #[.pointer (some ⟨g, 0, none⟩), .string (Str a), .string (Str b)] w (RecGen (K.numL a * K.numL b) f g w0) := by
  have main : ∀ (l : List UInt8) (c : Int), Calls Tryz.prog 123 #[.string (Str a), .string (Str b)] w (fun e w' => e = .returned (.tuple #[.string (Str l), .int .i64 c]) ∧ Ext w w') →
      l.length ≤ 2001 → ((if f = 0 then c else f) = 0 ∨ (if f = 0 then c else f) = 3) → (f = 0 → (K.fits (K.numL a * K.numL b) → c = 0 ∧ l = K.txt (K.numL a * K.numL b)) ∧ (¬ K.fits (K.numL a * K.numL b) → c = 3)) →
      Calls Tryz.prog 148 #[.pointer (some ⟨g, 0, none⟩), .string (Str a), .string (Str b)] w (RecGen (K.numL a * K.numL b) f g w0) := by
    intro l c hc hl h3 h0
    refine (times_call (Q := fun _ => True) g a b f w hr (Str l) c (hid hc)).mono ?_
    rintro e w' ⟨rfl, w1, hx, rfl⟩
    refine ⟨l, _, rfl, NoteW.row (hr.ext hx), h3, hid ⟨hl, fun hz => ?_, fun hz => ?_⟩, NoteW.ext (he.step hx) hg⟩
    · rw [if_pos hz]; exact h0 hz
    · rw [if_neg (by omega)]; exact hz
  by_cases hval : K.validL a = true ∧ K.validL b = true
  · by_cases hfit : K.fits (K.numL a * K.numL b)
    · refine main (K.txt (K.numL a * K.numL b)) 0 ((mul_ok a b w (len_of la) (len_of lb) hval.1 hval.2 ht).mono fun e w' h => ⟨h.1 hfit, h.2.2⟩) (K.txt_len _ hfit) ?_ (fun _ => ⟨fun _ => ⟨rfl, rfl⟩, fun h => absurd hfit h⟩)
      split
      · exact .inl rfl
      · exact hf
    · refine main [] 3 ((mul_ok a b w (len_of la) (len_of lb) hval.1 hval.2 ht).mono fun e w' h => ⟨h.2.1 hfit, h.2.2⟩) (by simp) ?_ (fun _ => ⟨fun h => absurd h hfit, fun _ => rfl⟩)
      split
      · exact .inr rfl
      · exact hf
  · have hf0 : f ≠ 0 := fun e => hval (hv.out e)
    have hbad : K.validL a = false ∨ K.validL b = false := by
      cases h1 : K.validL a
      · exact .inl rfl
      · cases h2 : K.validL b
        · exact .inr rfl
        · exact absurd ⟨h1, h2⟩ hval
    refine main [] 1 ((mul_bad a b w (len_of la) (len_of lb) hbad).mono fun e w' h => h) (by simp) ?_ (fun e => absurd e hf0)
    rw [if_neg hf0]; exact hf
set_option maxRecDepth 100000 in
set_option maxHeartbeats 800000 in
theorem plus_call (g : Nat) (a b : List UInt8) (f : Int) (w : World) (hr : Row w g 193 [.int .i64 f]) (s : ByteArray) (c : Int) {Q : World → Prop} (hc : Hid (Calls Tryz.prog 195 #[.string (Str a), .string (Str b)] w (fun e w' => e = .returned (.tuple #[.string s, .int .i64 c]) ∧ Ext w w'))) :
    Calls Tryz.prog 149 #[.pointer (some ⟨g, 0, none⟩), .string (Str a), .string (Str b)] w (fun e w' => e = .returned (.string s) ∧ ∃ w1, Ext w w1 ∧ w' = NoteW g f c w1) := by
  have HR := hid hr
  clear hr
  go_enter Tryz.func149, Tryz.ntmps149
  go_wp2_with fail
  refine hc.out.mono ?_
  rintro e w1 ⟨rfl, hx1⟩
  have HX := hid hx1
  clear hx1
  go_wp2_with fail
  refine (note_any g s c f w1 (HR.out.ext HX.out)).mono ?_
  rintro e w2 ⟨rfl, rfl⟩
  go_wp2
  go_ret
  exact ⟨rfl, w1, HX.out, rfl⟩
theorem plus_ok (g : Nat) (a b : List UInt8) (w : World) (hr : Row w g 193 [.int .i64 0]) (va : K.validL a = true) (vb : K.validL b = true) (hf : K.fits (K.numL a + K.numL b)) (ht : Tab w) :
    Calls Tryz.prog 149 #[.pointer (some ⟨g, 0, none⟩), .string (Str a), .string (Str b)] w (RecOk (K.numL a + K.numL b) w) := by
  refine (plus_call (Q := fun _ => True) g a b 0 w hr (Str (K.txt (K.numL a + K.numL b))) 0 (hid ((add_ok a b w (len_of (valid_len va)) (len_of (valid_len vb)) va vb ht).mono fun e w' h => ⟨h.1 hf, h.2.2⟩))).mono ?_
  rintro e w' ⟨rfl, w1, hx, rfl⟩
  exact ⟨rfl, hx.step (by unfold NoteW; rw [if_pos rfl]; exact (hr.ext hx).same)⟩
theorem plus_gen (g : Nat) (a b : List UInt8) (f : Int) (w0 w : World) (he : Ext w0 w) (hg : w0.heap.size ≤ g) (hr : Row w g 193 [.int .i64 f]) (hf : f = 0 ∨ f = 3) (la : a.length ≤ 2001) (lb : b.length ≤ 2001) (hv : Hid (f = 0 → K.validL a = true ∧ K.validL b = true)) (ht : Tab w) :
    Calls Tryz.prog 149 #[.pointer (some ⟨g, 0, none⟩), .string (Str a), .string (Str b)] w (RecGen (K.numL a + K.numL b) f g w0) := by
  have main : ∀ (l : List UInt8) (c : Int), Calls Tryz.prog 195 #[.string (Str a), .string (Str b)] w (fun e w' => e = .returned (.tuple #[.string (Str l), .int .i64 c]) ∧ Ext w w') →
      l.length ≤ 2001 → ((if f = 0 then c else f) = 0 ∨ (if f = 0 then c else f) = 3) → (f = 0 → (K.fits (K.numL a + K.numL b) → c = 0 ∧ l = K.txt (K.numL a + K.numL b)) ∧ (¬ K.fits (K.numL a + K.numL b) → c = 3)) →
      Calls Tryz.prog 149 #[.pointer (some ⟨g, 0, none⟩), .string (Str a), .string (Str b)] w (RecGen (K.numL a + K.numL b) f g w0) := by
    intro l c hc hl h3 h0
    refine (plus_call (Q := fun _ => True) g a b f w hr (Str l) c (hid hc)).mono ?_
    rintro e w' ⟨rfl, w1, hx, rfl⟩
    refine ⟨l, _, rfl, NoteW.row (hr.ext hx), h3, hid ⟨hl, fun hz => ?_, fun hz => ?_⟩, NoteW.ext (he.step hx) hg⟩
    · rw [if_pos hz]; exact h0 hz
    · rw [if_neg (by omega)]; exact hz
  by_cases hval : K.validL a = true ∧ K.validL b = true
  · by_cases hfit : K.fits (K.numL a + K.numL b)
    · refine main (K.txt (K.numL a + K.numL b)) 0 ((add_ok a b w (len_of la) (len_of lb) hval.1 hval.2 ht).mono fun e w' h => ⟨h.1 hfit, h.2.2⟩) (K.txt_len _ hfit) ?_ (fun _ => ⟨fun _ => ⟨rfl, rfl⟩, fun h => absurd hfit h⟩)
      split
      · exact .inl rfl
      · exact hf
    · refine main [] 3 ((add_ok a b w (len_of la) (len_of lb) hval.1 hval.2 ht).mono fun e w' h => ⟨h.2.1 hfit, h.2.2⟩) (by simp) ?_ (fun _ => ⟨fun h => absurd h hfit, fun _ => rfl⟩)
      split
      · exact .inr rfl
      · exact hf
  · have hf0 : f ≠ 0 := fun e => hval (hv.out e)
    have hbad : K.validL a = false ∨ K.validL b = false := by
      cases h1 : K.validL a
      · exact .inl rfl
      · cases h2 : K.validL b
        · exact .inr rfl
        · exact absurd ⟨h1, h2⟩ hval
    refine main [] 1 ((add_bad a b w (len_of la) (len_of lb) hbad).mono fun e w' h => h) (by simp) ?_ (fun e => absurd e hf0)
    rw [if_neg hf0]; exact hf
set_option maxRecDepth 100000 in
set_option maxHeartbeats 800000 in
theorem minus_call (g : Nat) (a b : List UInt8) (f : Int) (w : World) (hr : Row w g 193 [.int .i64 f]) (s : ByteArray) (c : Int) {Q : World → Prop} (hc : Hid (Calls Tryz.prog 119 #[.string (Str a), .string (Str b)] w (fun e w' => e = .returned (.tuple #[.string s, .int .i64 c]) ∧ Ext w w'))) :
    Calls Tryz.prog 206 #[.pointer (some ⟨g, 0, none⟩), .string (Str a), .string (Str b)] w (fun e w' => e = .returned (.string s) ∧ ∃ w1, Ext w w1 ∧ w' = NoteW g f c w1) := by
  have HR := hid hr
  clear hr
  go_enter Tryz.func206, Tryz.ntmps206
  go_wp2_with fail
  refine hc.out.mono ?_
  rintro e w1 ⟨rfl, hx1⟩
  have HX := hid hx1
  clear hx1
  go_wp2_with fail
  refine (note_any g s c f w1 (HR.out.ext HX.out)).mono ?_
  rintro e w2 ⟨rfl, rfl⟩
  go_wp2
  go_ret
  exact ⟨rfl, w1, HX.out, rfl⟩
theorem minus_ok (g : Nat) (a b : List UInt8) (w : World) (hr : Row w g 193 [.int .i64 0]) (va : K.validL a = true) (vb : K.validL b = true) (hf : K.fits (K.numL a - K.numL b)) (ht : Tab w) :
    Calls Tryz.prog 206 #[.pointer (some ⟨g, 0, none⟩), .string (Str a), .string (Str b)] w (RecOk (K.numL a - K.numL b) w) := by
  refine (minus_call (Q := fun _ => True) g a b 0 w hr (Str (K.txt (K.numL a - K.numL b))) 0 (hid ((sub_ok a b w (len_of (valid_len va)) (len_of (valid_len vb)) va vb ht).mono fun e w' h => ⟨h.1 hf, h.2.2⟩))).mono ?_
  rintro e w' ⟨rfl, w1, hx, rfl⟩
  exact ⟨rfl, hx.step (by unfold NoteW; rw [if_pos rfl]; exact (hr.ext hx).same)⟩
theorem minus_gen (g : Nat) (a b : List UInt8) (f : Int) (w0 w : World) (he : Ext w0 w) (hg : w0.heap.size ≤ g) (hr : Row w g 193 [.int .i64 f]) (hf : f = 0 ∨ f = 3) (la : a.length ≤ 2001) (lb : b.length ≤ 2001) (hv : Hid (f = 0 → K.validL a = true ∧ K.validL b = true)) (ht : Tab w) :
    Calls Tryz.prog 206 #[.pointer (some ⟨g, 0, none⟩), .string (Str a), .string (Str b)] w (RecGen (K.numL a - K.numL b) f g w0) := by
  have main : ∀ (l : List UInt8) (c : Int), Calls Tryz.prog 119 #[.string (Str a), .string (Str b)] w (fun e w' => e = .returned (.tuple #[.string (Str l), .int .i64 c]) ∧ Ext w w') →
      l.length ≤ 2001 → ((if f = 0 then c else f) = 0 ∨ (if f = 0 then c else f) = 3) → (f = 0 → (K.fits (K.numL a - K.numL b) → c = 0 ∧ l = K.txt (K.numL a - K.numL b)) ∧ (¬ K.fits (K.numL a - K.numL b) → c = 3)) →
      Calls Tryz.prog 206 #[.pointer (some ⟨g, 0, none⟩), .string (Str a), .string (Str b)] w (RecGen (K.numL a - K.numL b) f g w0) := by
    intro l c hc hl h3 h0
    refine (minus_call (Q := fun _ => True) g a b f w hr (Str l) c (hid hc)).mono ?_
    rintro e w' ⟨rfl, w1, hx, rfl⟩
    refine ⟨l, _, rfl, NoteW.row (hr.ext hx), h3, hid ⟨hl, fun hz => ?_, fun hz => ?_⟩, NoteW.ext (he.step hx) hg⟩
    · rw [if_pos hz]; exact h0 hz
    · rw [if_neg (by omega)]; exact hz
  by_cases hval : K.validL a = true ∧ K.validL b = true
  · by_cases hfit : K.fits (K.numL a - K.numL b)
    · refine main (K.txt (K.numL a - K.numL b)) 0 ((sub_ok a b w (len_of la) (len_of lb) hval.1 hval.2 ht).mono fun e w' h => ⟨h.1 hfit, h.2.2⟩) (K.txt_len _ hfit) ?_ (fun _ => ⟨fun _ => ⟨rfl, rfl⟩, fun h => absurd hfit h⟩)
      split
      · exact .inl rfl
      · exact hf
    · refine main [] 3 ((sub_ok a b w (len_of la) (len_of lb) hval.1 hval.2 ht).mono fun e w' h => ⟨h.2.1 hfit, h.2.2⟩) (by simp) ?_ (fun _ => ⟨fun h => absurd h hfit, fun _ => rfl⟩)
      split
      · exact .inr rfl
      · exact hf
  · have hf0 : f ≠ 0 := fun e => hval (hv.out e)
    have hbad : K.validL a = false ∨ K.validL b = false := by
      cases h1 : K.validL a
      · exact .inl rfl
      · cases h2 : K.validL b
        · exact .inr rfl
        · exact absurd ⟨h1, h2⟩ hval
    refine main [] 1 ((sub_bad a b w (len_of la) (len_of lb) hbad).mono fun e w' h => h) (by simp) ?_ (fun e => absurd e hf0)
    rw [if_neg hf0]; exact hf
end Go.Proofs.YtleccblkafcidaaGreatDoor
/- words and their linear maps: plain mathematics; word.check -/
namespace Go.Proofs.YtleccblkafcidaaGreatDoor
open Go.RowKit
/-- a word of a map -/
def wordB (m : Int) (ws : List Int) : Bool := decide (ws.length ≤ 200) && ws.all fun r => decide (0 ≤ r ∧ r < m)
theorem wordB_iff {m : Int} {ws : List Int} : wordB m ws = true ↔ ws.length ≤ 200 ∧ ∀ r ∈ ws, 0 ≤ r ∧ r < m := by
  unfold wordB; simp
/-- the linear map of a word and one rest more -/
def thenL (m : Int) (us ad : List Int) (l : Int × Int × Int) (r : Int) : Int × Int × Int := (us.getD r.toNat 0 * l.1, us.getD r.toNat 0 * l.2.1 + ad.getD r.toNat 0 * l.2.2, l.2.2 * m)
def lineI (m : Int) (us ad : List Int) (ws : List Int) : Int × Int × Int := ws.foldl (thenL m us ad) (1, 0, 1)
theorem lineI_snoc (m : Int) (us ad : List Int) (ws : List Int) (r : Int) : lineI m us ad (ws ++ [r]) = thenL m us ad (lineI m us ad ws) r := by
  unfold lineI; rw [List.foldl_append]; rfl
theorem rule_of {m : Int} {us ad : List Int} (h : mapP m us ad) {r : Int} (h0 : 0 ≤ r) (h1 : r < m) : 1 ≤ us.getD r.toNat 0 ∧ us.getD r.toNat 0 ≤ 999 ∧ -999999 ≤ ad.getD r.toNat 0 ∧ ad.getD r.toNat 0 ≤ 999999 ∧ r.toNat < us.length ∧ r.toNat < ad.length := by
  have l1 : r.toNat < us.length := by have := h.2.2.1; omega
  have l2 : r.toNat < ad.length := by have := h.2.2.2.1; omega
  have hh := h.2.2.2.2 _ l1
  exact ⟨hh.1, hh.2.1, hh.2.2.1, hh.2.2.2.1, l1, l2⟩
/-- the numbers of a word's linear map are small -/
def LineB (k : Nat) (l : Int × Int × Int) : Prop := l.1.natAbs ≤ 1000 ^ k ∧ l.2.2.natAbs ≤ 1000 ^ k ∧ l.2.1.natAbs ≤ k * 1000000 * 1000 ^ k ∧ 1 ≤ l.2.2
theorem LineB.next {m : Int} {us ad : List Int} (hM : mapP m us ad) {k : Nat} {l : Int × Int × Int} (h : LineB k l) {r : Int} (h0 : 0 ≤ r) (h1 : r < m) : LineB (k + 1) (thenL m us ad l r) := by
  obtain ⟨u1, u2, a1, a2, -, -⟩ := rule_of hM h0 h1
  obtain ⟨b1, b2, b3, b4⟩ := h
  have hm1 := hM.1
  have hm2 := hM.2.1
  unfold thenL
  generalize us.getD r.toNat 0 = u at *
  generalize ad.getD r.toNat 0 = a at *
  obtain ⟨x, y, z⟩ := l
  simp only at b1 b2 b3 b4 ⊢
  have hp : 1000 ^ (k + 1) = 1000 * 1000 ^ k := by rw [Nat.pow_succ, Nat.mul_comm]
  generalize hP : 1000 ^ k = P at *
  have e1 : (u * x).natAbs ≤ 999 * P := by rw [Int.natAbs_mul]; exact Nat.mul_le_mul (by omega) b1
  have e2 : (z * m).natAbs ≤ P * 12 := by rw [Int.natAbs_mul]; exact Nat.mul_le_mul b2 (by omega)
  have e3 : (u * y).natAbs ≤ 999 * (k * 1000000 * P) := by rw [Int.natAbs_mul]; exact Nat.mul_le_mul (by omega) b3
  have e4 : (a * z).natAbs ≤ 999999 * P := by rw [Int.natAbs_mul]; exact Nat.mul_le_mul (by omega) b2
  have e5 : (u * y + a * z).natAbs ≤ (u * y).natAbs + (a * z).natAbs := Int.natAbs_add_le _ _
  refine ⟨by show (u * x).natAbs ≤ _; rw [hp]; omega, by show (z * m).natAbs ≤ _; rw [hp]; omega, ?_, ?_⟩
  · show (u * y + a * z).natAbs ≤ _
    rw [hp]
    have e6 : (k + 1) * 1000000 * (1000 * P) = 1000 * (k * 1000000 * P) + 1000000 * (1000 * P) := by
      rw [Nat.add_mul, Nat.add_mul, Nat.one_mul]
      congr 1
      rw [Nat.mul_left_comm]
    rw [e6]
    obtain ⟨R, hR⟩ : ∃ R, k * 1000000 * P = R := ⟨_, rfl⟩
    rw [hR] at e3 ⊢
    clear e6 hR b3 hP hp
    omega
  · show 1 ≤ z * m
    have : 1 * 1 ≤ z * m := Int.mul_le_mul b4 (by omega) (by omega) (by omega)
    omega
theorem LineB.zero : LineB 0 (1, 0, 1) := ⟨by simp, by simp, by simp, by simp⟩
theorem lineI_B {m : Int} {us ad : List Int} (hM : mapP m us ad) (ws : List Int) (hw : ∀ r ∈ ws, 0 ≤ r ∧ r < m) : LineB ws.length (lineI m us ad ws) := by
  obtain ⟨k, hk⟩ : ∃ k, ws.length = k := ⟨_, rfl⟩
  rw [hk]
  induction k generalizing ws with
  | zero => rw [List.eq_nil_of_length_eq_zero hk]; exact LineB.zero
  | succ k ih =>
    rcases List.eq_nil_or_concat ws with rfl | ⟨p, r, rfl⟩
    · simp at hk
    · rw [List.concat_eq_append] at *
      rw [lineI_snoc]
      have hr := hw r (by simp)
      exact (ih p (fun x hx => hw x (by simp [hx])) (by simpa using hk)).next hM hr.1 hr.2
theorem thousand_pw (k : Nat) : 1000 ^ k = K.pw (3 * k) := by
  unfold K.pw; rw [Nat.pow_mul]
theorem fits_pw {x : Int} {a b : Nat} (h : x.natAbs ≤ a * K.pw b) (ha : a < K.pw 12) (hb : b ≤ 1900) : K.fits x := by
  have h1 : a * K.pw b < K.pw 12 * K.pw b := Nat.mul_lt_mul_of_pos_right ha (K.pw_pos b)
  have h2 : K.pw 12 * K.pw b = K.pw (12 + b) := (Nat.pow_add 10 12 b).symm
  have h3 : K.pw (12 + b) ≤ K.pw 2000 := K.pw_mono (by omega)
  show x.natAbs < K.LIM
  unfold K.LIM
  omega
theorem pw12 : K.pw 12 = 1000000000000 := by decide
/-- all numbers that are met on the way of a line fit -/
theorem LineB.fits {m : Int} {us ad : List Int} (hM : mapP m us ad) {k : Nat} {l : Int × Int × Int} (h : LineB k l) (hk : k ≤ 200) {r : Int} (h0 : 0 ≤ r) (h1 : r < m) :
    K.fits l.1 ∧ K.fits l.2.1 ∧ K.fits l.2.2 ∧ K.fits (l.1 * us.getD r.toNat 0) ∧ K.fits (l.2.1 * us.getD r.toNat 0) ∧ K.fits (ad.getD r.toNat 0 * l.2.2) ∧ K.fits (l.2.1 * us.getD r.toNat 0 + ad.getD r.toNat 0 * l.2.2) ∧ K.fits (l.2.2 * m) := by
  obtain ⟨u1, u2, a1, a2, -, -⟩ := rule_of hM h0 h1
  have hn := LineB.next hM h h0 h1
  obtain ⟨b1, b2, b3, b4⟩ := h
  obtain ⟨n1, n2, n3, n4⟩ := hn
  have hm1 := hM.1
  have hm2 := hM.2.1
  unfold thenL at n1 n2 n3 n4
  simp only at n1 n2 n3 n4
  rw [show us.getD r.toNat 0 * l.2.1 = l.2.1 * us.getD r.toNat 0 from Int.mul_comm _ _] at n3
  generalize us.getD r.toNat 0 = u at *
  generalize ad.getD r.toNat 0 = a at *
  obtain ⟨x, y, z⟩ := l
  simp only at *
  rw [thousand_pw] at *
  have e1 : (x * u).natAbs ≤ 999 * K.pw (3 * k) := by rw [Int.mul_comm, Int.natAbs_mul]; exact Nat.mul_le_mul (by omega) b1
  have e3 : (y * u).natAbs ≤ 999 * (k * 1000000 * K.pw (3 * k)) := by rw [Int.mul_comm, Int.natAbs_mul]; exact Nat.mul_le_mul (by omega) b3
  have e4 : (a * z).natAbs ≤ 999999 * K.pw (3 * k) := by rw [Int.natAbs_mul]; exact Nat.mul_le_mul (by omega) b2
  refine ⟨fits_pw (a := 1) (b := 3 * k) (by omega) (by rw [pw12]; omega) (by omega), fits_pw (a := k * 1000000) (b := 3 * k) b3 (by rw [pw12]; omega) (by omega), fits_pw (a := 1) (b := 3 * k) (by omega) (by rw [pw12]; omega) (by omega), fits_pw (a := 999) (b := 3 * k) e1 (by rw [pw12]; omega) (by omega), fits_pw (a := 999 * (k * 1000000)) (b := 3 * k) (by rw [Nat.mul_assoc]; exact e3) (by rw [pw12]; omega) (by omega), fits_pw (a := 999999) (b := 3 * k) e4 (by rw [pw12]; omega) (by omega), fits_pw (a := (k + 1) * 1000000) (b := 3 * (k + 1)) n3 (by rw [pw12]; omega) (by omega), fits_pw (a := 1) (b := 3 * (k + 1)) (by omega) (by rw [pw12]; omega) (by omega)⟩
set_option maxRecDepth 100000 in
set_option maxHeartbeats 1600000 in
theorem wcheck_any (v : Value) (m : Int) (us ad : List Int) (Wd : Option Addr) (wn wc : Nat) (ws : List Int) (w : World) (hv : MapV w v m us ad) (hw : Rd w Wd (Is ws)) (hl : ws.length = wn) (hwb : wn ≤ 140737488351232) {b1 b2 : Bool} (hb1 : Hid (mapB m us ad = b1)) (hb2 : Hid (wordB m ws = b2)) {c : Int} (hc : Hid (c = if b1 = true then (if b2 = true then 0 else 2) else 1)) :
    Calls Tryz.prog 145 #[v, .slice Wd wn wc] w (fun e w' => e = .returned (.int .i64 c) ∧ Ext w w') := by
  have HV := hid hv
  obtain ⟨A, n, cc, B, n2, d, rfl, -⟩ := hv
  have hx : Ext w (w.alloc (.cells #[.int .i64 m, .slice A n cc, .slice B n2 d] 24)) := (Ext.rfl' w).alloc' _
  have hrw : Row (w.alloc (.cells #[.int .i64 m, .slice A n cc, .slice B n2 d] 24)) w.heap.size 24 [.int .i64 m, .slice A n cc, .slice B n2 d] := Row.new w _ _
  obtain ⟨W1, hW1⟩ : ∃ W1, (w.alloc (.cells #[.int .i64 m, .slice A n cc, .slice B n2 d] 24)) = W1 := ⟨_, rfl⟩
  rw [hW1] at hx hrw
  have HX := hid hx
  have HR := hid hrw
  have HW1 := hid hW1
  have HWD := hid (hw.ext hx)
  have HL := hid hl
  have wn63 : wn ≤ 9223372036854775807 := by omega
  obtain ⟨f0, f1, f2, -, -, -⟩ := row_facts3 hrw
  clear hW1 hx hrw hw hl
  cases b1 with
  | false =>
    obtain rfl : c = 1 := hc.out
    go_enter Tryz.func145, Tryz.ntmps145
    go_upto_region 1 with fail
    rw [HW1.out]
    go_wp2_with fail
    refine (stepvalid_any _ m us ad W1 (HV.out.ext HX.out) hb1).mono ?_
    rintro e w2 ⟨rfl, hx2⟩
    have HY := hid (HX.out.step hx2)
    clear f0 f1 f2 hx2
    go_wp2
    go_ret
    exact ⟨rfl, HY.out⟩
  | true =>
    have HC : Hid (c = if b2 = true then 0 else 2) := hid hc.out
    clear hc
    by_cases hlen : wn ≤ 200
    · have hlz : ¬ (200 : Int) < (wn : Int) := by omega
      go_enter Tryz.func145, Tryz.ntmps145
      go_upto_region 1 with fail
      rw [HW1.out]
      go_wp2_with fail
      refine (stepvalid_any _ m us ad W1 (HV.out.ext HX.out) hb1).mono ?_
      rintro e w2 ⟨rfl, hx2⟩
      have HX2 := hid hx2
      clear f0 f1 f2 hx2
      go_wp2_with fail
      go_loopw [15] (fun iz wr => ∃ j : Nat, j ≤ wn ∧ iz = .int .i64 (j : Int) ∧ Hid (∀ i, i < j → 0 ≤ ws.getD i 0 ∧ ws.getD i 0 < m) ∧ Ext w2 wr) (fun iz _ => wn - (intOf iz).toNat)
      case atStart => exact ⟨0, by omega, rfl, hid (fun i hi => by omega), Ext.rfl' _⟩
      case round =>
        obtain ⟨j, hj, rfl, HALL, hex⟩ := hrel
        have HEX := hid hex
        have HEW := hid (HX.out.step (HX2.out.step hex))
        obtain ⟨f0, f1, f2, -, -, -⟩ := row_facts3 (HR.out.ext (HX2.out.step HEX.out))
        clear hex
        by_cases hlt : j < wn
        · obtain ⟨b3, o3, e3, -, hc3⟩ := (HWD.out.ext (HX2.out.step HEX.out)).atI (k := j) (by rw [HL.out]; exact hlt)
          subst e3
          have hjn : (j : Int) < (wn : Int) := by omega
          obtain ⟨r, hr⟩ : ∃ r, ws.getD j 0 = r := ⟨_, rfl⟩
          rw [hr] at hc3
          have HRR := hid hr
          clear hr
          have HMEM : Hid (r ∈ ws) := hid (by rw [← HRR.out, List.getD_eq_getElem?_getD, List.getElem?_eq_getElem (by rw [HL.out]; exact hlt)]; exact List.getElem_mem _)
          by_cases hr0 : r < 0
          · have HB : Hid (b2 = false) := hid (by rw [← hb2.out]; exact Bool.eq_false_iff.2 (fun h => by have := (wordB_iff.1 h).2 r HMEM.out; omega))
            have HC2 : Hid (c = 2) := hid (by rw [HC.out, HB.out]; rfl)
            go_wp2
            go_ret
            exact ⟨by rw [HC2.out]; rfl, HEW.out⟩
          · by_cases hrm : m ≤ r
            · have HB : Hid (b2 = false) := hid (by rw [← hb2.out]; exact Bool.eq_false_iff.2 (fun h => by have := (wordB_iff.1 h).2 r HMEM.out; omega))
              have HC2 : Hid (c = 2) := hid (by rw [HC.out, HB.out]; rfl)
              go_wp2
              go_ret
              exact ⟨by rw [HC2.out]; rfl, HEW.out⟩
            · have HNX : Hid (∀ i, i < j + 1 → 0 ≤ ws.getD i 0 ∧ ws.getD i 0 < m) := hid (fun i hi => by
                rcases Nat.lt_or_ge i j with h | h
                · exact HALL.out i h
                · obtain rfl : i = j := by omega
                  rw [HRR.out]; omega)
              go_wp2
              go_roundw
              case rel => exact ⟨j + 1, by omega, by simp, HNX, HEX.out⟩
              case measure => first | (simp [intOf]; done) | (simp [intOf]; omega)
        · obtain rfl : j = wn := by omega
          have HB : Hid (b2 = true) := hid (by
            rw [← hb2.out]
            refine wordB_iff.2 ⟨by rw [HL.out]; exact hlen, fun r hr => ?_⟩
            obtain ⟨i, hi, rfl⟩ := List.getElem_of_mem hr
            have := HALL.out i (by rw [HL.out] at hi; exact hi)
            rwa [List.getD_eq_getElem?_getD, List.getElem?_eq_getElem hi] at this)
          have HC2 : Hid (c = 0) := hid (by rw [HC.out, HB.out]; rfl)
          go_wp2
          go_ret
          exact ⟨by rw [HC2.out]; rfl, HEW.out⟩
    · have hlz : (200 : Int) < (wn : Int) := by omega
      have HB : Hid (b2 = false) := hid (by rw [← hb2.out]; exact Bool.eq_false_iff.2 (fun h => by have := (wordB_iff.1 h).1; rw [HL.out] at this; omega))
      have HC2 : Hid (c = 2) := hid (by rw [HC.out, HB.out]; rfl)
      go_enter Tryz.func145, Tryz.ntmps145
      go_upto_region 1 with fail
      rw [HW1.out]
      go_wp2_with fail
      refine (stepvalid_any _ m us ad W1 (HV.out.ext HX.out) hb1).mono ?_
      rintro e w2 ⟨rfl, hx2⟩
      have HY := hid (HX.out.step hx2)
      clear f0 f1 f2 hx2
      go_wp2
      go_ret
      exact ⟨by rw [HC2.out]; rfl, HY.out⟩
end Go.Proofs.YtleccblkafcidaaGreatDoor
/- word.lineOfNoStep, lineOfStep, the function literal of Line -/
namespace Go.Proofs.YtleccblkafcidaaGreatDoor
open Go.RowKit
/-- a linear map as it is told -/
def lineV (l : Int × Int × Int) : Value := .agg #[.string (Str (K.txt l.1)), .string (Str (K.txt l.2.1)), .string (Str (K.txt l.2.2))]
theorem txt_one : K.txt 1 = [49] := K.txt_of_lit [49] 1 (by decide +kernel) (by decide +kernel)
theorem txt_zero2 : K.txt 0 = [48] := K.txt_of_lit [48] 0 (by decide +kernel) (by decide +kernel)
set_option maxRecDepth 100000 in
set_option maxHeartbeats 800000 in
theorem noStep_any (w : World) : Calls Tryz.prog 147 #[] w (fun e w' => e = .returned (.agg #[.string ⟨#[49]⟩, .string ⟨#[48]⟩, .string ⟨#[49]⟩]) ∧ Ext w w') := by
  have HF : Hid (Ext w (w.alloc (.cells #[.string ⟨#[49]⟩, .string ⟨#[48]⟩, .string ⟨#[49]⟩] 38))) := hid ((Ext.rfl' w).alloc' _)
  go_enter Tryz.func147, Tryz.ntmps147
  go_wp2
  refine bodyPost_ret (v := .agg #[.string ⟨#[49]⟩, .string ⟨#[48]⟩, .string ⟨#[49]⟩]) (by simp [results, Tryz.results147, go_sem]) rfl ⟨rfl, HF.out⟩
set_option maxRecDepth 100000 in
set_option maxHeartbeats 3200000 in
theorem lineOfStep_l (ba oa bb ob n cc n2 d r : Nat) (m u a : Int) (us ad : List Int) (w : World) (hra : Rd w (some ⟨ba, oa, none⟩) (Is us)) (hrb : Rd w (some ⟨bb, ob, none⟩) (Is ad)) (hn1 : us.length = n) (hn2 : ad.length = n2) (hrn : r < n) (hrn2 : r < n2) (hu : Hid (us.getD r 0 = u)) (ha : Hid (ad.getD r 0 = a))
    (hm1 : 2 ≤ m) (hm2 : m ≤ 12) (hu1 : 1 ≤ u) (hu2 : u ≤ 999) (ha1 : -999999 ≤ a) (ha2 : a ≤ 999999) (ht : Tab w) :
    Calls Tryz.prog 150 #[.agg #[.int .i64 m, .slice (some ⟨ba, oa, none⟩) n cc, .slice (some ⟨bb, ob, none⟩) n2 d], .int .i64 (r : Int)] w (fun e w' => e = .returned (lineV (u, a, m)) ∧ Ext w w') := by
  have hx : Ext w ((w.alloc (.cells #[.int .i64 m, .slice (some ⟨ba, oa, none⟩) n cc, .slice (some ⟨bb, ob, none⟩) n2 d] 24)).alloc (.cells #[.string ⟨#[]⟩, .string ⟨#[]⟩, .string ⟨#[]⟩] 38)) := ((Ext.rfl' w).alloc' _).alloc' _
  have r1 : Row ((w.alloc (.cells #[.int .i64 m, .slice (some ⟨ba, oa, none⟩) n cc, .slice (some ⟨bb, ob, none⟩) n2 d] 24)).alloc (.cells #[.string ⟨#[]⟩, .string ⟨#[]⟩, .string ⟨#[]⟩] 38)) w.heap.size 24 [.int .i64 m, .slice (some ⟨ba, oa, none⟩) n cc, .slice (some ⟨bb, ob, none⟩) n2 d] := (Row.new w _ _).alloc _
  have r2 : Row ((w.alloc (.cells #[.int .i64 m, .slice (some ⟨ba, oa, none⟩) n cc, .slice (some ⟨bb, ob, none⟩) n2 d] 24)).alloc (.cells #[.string ⟨#[]⟩, .string ⟨#[]⟩, .string ⟨#[]⟩] 38)) (w.heap.size + 1) 38 [.string ⟨#[]⟩, .string ⟨#[]⟩, .string ⟨#[]⟩] := by
    have := Row.new (w.alloc (.cells #[.int .i64 m, .slice (some ⟨ba, oa, none⟩) n cc, .slice (some ⟨bb, ob, none⟩) n2 d] 24)) 38 [.string ⟨#[]⟩, .string ⟨#[]⟩, .string ⟨#[]⟩]
    rwa [World.size_alloc] at this
  obtain ⟨W2, hW2⟩ : ∃ W2, ((w.alloc (.cells #[.int .i64 m, .slice (some ⟨ba, oa, none⟩) n cc, .slice (some ⟨bb, ob, none⟩) n2 d] 24)).alloc (.cells #[.string ⟨#[]⟩, .string ⟨#[]⟩, .string ⟨#[]⟩] 38)) = W2 := ⟨_, rfl⟩
  rw [hW2] at hx r1 r2
  have HW2 := hid hW2
  have HX := hid hx
  have R1 := hid r1
  have R2 := hid r2
  have HRA := hid hra
  have HRB := hid hrb
  have HL1 := hid hn1
  have HL2 := hid hn2
  have HT := hid (ht.ext hx)
  have HB := hid (And.intro hm1 (And.intro hm2 (And.intro hu1 (And.intro hu2 (And.intro ha1 ha2)))))
  have HSF : Hid (∀ W', Ext w W' → Row W' w.heap.size 24 [.int .i64 m, .slice (some ⟨ba, oa, none⟩) n cc, .slice (some ⟨bb, ob, none⟩) n2 d] → W'.cell? ⟨w.heap.size, 0, none⟩ = some (.int .i64 m) ∧ W'.cell? ⟨w.heap.size, 1, none⟩ = some (.slice (some ⟨ba, oa, none⟩) n cc) ∧ W'.cell? ⟨w.heap.size, 2, none⟩ = some (.slice (some ⟨bb, ob, none⟩) n2 d) ∧ W'.cell? ⟨ba, oa + r, none⟩ = some (.int .i64 u) ∧ W'.cell? ⟨bb, ob + r, none⟩ = some (.int .i64 a)) := hid (by
    intro W' e er
    obtain ⟨p0, p1, p2, -, -, -⟩ := row_facts3 er
    obtain ⟨b2, o2, e2, -, hc1⟩ := (HRA.out.ext e).atI (k := r) (by rw [HL1.out]; exact hrn)
    obtain ⟨b3, o3, e3, -, hc2⟩ := (HRB.out.ext e).atI (k := r) (by rw [HL2.out]; exact hrn2)
    cases e2
    cases e3
    rw [hu.out] at hc1
    rw [ha.out] at hc2
    exact ⟨p0, p1, p2, hc1, hc2⟩)
  have i0 : (0 : Int) ≤ (r : Int) := by omega
  have i1 : (r : Int) < (n : Int) := by omega
  have i2 : (r : Int) < (n2 : Int) := by omega
  have hcur : Ext W2 W2 := Ext.rfl' _
  obtain ⟨z0, z1, z2, z3, z4, z5⟩ := row_facts3 r2
  clear hW2 hx r1 r2 hra hrb hn1 hn2 hm1 hm2 hu1 hu2 ha1 ha2
  go_enter Tryz.func150, Tryz.ntmps150
  go_upto_region 1 with fail
  rw [HW2.out]
  go_region_held3 (fun W' => W'.cell? ⟨w.heap.size, 0, none⟩ = some (.int .i64 m) ∧ W'.cell? ⟨w.heap.size, 1, none⟩ = some (.slice (some ⟨ba, oa, none⟩) n cc) ∧ W'.cell? ⟨w.heap.size, 2, none⟩ = some (.slice (some ⟨bb, ob, none⟩) n2 d) ∧ W'.cell? ⟨ba, oa + r, none⟩ = some (.int .i64 u) ∧ W'.cell? ⟨bb, ob + r, none⟩ = some (.int .i64 a))
    (first | exact HSF.out _ (HX.out.step hcur) (R1.out.ext hcur) | exact HSF.out _ (HX.out.step hcur.drew') (R1.out.ext hcur.drew') | exact HSF.out _ ((HX.out.step hcur).set3 (by omega)) ((R1.out.ext hcur).set3 (by omega)) | go_keep)
    (first
      | (go_at_call_of 124 (Value.int IntKind.i64 u); refine (itoa_any u _ (by have := HB.out; omega) (by have := HB.out; omega) (HT.out.ext ?_)).mono ?_; (first | exact hcur | exact hcur.drew' | exact hcur.alloc' _ | exact hcur.drew'.alloc' _ | exact (hcur.alloc' _).drew'); rintro e w5 ⟨rfl, hx⟩; have hcur := Ext.step hcur (by first | exact hx | exact Ext.undrew hx | exact Ext.step ((Ext.rfl' _).alloc' _) hx | exact Ext.step ((Ext.rfl' _).drew'.alloc' _) hx); obtain ⟨z0, z1, z2, z3, z4, z5⟩ := row_facts3 (R2.out.ext hcur))
      | (go_at_call_of 124 (Value.int IntKind.i64 a); refine (itoa_any a _ (by have := HB.out; omega) (by have := HB.out; omega) (HT.out.ext ?_)).mono ?_; (first | exact hcur | exact hcur.drew' | exact hcur.alloc' _ | exact hcur.drew'.alloc' _ | exact (hcur.alloc' _).drew'); rintro e w6 ⟨rfl, hx⟩; have hcur := Ext.step hcur (by first | exact hx | exact Ext.undrew hx | exact Ext.step ((Ext.rfl' _).alloc' _) hx | exact Ext.step ((Ext.rfl' _).drew'.alloc' _) hx); obtain ⟨z0, z1, z2, z3, z4, z5⟩ := row_facts3 (R2.out.ext hcur))
      | (go_at_call_of 124 (Value.int IntKind.i64 m); refine (itoa_any m _ (by have := HB.out; omega) (by have := HB.out; omega) (HT.out.ext ?_)).mono ?_; (first | exact hcur | exact hcur.drew' | exact hcur.alloc' _ | exact hcur.drew'.alloc' _ | exact (hcur.alloc' _).drew'); rintro e w7 ⟨rfl, hx⟩; have hcur := Ext.step hcur (by first | exact hx | exact Ext.undrew hx | exact Ext.step ((Ext.rfl' _).alloc' _) hx | exact Ext.step ((Ext.rfl' _).drew'.alloc' _) hx); obtain ⟨z0, z1, z2, z3, z4, z5⟩ := row_facts3 (R2.out.ext hcur)))
  all_goals
    have HF := hid ((HX.out.step hcur).set3 (H := w.heap.size + 1) (a := .string (Str (K.txt u))) (b := .string (Str (K.txt a))) (c := .string (Str (K.txt m))) (by omega))
    clear hcur
    go_wp2
    refine bodyPost_ret (v := lineV (u, a, m)) (by simp [results, Tryz.results150, go_sem, lineV, z0, z1, z2]) rfl ⟨rfl, HF.out⟩
theorem lineOfStep_any (v : Value) (m : Int) (us ad : List Int) (r : Int) (w : World) (hv : MapV w v m us ad) (hM : Hid (mapP m us ad)) (h0 : 0 ≤ r) (h1 : r < m) (ht : Tab w) :
    Calls Tryz.prog 150 #[v, .int .i64 r] w (fun e w' => e = .returned (lineV (us.getD r.toNat 0, ad.getD r.toNat 0, m)) ∧ Ext w w') := by
  obtain ⟨u1, u2, a1, a2, l1, l2⟩ := rule_of hM.out h0 h1
  obtain ⟨A, n, cc, B, n2, d, rfl, e1, e2, e3, e4, e5, e6, -, -⟩ := hv
  obtain ⟨ba, oa, eA, -, -⟩ := e5.atI l1
  obtain ⟨bb, ob, eB, -, -⟩ := e6.atI l2
  subst eA eB
  obtain ⟨q, rfl⟩ : ∃ q : Nat, r = (q : Int) := ⟨r.toNat, by omega⟩
  rw [Int.toNat_natCast] at *
  exact lineOfStep_l ba oa bb ob n cc n2 d q m _ _ us ad w e5 e6 e1 e3 (by omega) (by omega) (hid rfl) (hid rfl) hM.out.1 hM.out.2.1 u1 u2 a1 a2 ht
end Go.Proofs.YtleccblkafcidaaGreatDoor
/- the function literal of word.Line -/
namespace Go.Proofs.YtleccblkafcidaaGreatDoor
open Go.RowKit
theorem txt_not_one {z : Int} (h : z ≠ 1) : Str (K.txt z) ≠ ⟨#[49]⟩ := by
  intro e
  have h2 : K.txt z = [49] := by
    have := congrArg (fun b : ByteArray => b.data.toList) e
    simpa [Str] using this
  rw [← txt_one] at h2
  exact h (K.txt_inj h2)
set_option maxRecDepth 100000 in
set_option maxHeartbeats 1600000 in
theorem line1_first (s0 s1 s2 : ByteArray) (p : Value) (w : World) :
    Calls Tryz.prog 146 #[.agg #[.string ⟨#[49]⟩, .string ⟨#[48]⟩, .string ⟨#[49]⟩], .agg #[.string s0, .string s1, .string s2], p] w (fun e w' => e = .returned (.agg #[.string s0, .string s1, .string s2]) ∧ Ext w w') := by
  have hx : Ext w (((w.alloc (.cells #[.string ⟨#[49]⟩, .string ⟨#[48]⟩, .string ⟨#[49]⟩] 38)).alloc (.cells #[.string s0, .string s1, .string s2] 38)).alloc (.cells #[.string ⟨#[]⟩, .string ⟨#[]⟩, .string ⟨#[]⟩] 38)) := (((Ext.rfl' w).alloc' _).alloc' _).alloc' _
  have r1 : Row (((w.alloc (.cells #[.string ⟨#[49]⟩, .string ⟨#[48]⟩, .string ⟨#[49]⟩] 38)).alloc (.cells #[.string s0, .string s1, .string s2] 38)).alloc (.cells #[.string ⟨#[]⟩, .string ⟨#[]⟩, .string ⟨#[]⟩] 38)) w.heap.size 38 [.string ⟨#[49]⟩, .string ⟨#[48]⟩, .string ⟨#[49]⟩] := ((Row.new w _ _).alloc _).alloc _
  have r2 : Row (((w.alloc (.cells #[.string ⟨#[49]⟩, .string ⟨#[48]⟩, .string ⟨#[49]⟩] 38)).alloc (.cells #[.string s0, .string s1, .string s2] 38)).alloc (.cells #[.string ⟨#[]⟩, .string ⟨#[]⟩, .string ⟨#[]⟩] 38)) (w.heap.size + 1) 38 [.string s0, .string s1, .string s2] := by
    have := (Row.new (w.alloc (.cells #[.string ⟨#[49]⟩, .string ⟨#[48]⟩, .string ⟨#[49]⟩] 38)) 38 [.string s0, .string s1, .string s2]).alloc (.cells #[.string ⟨#[]⟩, .string ⟨#[]⟩, .string ⟨#[]⟩] 38)
    rwa [World.size_alloc] at this
  have r3 : Row (((w.alloc (.cells #[.string ⟨#[49]⟩, .string ⟨#[48]⟩, .string ⟨#[49]⟩] 38)).alloc (.cells #[.string s0, .string s1, .string s2] 38)).alloc (.cells #[.string ⟨#[]⟩, .string ⟨#[]⟩, .string ⟨#[]⟩] 38)) (w.heap.size + 1 + 1) 38 [.string ⟨#[]⟩, .string ⟨#[]⟩, .string ⟨#[]⟩] := by
    have := Row.new ((w.alloc (.cells #[.string ⟨#[49]⟩, .string ⟨#[48]⟩, .string ⟨#[49]⟩] 38)).alloc (.cells #[.string s0, .string s1, .string s2] 38)) 38 [.string ⟨#[]⟩, .string ⟨#[]⟩, .string ⟨#[]⟩]
    rwa [World.size_alloc, World.size_alloc] at this
  obtain ⟨W3, hW3⟩ : ∃ W3, (((w.alloc (.cells #[.string ⟨#[49]⟩, .string ⟨#[48]⟩, .string ⟨#[49]⟩] 38)).alloc (.cells #[.string s0, .string s1, .string s2] 38)).alloc (.cells #[.string ⟨#[]⟩, .string ⟨#[]⟩, .string ⟨#[]⟩] 38)) = W3 := ⟨_, rfl⟩
  rw [hW3] at hx r1 r2 r3
  have HW3 := hid hW3
  have HX := hid hx
  have R1 := hid r1
  have R2 := hid r2
  have R3 := hid r3
  have HS : Hid (∀ W', Ext W3 W' → W'.cell? ⟨w.heap.size, 0, none⟩ = some (.string ⟨#[49]⟩) ∧ W'.cell? ⟨w.heap.size, 1, none⟩ = some (.string ⟨#[48]⟩) ∧ W'.cell? ⟨w.heap.size, 2, none⟩ = some (.string ⟨#[49]⟩) ∧ W'.cell? ⟨w.heap.size + 1, 0, none⟩ = some (.string s0) ∧ W'.cell? ⟨w.heap.size + 1, 1, none⟩ = some (.string s1) ∧ W'.cell? ⟨w.heap.size + 1, 2, none⟩ = some (.string s2)) := hid (by
    intro W' e
    obtain ⟨p0, p1, p2, -, -, -⟩ := row_facts3 (R1.out.ext e)
    obtain ⟨q0, q1, q2, -, -, -⟩ := row_facts3 (R2.out.ext e)
    exact ⟨p0, p1, p2, q0, q1, q2⟩)
  have hcur : Ext W3 W3 := Ext.rfl' _
  clear hW3 hx r1 r2 r3
  go_enter Tryz.func146, Tryz.ntmps146
  go_upto_region 1 with fail
  rw [HW3.out]
  go_region_held3 (fun W' => W'.cell? ⟨w.heap.size, 0, none⟩ = some (.string ⟨#[49]⟩) ∧ W'.cell? ⟨w.heap.size, 1, none⟩ = some (.string ⟨#[48]⟩) ∧ W'.cell? ⟨w.heap.size, 2, none⟩ = some (.string ⟨#[49]⟩) ∧ W'.cell? ⟨w.heap.size + 1, 0, none⟩ = some (.string s0) ∧ W'.cell? ⟨w.heap.size + 1, 1, none⟩ = some (.string s1) ∧ W'.cell? ⟨w.heap.size + 1, 2, none⟩ = some (.string s2))
    (first | exact HS.out _ hcur | exact HS.out _ hcur.drew' | exact HS.out _ (hcur.alloc' _) | exact HS.out _ (hcur.drew'.alloc' _) | exact HS.out _ ((hcur.set' HB2.out.1 _).set' HB2.out.1 _) | go_keep)
    (first
      | (go_at_call 147; refine (noStep_any _).mono ?_; rintro e w4 ⟨rfl, hx⟩; have hcur := Ext.step hcur (by first | exact hx | exact Ext.undrew hx | exact Ext.step ((Ext.rfl' _).alloc' _) hx | exact Ext.step ((Ext.rfl' _).drew'.alloc' _) hx)))
  all_goals
    obtain ⟨q0, q1, q2, -, -, -⟩ := row_facts3 (R2.out.ext hcur)
    obtain ⟨z0, z1, z2, z3, z4, z5⟩ := row_facts3 (R3.out.ext hcur)
    have HF := hid ((HX.out.step hcur).set3 (H := w.heap.size + 1 + 1) (a := .string s0) (b := .string s1) (c := .string s2) (by omega))
    clear hcur
    go_wp2
    refine bodyPost_ret (v := .agg #[.string s0, .string s1, .string s2]) (by simp [results, Tryz.results146, go_sem, z0, z1, z2]) rfl ⟨rfl, HF.out⟩
theorem rec_times (g : Nat) (p q : Int) (w : World) (hr : Row w g 193 [.int .i64 0]) (hf : K.fits p ∧ K.fits q ∧ K.fits (p * q)) (ht : Tab w) :
    Calls Tryz.prog 148 #[.pointer (some ⟨g, 0, none⟩), .string (Str (K.txt p)), .string (Str (K.txt q))] w (RecOk (p * q) w) := by
  have h := times_ok g (K.txt p) (K.txt q) w hr (K.valid_txt _ hf.1) (K.valid_txt _ hf.2.1) (by rw [K.numL_txt, K.numL_txt]; exact hf.2.2) ht
  rwa [K.numL_txt, K.numL_txt] at h
theorem rec_plus (g : Nat) (p q : Int) (w : World) (hr : Row w g 193 [.int .i64 0]) (hf : K.fits p ∧ K.fits q ∧ K.fits (p + q)) (ht : Tab w) :
    Calls Tryz.prog 149 #[.pointer (some ⟨g, 0, none⟩), .string (Str (K.txt p)), .string (Str (K.txt q))] w (RecOk (p + q) w) := by
  have h := plus_ok g (K.txt p) (K.txt q) w hr (K.valid_txt _ hf.1) (K.valid_txt _ hf.2.1) (by rw [K.numL_txt, K.numL_txt]; exact hf.2.2) ht
  rwa [K.numL_txt, K.numL_txt] at h
theorem rec_times_s (g : Nat) (p q : Int) (sp sq sr : ByteArray) (w : World) (hr : Row w g 193 [.int .i64 0]) (hf : K.fits p ∧ K.fits q ∧ K.fits (p * q)) (h1 : Hid (Str (K.txt p) = sp)) (h2 : Hid (Str (K.txt q) = sq)) (h3 : Hid (Str (K.txt (p * q)) = sr)) (ht : Tab w) :
    Calls Tryz.prog 148 #[.pointer (some ⟨g, 0, none⟩), .string sp, .string sq] w (fun e w' => e = .returned (.string sr) ∧ Ext w w') := by
  have h := rec_times g p q w hr hf ht
  rw [h1.out, h2.out] at h
  exact h.mono fun e w' hh => ⟨by rw [← h3.out]; exact hh.1, hh.2⟩
theorem rec_plus_s (g : Nat) (p q : Int) (sp sq sr : ByteArray) (w : World) (hr : Row w g 193 [.int .i64 0]) (hf : K.fits p ∧ K.fits q ∧ K.fits (p + q)) (h1 : Hid (Str (K.txt p) = sp)) (h2 : Hid (Str (K.txt q) = sq)) (h3 : Hid (Str (K.txt (p + q)) = sr)) (ht : Tab w) :
    Calls Tryz.prog 149 #[.pointer (some ⟨g, 0, none⟩), .string sp, .string sq] w (fun e w' => e = .returned (.string sr) ∧ Ext w w') := by
  have h := rec_plus g p q w hr hf ht
  rw [h1.out, h2.out] at h
  exact h.mono fun e w' hh => ⟨by rw [← h3.out]; exact hh.1, hh.2⟩
theorem Calls.at_args {P : Program} {f : FuncId} {a b : Array Value} {w : World} {Q : Ending → World → Prop} (e : a = b) (h : Calls P f b w Q) : Calls P f a w Q := e ▸ h
set_option maxRecDepth 100000 in
set_option maxHeartbeats 6400000 in
theorem line1_next (g : Nat) (x y z u a m : Int) (sx sy sz su sa sm sxu syu saz ss szm : ByteArray) (w : World) (hr : Row w g 193 [.int .i64 0]) (ht : Tab w) (hz1 : z ≠ 1)
    (Hx : Hid (Str (K.txt x) = sx)) (Hy : Hid (Str (K.txt y) = sy)) (Hz : Hid (Str (K.txt z) = sz)) (Hu : Hid (Str (K.txt u) = su)) (Ha : Hid (Str (K.txt a) = sa)) (Hm : Hid (Str (K.txt m) = sm))
    (Hxu : Hid (Str (K.txt (x * u)) = sxu)) (Hyu : Hid (Str (K.txt (y * u)) = syu)) (Haz : Hid (Str (K.txt (a * z)) = saz)) (Hs : Hid (Str (K.txt (y * u + a * z)) = ss)) (Hzm : Hid (Str (K.txt (z * m)) = szm))
    (B : Hid (K.fits x ∧ K.fits y ∧ K.fits z ∧ K.fits u ∧ K.fits a ∧ K.fits m ∧ K.fits (x * u) ∧ K.fits (y * u) ∧ K.fits (a * z) ∧ K.fits (y * u + a * z) ∧ K.fits (z * m))) :
    Calls Tryz.prog 146 #[.agg #[.string sx, .string sy, .string sz], .agg #[.string su, .string sa, .string sm], .pointer (some ⟨g, 0, none⟩)] w (fun e w' => e = .returned (.agg #[.string sxu, .string ss, .string szm]) ∧ Ext w w') := by
  have hne : sz ≠ ⟨#[49]⟩ := by rw [← Hz.out]; exact txt_not_one hz1
  have hnl : (sz.toList == [49]) = false := by
    rw [beq_eq_false_iff_ne]
    intro e
    exact hne (by
      have h1 := congrArg ByteArray.toList (rfl : sz = sz)
      rw [← Hz.out, Str_toList] at e
      rw [← Hz.out, e]; rfl)
  have HT := hid ht
  have RG := hid hr
  have hx : Ext w (((w.alloc (.cells #[.string sx, .string sy, .string sz] 38)).alloc (.cells #[.string su, .string sa, .string sm] 38)).alloc (.cells #[.string ⟨#[]⟩, .string ⟨#[]⟩, .string ⟨#[]⟩] 38)) := (((Ext.rfl' w).alloc' _).alloc' _).alloc' _
  have r1 : Row (((w.alloc (.cells #[.string sx, .string sy, .string sz] 38)).alloc (.cells #[.string su, .string sa, .string sm] 38)).alloc (.cells #[.string ⟨#[]⟩, .string ⟨#[]⟩, .string ⟨#[]⟩] 38)) w.heap.size 38 [.string sx, .string sy, .string sz] := ((Row.new w _ _).alloc _).alloc _
  have r2 : Row (((w.alloc (.cells #[.string sx, .string sy, .string sz] 38)).alloc (.cells #[.string su, .string sa, .string sm] 38)).alloc (.cells #[.string ⟨#[]⟩, .string ⟨#[]⟩, .string ⟨#[]⟩] 38)) (w.heap.size + 1) 38 [.string su, .string sa, .string sm] := by
    have := (Row.new (w.alloc (.cells #[.string sx, .string sy, .string sz] 38)) 38 [.string su, .string sa, .string sm]).alloc (.cells #[.string ⟨#[]⟩, .string ⟨#[]⟩, .string ⟨#[]⟩] 38)
    rwa [World.size_alloc] at this
  have r3 : Row (((w.alloc (.cells #[.string sx, .string sy, .string sz] 38)).alloc (.cells #[.string su, .string sa, .string sm] 38)).alloc (.cells #[.string ⟨#[]⟩, .string ⟨#[]⟩, .string ⟨#[]⟩] 38)) (w.heap.size + 1 + 1) 38 [.string ⟨#[]⟩, .string ⟨#[]⟩, .string ⟨#[]⟩] := by
    have := Row.new ((w.alloc (.cells #[.string sx, .string sy, .string sz] 38)).alloc (.cells #[.string su, .string sa, .string sm] 38)) 38 [.string ⟨#[]⟩, .string ⟨#[]⟩, .string ⟨#[]⟩]
    rwa [World.size_alloc, World.size_alloc] at this
  obtain ⟨W3, hW3⟩ : ∃ W3, (((w.alloc (.cells #[.string sx, .string sy, .string sz] 38)).alloc (.cells #[.string su, .string sa, .string sm] 38)).alloc (.cells #[.string ⟨#[]⟩, .string ⟨#[]⟩, .string ⟨#[]⟩] 38)) = W3 := ⟨_, rfl⟩
  rw [hW3] at hx r1 r2 r3
  have HW3 := hid hW3
  have HX := hid hx
  have R1 := hid r1
  have R2 := hid r2
  have R3 := hid r3
  have HT := hid (HT.out.ext hx)
  have RG := hid (RG.out.ext hx)
  have HS : Hid (∀ W', Ext W3 W' → W'.cell? ⟨w.heap.size, 0, none⟩ = some (.string sx) ∧ W'.cell? ⟨w.heap.size, 1, none⟩ = some (.string sy) ∧ W'.cell? ⟨w.heap.size, 2, none⟩ = some (.string sz) ∧ W'.cell? ⟨w.heap.size + 1, 0, none⟩ = some (.string su) ∧ W'.cell? ⟨w.heap.size + 1, 1, none⟩ = some (.string sa) ∧ W'.cell? ⟨w.heap.size + 1, 2, none⟩ = some (.string sm)) := hid (by
    intro W' e
    obtain ⟨p0, p1, p2, -, -, -⟩ := row_facts3 (R1.out.ext e)
    obtain ⟨q0, q1, q2, -, -, -⟩ := row_facts3 (R2.out.ext e)
    exact ⟨p0, p1, p2, q0, q1, q2⟩)
  have hcur : Ext W3 W3 := Ext.rfl' _
  clear hW3 hx r1 r2 r3
  go_enter Tryz.func146, Tryz.ntmps146
  go_upto_region 1 with fail
  rw [HW3.out]
  go_region_held3 (fun W' => W'.cell? ⟨w.heap.size, 0, none⟩ = some (.string sx) ∧ W'.cell? ⟨w.heap.size, 1, none⟩ = some (.string sy) ∧ W'.cell? ⟨w.heap.size, 2, none⟩ = some (.string sz) ∧ W'.cell? ⟨w.heap.size + 1, 0, none⟩ = some (.string su) ∧ W'.cell? ⟨w.heap.size + 1, 1, none⟩ = some (.string sa) ∧ W'.cell? ⟨w.heap.size + 1, 2, none⟩ = some (.string sm))
    (first | exact HS.out _ hcur | exact HS.out _ hcur.drew' | exact HS.out _ (hcur.alloc' _) | exact HS.out _ (hcur.drew'.alloc' _) | exact HS.out _ ((hcur.set' HB2.out.1 _).set' HB2.out.1 _) | go_keep)
    (first
      | (go_at_call 147; refine (noStep_any _).mono ?_; rintro e w4 ⟨rfl, hx⟩; have hcur := Ext.step hcur (by first | exact hx | exact Ext.undrew hx | exact Ext.step ((Ext.rfl' _).alloc' _) hx | exact Ext.step ((Ext.rfl' _).drew'.alloc' _) hx)))
  all_goals
    have hcur : Ext W3 w4 := (by first | exact hcur | exact hcur.drew')
    obtain ⟨p0, p1, p2, -, -, -⟩ := row_facts3 (R1.out.ext hcur)
    obtain ⟨q0, q1, q2, -, -, -⟩ := row_facts3 (R2.out.ext hcur)
    obtain ⟨z0, z1, z2, z3, z4, z5⟩ := row_facts3 (R3.out.ext hcur)
    have RG := hid (RG.out.ext hcur)
    have HSR : Hid (∀ W', Row W' w.heap.size 38 [.string sx, .string sy, .string sz] → Row W' (w.heap.size + 1) 38 [.string su, .string sa, .string sm] → W'.cell? ⟨w.heap.size, 0, none⟩ = some (.string sx) ∧ W'.cell? ⟨w.heap.size, 1, none⟩ = some (.string sy) ∧ W'.cell? ⟨w.heap.size, 2, none⟩ = some (.string sz) ∧ W'.cell? ⟨w.heap.size + 1, 0, none⟩ = some (.string su) ∧ W'.cell? ⟨w.heap.size + 1, 1, none⟩ = some (.string sa) ∧ W'.cell? ⟨w.heap.size + 1, 2, none⟩ = some (.string sm)) := hid (by
      intro W' e1 e2
      obtain ⟨p0, p1, p2, -, -, -⟩ := row_facts3 e1
      obtain ⟨q0, q1, q2, -, -, -⟩ := row_facts3 e2
      exact ⟨p0, p1, p2, q0, q1, q2⟩)
    go_wp2_with fail
    go_region_held3 (fun W' => W'.cell? ⟨w.heap.size, 0, none⟩ = some (.string sx) ∧ W'.cell? ⟨w.heap.size, 1, none⟩ = some (.string sy) ∧ W'.cell? ⟨w.heap.size, 2, none⟩ = some (.string sz) ∧ W'.cell? ⟨w.heap.size + 1, 0, none⟩ = some (.string su) ∧ W'.cell? ⟨w.heap.size + 1, 1, none⟩ = some (.string sa) ∧ W'.cell? ⟨w.heap.size + 1, 2, none⟩ = some (.string sm))
      (first | exact HS.out _ hcur | exact HS.out _ hcur.drew' | exact HSR.out _ ((R1.out.ext hcur).set3 (by omega)) ((R2.out.ext hcur).set3 (by omega)) | go_keep)
      (first
        | (go_at_call 148; refine (Calls.at_args ?_ (rec_times_s g x u sx su sxu _ (RG.out.ext ?_) ⟨B.out.1, B.out.2.2.2.1, B.out.2.2.2.2.2.2.1⟩ Hx Hu Hxu (HT.out.ext ?_))).mono ?_; (with_reducible rfl); (first | exact Ext.rfl' _ | exact (Ext.rfl' _).drew'); (first | exact hcur | exact hcur.drew' | exact hcur.alloc' _ | exact hcur.drew'.alloc' _ | exact (hcur.alloc' _).drew'); rintro e w11 ⟨rfl, hx⟩; have hcur := Ext.step hcur (by first | exact hx | exact Ext.undrew hx | exact Ext.step ((Ext.rfl' _).alloc' _) hx | exact Ext.step ((Ext.rfl' _).drew'.alloc' _) hx); have RG := hid (RG.out.ext (by first | exact hx | exact Ext.undrew hx)); obtain ⟨z0, z1, z2, z3, z4, z5⟩ := row_facts3 (R3.out.ext hcur))
        | (go_at_call 148; refine (Calls.at_args ?_ (rec_times_s g y u sy su syu _ (RG.out.ext ?_) ⟨B.out.2.1, B.out.2.2.2.1, B.out.2.2.2.2.2.2.2.1⟩ Hy Hu Hyu (HT.out.ext ?_))).mono ?_; (with_reducible rfl); (first | exact Ext.rfl' _ | exact (Ext.rfl' _).drew'); (first | exact hcur | exact hcur.drew' | exact hcur.alloc' _ | exact hcur.drew'.alloc' _ | exact (hcur.alloc' _).drew'); rintro e w12 ⟨rfl, hx⟩; have hcur := Ext.step hcur (by first | exact hx | exact Ext.undrew hx | exact Ext.step ((Ext.rfl' _).alloc' _) hx | exact Ext.step ((Ext.rfl' _).drew'.alloc' _) hx); have RG := hid (RG.out.ext (by first | exact hx | exact Ext.undrew hx)); obtain ⟨z0, z1, z2, z3, z4, z5⟩ := row_facts3 (R3.out.ext hcur))
        | (go_at_call 148; refine (Calls.at_args ?_ (rec_times_s g a z sa sz saz _ (RG.out.ext ?_) ⟨B.out.2.2.2.2.1, B.out.2.2.1, B.out.2.2.2.2.2.2.2.2.1⟩ Ha Hz Haz (HT.out.ext ?_))).mono ?_; (with_reducible rfl); (first | exact Ext.rfl' _ | exact (Ext.rfl' _).drew'); (first | exact hcur | exact hcur.drew' | exact hcur.alloc' _ | exact hcur.drew'.alloc' _ | exact (hcur.alloc' _).drew'); rintro e w13 ⟨rfl, hx⟩; have hcur := Ext.step hcur (by first | exact hx | exact Ext.undrew hx | exact Ext.step ((Ext.rfl' _).alloc' _) hx | exact Ext.step ((Ext.rfl' _).drew'.alloc' _) hx); have RG := hid (RG.out.ext (by first | exact hx | exact Ext.undrew hx)); obtain ⟨z0, z1, z2, z3, z4, z5⟩ := row_facts3 (R3.out.ext hcur))
        | (go_at_call 148; refine (Calls.at_args ?_ (rec_times_s g z m sz sm szm _ (RG.out.ext ?_) ⟨B.out.2.2.1, B.out.2.2.2.2.2.1, B.out.2.2.2.2.2.2.2.2.2.2⟩ Hz Hm Hzm (HT.out.ext ?_))).mono ?_; (with_reducible rfl); (first | exact Ext.rfl' _ | exact (Ext.rfl' _).drew'); (first | exact hcur | exact hcur.drew' | exact hcur.alloc' _ | exact hcur.drew'.alloc' _ | exact (hcur.alloc' _).drew'); rintro e w15 ⟨rfl, hx⟩; have hcur := Ext.step hcur (by first | exact hx | exact Ext.undrew hx | exact Ext.step ((Ext.rfl' _).alloc' _) hx | exact Ext.step ((Ext.rfl' _).drew'.alloc' _) hx); have RG := hid (RG.out.ext (by first | exact hx | exact Ext.undrew hx)); obtain ⟨z0, z1, z2, z3, z4, z5⟩ := row_facts3 (R3.out.ext hcur))
        | (go_at_call 149; refine (Calls.at_args ?_ (rec_plus_s g (y * u) (a * z) syu saz ss _ (RG.out.ext ?_) ⟨B.out.2.2.2.2.2.2.2.1, B.out.2.2.2.2.2.2.2.2.1, B.out.2.2.2.2.2.2.2.2.2.1⟩ Hyu Haz Hs (HT.out.ext ?_))).mono ?_; (with_reducible rfl); (first | exact Ext.rfl' _ | exact (Ext.rfl' _).drew'); (first | exact hcur | exact hcur.drew' | exact hcur.alloc' _ | exact hcur.drew'.alloc' _ | exact (hcur.alloc' _).drew'); rintro e w14 ⟨rfl, hx⟩; have hcur := Ext.step hcur (by first | exact hx | exact Ext.undrew hx | exact Ext.step ((Ext.rfl' _).alloc' _) hx | exact Ext.step ((Ext.rfl' _).drew'.alloc' _) hx); have RG := hid (RG.out.ext (by first | exact hx | exact Ext.undrew hx)); obtain ⟨z0, z1, z2, z3, z4, z5⟩ := row_facts3 (R3.out.ext hcur)))
    all_goals
      have HF := hid ((HX.out.step hcur).set3 (H := w.heap.size + 1 + 1) (a := .string sxu) (b := .string ss) (c := .string szm) (by omega))
      clear hcur
      go_wp2
      refine bodyPost_ret (v := .agg #[.string sxu, .string ss, .string szm]) (by simp [results, Tryz.results146, go_sem, z0, z1, z2]) rfl ⟨rfl, HF.out⟩
end Go.Proofs.YtleccblkafcidaaGreatDoor
