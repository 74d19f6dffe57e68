/- (number).text, num.write -/
import Derived.Test.YtdbaemadphhhcaaDoorText2
import Derived.Test.YtdbaemadphhhcaaDoorNDivide
namespace Go.Proofs.YtdbaemadphhhcaaDoor
open Go.RowKit
/-- the string of bytes -/
def Str (l : List UInt8) : ByteArray := ⟨l.toArray⟩
theorem conv_bytes {w : World} {base n : Nat} {v : Value} {l : List UInt8} (h : w.ownsRow base 5 1 v n (Bytes l)) (hl : 0 < l.length) :
    (convert 79 9 v).run Tryd.prog w = .ok (.string (Str l)) w := by
  have hn : l.length = n := by have := h.1; simpa using this
  obtain ⟨g, cap, sp, rfl, _, _, _, hrow, hvl, _⟩ := own_form h (by omega)
  have hc : ∀ i, i < n → w.cell? ⟨g, 0 + i, none⟩ = some (.int .u8 ((l.map fun b => (b.toNat : Int)).getD i 0)) := by
    intro i hi
    rw [hrow.cell, Nat.zero_add, List.getElem?_append_left (by omega)]
    simp [Bytes, List.getD, List.getElem?_eq_getElem (show i < l.length by omega)]
  have := run_convert_bytes_arg (P := Tryd.prog) w 79 5 Tryd.underlying79 Tryd.underlying5 g 0 n cap (l.map fun b => (b.toNat : Int)) (by simpa using hn) hc 9 Tryd.underlying9
  have e : strOfNums (l.map fun b => (b.toNat : Int)) = Str l := by
    have e0 : ((l.map fun b => (b.toNat : Int)).map fun n => UInt8.ofNat n.toNat) = l := by
      rw [List.map_map]
      conv => rhs; rw [← List.map_id l]
      apply List.map_congr_left
      intro b _
      simp
    exact congrArg (fun l : List UInt8 => (⟨l.toArray⟩ : ByteArray)) e0
  rw [e] at this
  exact this
def StrPost (l : List UInt8) (w : World) (e : Ending) (w' : World) : Prop := e = .returned (.string (Str l)) ∧ Ext w w'
set_option maxRecDepth 100000 in
set_option maxHeartbeats 400000 in
theorem text_any (v : Value) (n : Int) (w : World) (h : NumV w v n) (la : n.natAbs ≤ BIG) (ht : Tab w) :
    Calls Tryd.prog 55 #[v] w (StrPost (K.txt n) w) := by
  obtain ⟨sz, b, rfl, hb, hz⟩ := h
  obtain ⟨A, k, c, rfl⟩ := hz.slice
  have eb := hb.out
  subst eb
  have hE : Ext w (w.alloc (.cells #[.bool (decide (n < 0)), .slice A k c] 59)) := (Ext.rfl' w).alloc' _
  have hpos : 0 < (K.dgs n.natAbs).length := K.len_pos (K.dgs_ne _)
  by_cases hn : n < 0
  · rw [decide_eq_true hn] at *
    have e : K.txt n = 45 :: K.dgs n.natAbs := by unfold K.txt; rw [if_pos hn]
    have HT := hid e
    clear e hb hn
    go_enter Tryd.func55, Tryd.ntmps55
    go_wp2_with fail
    refine (digits_any _ _ _ (hz.ext hE) la (ht.ext hE)).mono ?_
    rintro e w1 ⟨v1, rfl, hown, hbel, hsz⟩
    have hx1 : Ext w w1 := hE.step hbel
    obtain ⟨c0, c1, -, -, -, -⟩ := two_facts (W := w) (H := w.heap.size) hbel rfl
    have hcv := conv_bytes hown hpos
    have hlen : (K.dgs n.natAbs).length ≤ 9000 := big_digits la
    generalize K.dgs n.natAbs = l at *
    have hcc : ∀ w : World, (Op.stringOp .add ⟨#[45]⟩ (Str l)).run Tryd.prog w = .ok (.string (Str (45 :: l))) w := fun w => run_string_add_lists w [45] l (by simp) (by omega)
    clear hown hbel hlen
    go_wp2
    go_ret
    exact ⟨by rw [HT.out]; rfl, hx1⟩
  · rw [decide_eq_false hn] at *
    have e : K.txt n = K.dgs n.natAbs := by unfold K.txt; rw [if_neg hn]
    have HT := hid e
    clear e hb hn
    go_enter Tryd.func55, Tryd.ntmps55
    go_wp2_with fail
    refine (digits_any _ _ _ (hz.ext hE) la (ht.ext hE)).mono ?_
    rintro e w1 ⟨v1, rfl, hown, hbel, hsz⟩
    have hx1 : Ext w w1 := hE.step hbel
    obtain ⟨c0, c1, -, -, -, -⟩ := two_facts (W := w) (H := w.heap.size) hbel rfl
    have hcv := conv_bytes hown hpos
    generalize K.dgs n.natAbs = l at *
    clear hown hbel
    go_wp2
    go_ret
    exact ⟨by rw [HT.out]; rfl, hx1⟩
theorem trim_minus (l : List UInt8) : Lib.trimPrefix l [45] = K.body l := by
  unfold Lib.trimPrefix Lib.hasPrefix K.body
  cases l with
  | nil => simp
  | cons c r =>
    by_cases h : c = 45
    · subst h; simp
    · have h' : ¬ (45 = c) := fun e => h e.symm
      simp [h, h']
theorem trimPrefix_any (l : List UInt8) (w : World) :
    Calls Tryd.prog 45 #[.string (Str l), .string ⟨#[45]⟩] w fun e w' => e = .returned (.string (Str (K.body l))) ∧ w = w' :=
  (Shelf.l_strings_TrimPrefix (Str l) ⟨#[45]⟩ w).mono fun e w' ⟨he, hw⟩ => by
    have e1 : Lib.trimPrefix (Str l).data.toList (⟨#[45]⟩ : ByteArray).data.toList = K.body l := trim_minus l
    rw [e1] at he
    exact ⟨he, hw.symm⟩
theorem Str_size (l : List UInt8) : (Str l).size = l.length := by simp [Str, ByteArray.size]
/-- what Add and its kin return: the text, or ErrSize -/
def ToldPost (n : Int) (w : World) (e : Ending) (w' : World) : Prop :=
  (K.fits n → e = .returned (.tuple #[.string (Str (K.txt n)), .int .i64 0])) ∧ (¬ K.fits n → e = .returned (.tuple #[.string ⟨#[]⟩, .int .i64 3])) ∧ Ext w w'
set_option maxRecDepth 100000 in
set_option maxHeartbeats 400000 in
theorem write_any (v : Value) (n : Int) (w : World) (h : NumV w v n) (la : n.natAbs ≤ BIG) (ht : Tab w) :
    Calls Tryd.prog 59 #[v] w (ToldPost n w) := by
  have h0 := h
  obtain ⟨sz, b, rfl, hb, hz⟩ := h
  obtain ⟨A, k, c, rfl⟩ := hz.slice
  have hE : Ext w (w.alloc (.cells #[.bool b, .slice A k c] 59)) := (Ext.rfl' w).alloc' _
  have hfit := K.fits_len n
  have hlen : (K.dgs n.natAbs).length ≤ 9000 := big_digits la
  have hsz : (Str (K.dgs n.natAbs)).size = (K.dgs n.natAbs).length := Str_size _
  have hbody := K.body_txt n
  have HF := hid hfit
  have HB := hid hbody
  have h1 := h0.ext hE
  have ht1 := ht.ext hE
  clear hfit hbody hz hb ht
  by_cases hf : (K.dgs n.natAbs).length ≤ 2000
  · have hok : K.fits n := HF.out.2 hf
    go_enter Tryd.func59, Tryd.ntmps59
    go_wp2_with fail
    refine (text_any _ n _ h1 la ht1).mono ?_
    rintro e w1 ⟨rfl, hx1⟩
    go_wp2_with fail
    refine (trimPrefix_any _ _).mono ?_
    rintro e w2 ⟨rfl, rfl⟩
    rw [HB.out]
    generalize Str (K.dgs n.natAbs) = s1 at *
    generalize (K.dgs n.natAbs).length = k1 at *
    go_wp2
    go_ret2
    exact ⟨fun _ => rfl, fun h => absurd hok h, hE.step hx1⟩
  · have hok : ¬ K.fits n := fun h => hf (HF.out.1 h)
    go_enter Tryd.func59, Tryd.ntmps59
    go_wp2_with fail
    refine (text_any _ n _ h1 la ht1).mono ?_
    rintro e w1 ⟨rfl, hx1⟩
    go_wp2_with fail
    refine (trimPrefix_any _ _).mono ?_
    rintro e w2 ⟨rfl, rfl⟩
    rw [HB.out]
    generalize Str (K.dgs n.natAbs) = s1 at *
    generalize (K.dgs n.natAbs).length = k1 at *
    go_wp2
    go_ret2
    exact ⟨fun h => absurd h hok, fun _ => rfl, hE.step hx1⟩
end Go.Proofs.YtdbaemadphhhcaaDoor
