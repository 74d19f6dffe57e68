/- Joined texts: append of an int to a list of ints, with the reference's numbers kept; the reference's Word; the law WordReads; one word, one rest; the reference's Alike at any two lists; a slice of ints appended to an own row; WordParts: numbers, and the linear map of a word behind another; the law WordParts, where both words together are not too long for one list; the law WordTerras; the reference's Value of layer 3; the reference's linear maps: One, Then, Text. -/
import Derived.Test.YtimokpcopeldfaaGreatDoorJG17
import Derived.Test.YtimokpcopeldfaaGreatDoorJG14
import Derived.Test.YtimokpcopeldfaaGreatDoorJG12
import Derived.Test.YtimokpcopeldfaaGreatDoorJG16
import Derived.Test.YtimokpcopeldfaaGreatDoorJG13
import Derived.Test.YtimokpcopeldfaaGreatDoorJG07
set_option linter.unusedSimpArgs false
set_option linter.unusedVariables false
/- append of an int to a list of ints, with the reference's numbers kept -/
namespace Go.Proofs.YtimokpcopeldfaaGreatDoor
open Go.RowKit
/-- the places of block g from n on are zeros -/
def SpZ (w : World) (g n : Nat) : Prop := ∃ cs t fr, w.heap[g]? = some (.cells cs t fr) ∧ ∀ v ∈ cs.toList.drop n, v = .int .i64 0
theorem SpZ.keep {w w' : World} {g n : Nat} (h : SpZ w g n) (e : w'.heap[g]? = w.heap[g]?) : SpZ w' g n := by
  obtain ⟨cs, t, fr, h1, h2⟩ := h
  exact ⟨cs, t, fr, e.trans h1, h2⟩
/-- what a world keeps of the lists of parts of numbers -/
def KeepT (w w' : World) : Prop := ∀ (A : Option Addr) (vs : List Nat), Rd w A (I64s vs) → vs.getLast? ≠ some 0 → Rd w' A (I64s vs)
theorem KeepT.of_ext {w w' : World} (e : Ext w w') : KeepT w w' := fun _ _ h _ => h.ext e
theorem KeepT.trans {a b c : World} (h : KeepT a b) (k : KeepT b c) : KeepT a c := fun A vs x hx => k A vs (h A vs x hx) hx
theorem RefV.keptT {w w' : World} {v : Value} {z : Int} (h : RefV w v z) (k : KeepT w w') : RefV w' v z := by
  obtain ⟨A, kk, c, xs, b, h1, h2, h3, h4, h5, h6, h7⟩ := h
  exact ⟨A, kk, c, xs, b, h1, h2, h3, h4, k A xs h5 h6.2, h6, h7⟩
theorem KeepT.room {w w' : World} {g n : Nat} {cs cs' : Array Value} {t t' : TypeId} {fr fr' : Nat × Nat} (hg : w.heap[g]? = some (.cells cs t fr)) (hz : ∀ v ∈ cs.toList.drop n, v = .int .i64 0) (hg' : w'.heap[g]? = some (.cells cs' t' fr')) (hk : ∀ j, j < n → ∀ u, cs[j]? = some u → cs'[j]? = some u)
    (hs : w.heap.size ≤ w'.heap.size) (hb : ∀ j, j < w.heap.size → j ≠ g → w'.heap[j]? = w.heap[j]?) : KeepT w w' := by
  intro A vs h hl
  rcases h with h | ⟨b, o, ha, hlt, hc⟩
  · rw [h]; exact Rd.nil _ _
  · by_cases hbg : b = g
    · subst hbg
      cases hvl : vs.getLast? with
      | none => rw [List.getLast?_eq_none_iff] at hvl; subst hvl; exact Rd.nil _ _
      | some y =>
        have hne : vs ≠ [] := by intro e; subst e; simp at hvl
        have hpos : 0 < vs.length := by cases vs with | nil => exact absurd rfl hne | cons _ _ => simp
        have hy : vs[vs.length - 1]? = some y := by rw [← List.getLast?_eq_getElem?]; exact hvl
        have hy0 : y ≠ 0 := by intro e; subst e; exact hl hvl
        have hcell := hc (vs.length - 1) (.int .i64 (y : Int)) (by rw [List.getElem?_map, hy]; rfl)
        have hcs : ∀ j u, w.cell? ⟨b, j, none⟩ = some u → cs[j]? = some u := fun j u hu => by simpa [World.cell?, hg] using hu
        have hlast : o + (vs.length - 1) < n := by
          rcases Nat.lt_or_ge (o + (vs.length - 1)) n with h1 | h1
          · exact h1
          · have h2 := hcs _ _ hcell
            have h3 : Value.int .i64 (y : Int) ∈ cs.toList.drop n := by
              refine List.mem_of_getElem? (i := o + (vs.length - 1) - n) ?_
              rw [List.getElem?_drop, Array.getElem?_toList, show n + (o + (vs.length - 1) - n) = o + (vs.length - 1) by omega]
              exact h2
            have h4 := hz _ h3
            injection h4 with _ h5
            omega
        refine .inr ⟨b, o, ha, by omega, fun j u hu => ?_⟩
        have hj : j < vs.length := by
          rcases Nat.lt_or_ge j vs.length with h1 | h1
          · exact h1
          · rw [List.getElem?_eq_none (by simpa using h1)] at hu; cases hu
        have := hk (o + j) (by omega) u (hcs _ _ (hc j u hu))
        simpa [World.cell?, hg'] using this
    · refine .inr ⟨b, o, ha, by omega, fun j u hu => ?_⟩
      rw [World.cell?_of_block (hb b hlt hbg)]
      exact hc j u hu
theorem zeros_int (n : Nat) : ∀ v ∈ (Builtin.zeroCells (Value.int .i64 0).cells n).toList, v = .int .i64 0 := by
  intro v hv
  simp only [Builtin.zeroCells, Array.toList_map, List.mem_map] at hv
  obtain ⟨i, -, hi⟩ := hv
  have hs : (Value.int .i64 0).cells.size = 1 := by rfl
  rw [hs, Nat.mod_one] at hi
  rw [← hi]; rfl
section
variable {P : Program}
theorem run_append_int (w : World) (base : Nat) (t ty e : TypeId) (i : TypeInfo) (ht : P.underlying t = some (.slice e)) (hi : P.info? e = some i) (hz : i.zero = some (.int .i64 0))
    (hsize : i.size = 1) (hby : i.bytes = 8) (v : Value) (n : Nat) (xs : List Value) (hown : w.ownsRow base e 1 v n xs) (hsp : ∀ g c, v = .slice (some ⟨g, 0, none⟩) n c → SpZ w g n)
    (a : Addr) (c : Nat) (x : Int) (hnews : ∀ j u, [Value.int .i64 x][j]? = some u → w.cell? (a.add j) = some u)
    (h63 : n + 1 ≤ 1000000) (hbase : base ≤ w.heap.size) :
    ∃ g' cap' w', (Builtin.append_ #[t, t] ty #[v, .slice (some a) 1 c]).run P w = .ok (.slice (some ⟨g', 0, none⟩) (n + 1) cap') w' ∧
      w'.ownsRow base e 1 (.slice (some ⟨g', 0, none⟩) (n + 1) cap') (n + 1) (xs ++ [.int .i64 x]) ∧ w.grownBy w' v.ownBlock ∧ n + 1 ≤ cap' ∧ SpZ w' g' (n + 1) ∧ KeepT w w' := by
  have hl : [Value.int .i64 x].length = 1 * 1 := rfl
  have h1 : ∀ u ∈ [Value.int .i64 x], u.oneCell' = true := by
    intro u hu
    rw [List.mem_singleton.1 hu]; rfl
  obtain ⟨v', w', hr0, h2, h3, -⟩ := run_append_own (P := P) w base t ty e i _ 1 8 ht hi hz hsize hby (by rfl) (by omega) _ n xs hown a 1 c _ hl hnews h1 (by unfold maxLen; omega) (by omega) hbase
  rcases hown.2 with ⟨rfl, rfl⟩ | ⟨g, cap, cur, rfl, hbg, hg, hnc, hcm, hcs, htake⟩
  · have hx : xs = [] := List.eq_nil_of_length_eq_zero (by simpa using hown.1)
    subst hx
    have hr := run_append_nil (P := P) w t ty e i _ ht hi hz a 1 c _ (by rw [hsize]; rfl) hnews (by omega) (by omega) (by rw [hby]; omega)
    have hee := hr.symm.trans hr0
    injection hee with hv hw
    subst hv hw
    refine ⟨w.heap.size, _, _, hr, h2, h3, grownCap_ge w _ _ e, ⟨_, _, _, heap_alloc_new w.drew _, ?_⟩, KeepT.of_ext ((Ext.rfl' w).drew'.alloc' _)⟩
    intro v hv
    simp only [Array.toList_append, List.append_assoc] at hv
    exact zeros_int _ v (by simpa using hv)
  · obtain ⟨cs, ct, fr, hcs0, hcsn⟩ := hsp g cap rfl
    rw [hg] at hcs0
    cases hcs0
    rw [Nat.mul_one] at hcs htake
    have hxl : xs.length = n := by have := hown.1; omega
    by_cases hroom : n + 1 ≤ cap
    · have hfit : n * i.size + [Value.int .i64 x].length ≤ cur.size := by rw [hl, hcs, hsize]; omega
      have hr := run_append_room (P := P) w t ty e i ht hi g n cap cur hg a 1 c _ (by rw [hsize]; rfl) hnews h1 hroom hfit
      have hee := hr.symm.trans hr0
      injection hee with hv hw
      subst hv hw
      have hcl : cur.toList.length = cap := by simpa using hcs
      refine ⟨g, cap, _, hr, h2, h3, hroom, ⟨_, _, _, setRow_heap w g cur _ e _ hg, ?_⟩, KeepT.room hg hcsn (setRow_heap w g cur _ e _ hg) ?_ h3.size (fun j hj hne => h3.block j hj (by intro e2; cases e2; exact hne rfl))⟩
      · intro v hv
        rw [hsize, Nat.mul_one] at hv
        refine hcsn v ?_
        have e1 : (((cur.toList.take n ++ [Value.int .i64 x]) ++ cur.toList.drop (n + 1)).drop (n + 1)) = cur.toList.drop (n + 1) := by
          rw [List.drop_append_of_le_length (by simp; omega), List.drop_of_length_le (by simp; omega), List.nil_append]
        have hv2 : v ∈ cur.toList.drop (n + 1) := by rw [← e1]; simpa using hv
        rw [show n + 1 = n + 1 from rfl, ← List.drop_drop] at hv2
        exact List.mem_of_mem_drop hv2
      · intro j hj u hu
        rw [hsize, Nat.mul_one]
        have hu2 : cur.toList[j]? = some u := by rw [Array.getElem?_toList]; exact hu
        have : ((cur.toList.take n ++ [Value.int .i64 x]) ++ cur.toList.drop (n + 1))[j]? = some u := by
          rw [List.append_assoc, List.getElem?_append_left (by simp; omega), List.getElem?_take_of_lt hj]
          exact hu2
        simpa using this
    · have holds : ∀ j u, xs[j]? = some u → w.cell? ((⟨g, 0, none⟩ : Addr).add j) = some u := hown.cells (g := g) rfl
      have hr := run_append_grow (P := P) w t ty e i _ ht hi hz ⟨g, 0, none⟩ n cap xs (by rw [hsize]; exact hown.1) holds a 1 c _ (by rw [hsize]; rfl) hnews (by omega) (by omega) (growslice_fits (by omega) (by rw [hby]; omega))
      have hee := hr.symm.trans hr0
      injection hee with hv hw
      subst hv hw
      refine ⟨w.heap.size, _, _, hr, h2, h3, grownCap_ge w (n + 1) cap e, ⟨_, _, _, heap_alloc_new w.drew _, ?_⟩, KeepT.of_ext ((Ext.rfl' w).drew'.alloc' _)⟩
      intro v hv
      have e1 : (xs ++ ([Value.int .i64 x] ++ (Builtin.zeroCells (Value.int .i64 0).cells (grownCap w (n + 1) cap e - (n + 1))).toList)).drop (n + 1) = (Builtin.zeroCells (Value.int .i64 0).cells (grownCap w (n + 1) cap e - (n + 1))).toList := by
        rw [← List.append_assoc, List.drop_append_of_le_length (by simp; omega), List.drop_of_length_le (by simp; omega), List.nil_append]
      simp only [Array.toList_append, List.append_assoc] at hv
      exact zeros_int _ v (by rw [← e1]; exact hv)
theorem wpList_append_int {w : World} {ops : Array Oper} {rest : List Oper} {o : Oper} {a : Act} {Q : Exit → Act → World → Prop} (hgd : o.guard = none) (s x : Operand) (t : TypeId)
    (ho : o.op = .call { callee := .builtin .append, args := #[s, x], argTypes := #[t, t] })
    (base : Nat) (e : TypeId) (i : TypeInfo) (ht : P.underlying t = some (.slice e)) (hi : P.info? e = some i) (hz : i.zero = some (.int .i64 0))
    (hsize : i.size = 1) (hby : i.bytes = 8) (v : Value) (n : Nat) (xs : List Value) (hs : a.eval s = v) (hown : w.ownsRow base e 1 v n xs) (hsp : ∀ g c, v = .slice (some ⟨g, 0, none⟩) n c → SpZ w g n)
    (ad : Addr) (c : Nat) (y : Int) (hx : a.eval x = .slice (some ad) 1 c) (hnews : ∀ j u, [Value.int .i64 y][j]? = some u → w.cell? (ad.add j) = some u)
    (h63 : n + 1 ≤ 1000000) (hbase : base ≤ w.heap.size)
    (h : ∀ g' cap' w', w'.ownsRow base e 1 (.slice (some ⟨g', 0, none⟩) (n + 1) cap') (n + 1) (xs ++ [.int .i64 y]) → w.grownBy w' v.ownBlock → n + 1 ≤ cap' → SpZ w' g' (n + 1) → KeepT w w' → wpList P ops Q rest (a.put o.dst (.slice (some ⟨g', 0, none⟩) (n + 1) cap')) w') : wpList P ops Q (o :: rest) a w :=
  wpList_plain hgd fun _ hK => by
    obtain ⟨g', cap', w', hr, h2, h3, h4, h5, h6⟩ := run_append_int (P := P) w base t o.type e i ht hi hz hsize hby v n xs hown hsp ad c y hnews h63 hbase
    unfold Oper.wp execOp
    simp only [ho, resolve, invoke, builtin, Sem.run_bind, Sem.run_pure, Result.andThen_ok, List.map_toArray, List.map_cons, List.map_nil, hs, hx, hr]
    exact hK _ _ (h g' cap' w' h2 h3 h4 h5 h6)
end
theorem Row.grownO {W w1 : World} {tmp : Obj} {row : Option Nat} {H : Nat} {t : TypeId} {vs : List Value} (h : Row W H t vs) (hg : (W.alloc tmp).grownBy w1 row) (hne : ∀ k, row = some k → H ≠ k) : Row w1 H t vs :=
  (hg.block H (by have := h.lt; rw [World.size_alloc]; omega) (fun e => hne H e.symm rfl)).trans (h.alloc tmp)
end Go.Proofs.YtimokpcopeldfaaGreatDoor
/- the reference's Word -/
namespace Go.Proofs.YtimokpcopeldfaaGreatDoor
open Go.RowKit
/-- the word after j rounds -/
def WordAt (m : Int) (us ad : List Int) (x : Int) (j : Nat) (z : Int) (ws : List Int) : Prop := z = orbN m us ad j x ∧ ws = wordI m us ad j x ∧ ∀ i, i < j → K.fits (orbN m us ad i x)
theorem WordAt.next {m : Int} {us ad : List Int} {x : Int} {j : Nat} {z : Int} {ws : List Int} (h : WordAt m us ad x j z ws) (hf : K.fits z) : WordAt m us ad x (j + 1) (stepI m us ad z) (ws ++ [z % m]) := by
  obtain ⟨rfl, rfl, h3⟩ := h
  refine ⟨rfl, by rw [word_snoc], fun i hi => ?_⟩
  rcases Nat.lt_or_ge i j with h | h
  · exact h3 i h
  · obtain rfl : i = j := by omega
    exact hf
/-- what the reference tells of a word -/
def RWordPost (m : Int) (us ad : List Int) (x : Int) (k : Nat) (w : World) (e : Ending) (w' : World) : Prop :=
  ∃ (L : Option Addr) (n c : Nat) (ws : List Int) (b : Bool), e = .returned (.tuple #[.slice L n c, .bool b]) ∧ ws.length = n ∧ n ≤ k ∧ Rd w' L (Is ws) ∧
    ((b = true ∧ ws = wordI m us ad k x ∧ ∀ i, i < k → K.fits (orbN m us ad i x)) ∨ (b = false ∧ ∃ i, i < k ∧ ¬ K.fits (orbN m us ad i x))) ∧ Ext w w'
theorem own_cap {w : World} {base e n c : Nat} {L : Option Addr} {vs : List Value} (h : w.ownsRow base e 1 (.slice L n c) n vs) : vs.length = n := by have := h.1; omega
end Go.Proofs.YtimokpcopeldfaaGreatDoor
/- the law WordReads -/
namespace Go.Proofs.YtimokpcopeldfaaGreatDoor
open Go.RowKit
theorem seqO_zero (m : Int) (us ad : List Int) (x : Int) : seqO m us ad 0 x = [] := rfl
theorem seqO_succ (m : Int) (us ad : List Int) (k : Nat) (x : Int) : seqO m us ad (k + 1) x = if fitsB (stepI m us ad x) = true then some (stepI m us ad x) :: seqO m us ad k (stepI m us ad x) else [none] := rfl
theorem fits_of_B {x : Int} (h : fitsB x = true) : K.fits x := by
  by_cases hh : K.fits x
  · exact hh
  · rw [fitsB_no hh] at h; cases h
theorem seq_none {m : Int} {us ad : List Int} (k : Nat) : ∀ (x : Int), none ∈ seqO m us ad k x → ∃ i, i < k + 1 ∧ ¬ K.fits (orbN m us ad i x) := by
  induction k with
  | zero => intro x h; rw [seqO_zero] at h; cases h
  | succ k ih =>
    intro x h
    rw [seqO_succ] at h
    by_cases hf : fitsB (stepI m us ad x) = true
    · rw [if_pos hf] at h
      rcases List.mem_cons.1 h with h2 | h2
      · cases h2
      · obtain ⟨i, hi, hn⟩ := ih _ h2
        exact ⟨i + 1, by omega, by rw [orbN_cons]; exact hn⟩
    · refine ⟨1, by omega, fun hh => hf ?_⟩
      exact fitsB_yes hh
theorem seq_all {m : Int} {us ad : List Int} (k : Nat) : ∀ (x : Int), none ∉ seqO m us ad k x → K.fits x → ∀ i, i < k + 1 → K.fits (orbN m us ad i x) := by
  induction k with
  | zero =>
    intro x h hx i hi
    obtain rfl : i = 0 := by omega
    exact hx
  | succ k ih =>
    intro x h hx i hi
    rw [seqO_succ] at h
    by_cases hf : fitsB (stepI m us ad x) = true
    · rw [if_pos hf] at h
      have h2 : none ∉ seqO m us ad k (stepI m us ad x) := fun hh => h (List.mem_cons_of_mem _ hh)
      rcases Nat.eq_zero_or_pos i with h0 | h0
      · subst h0; exact hx
      · obtain ⟨j, rfl⟩ : ∃ j, i = j + 1 := ⟨i - 1, by omega⟩
        rw [orbN_cons]
        exact ih _ h2 (fits_of_B hf) j (by omega)
    · rw [if_neg hf] at h
      exact absurd (List.mem_singleton.2 rfl) h
/-- what Word tells where it may be asked -/
def WordC (m : Int) (us ad : List Int) (k : Nat) (x : Int) (ws : List Int) (f : Int) : Prop := (f = 0 ∧ ws = wordI m us ad k x ∧ ∀ i, i < k → K.fits (orbN m us ad i x)) ∨ (f = 3 ∧ ws = [] ∧ ∃ i, i < k ∧ ¬ K.fits (orbN m us ad i x))
theorem wordc_any (v : Value) (m : Int) (us ad : List Int) (l : List UInt8) (k : Nat) (w : World) (hv : MapV w v m us ad) (hlen : l.length ≤ 140737488351232) (hb1 : Hid (mapB m us ad = true)) (hb2 : Hid (K.validL l = true)) (hk : k ≤ 200) (ht : Tab w) :
    Calls Tryz.prog 40 #[v, .string (Str l), .int .i64 (k : Int)] w (fun e w' => ∃ A wn f ws, e = .returned (.tuple #[.slice A wn wn, .int .i64 f]) ∧ Rd w' A (Is ws) ∧ ws.length = wn ∧ wn ≤ 200 ∧ WordC m us ad k (K.numL l) ws f ∧ Ext w w') := by
  have hfit := (K.txt_numL l hb2.out).2
  rcases k with - | k
  · refine (word_zero v m us ad l 0 w hv hlen hb1 hb2 rfl).mono ?_
    rintro e w' ⟨rfl, h2⟩
    exact ⟨_, _, _, [], rfl, Rd.nil _ _, rfl, by omega, .inl ⟨rfl, rfl, fun i hi => absurd hi (by omega)⟩, h2⟩
  · by_cases h : none ∈ seqO m us ad k (K.numL l)
    · refine (word_size v m us ad l k w hv hlen hb1 hb2 hk ht (hid h)).mono ?_
      rintro e w' ⟨rfl, h2⟩
      exact ⟨_, _, _, [], rfl, Rd.nil _ _, rfl, by omega, .inr ⟨rfl, rfl, seq_none k _ h⟩, h2⟩
    · refine (word_ok v m us ad l k w hv hlen hb1 hb2 hk ht (hid h)).mono ?_
      rintro e w' ⟨g, rfl, hr, -, h2⟩
      refine ⟨_, _, _, wordI m us ad (k + 1) (K.numL l), rfl, ?_, word_len _ _ _ _ _, hk, .inl ⟨rfl, rfl, seq_all k _ h hfit⟩, h2⟩
      exact hr.rd0
theorem wordno_any (v : Value) (m : Int) (us ad : List Int) (l : List UInt8) (k : Int) (x1 x2 : Bool) (w : World) (hv : MapV w v m us ad) (hlen : l.length ≤ 140737488351232) (hb1 : Hid (mapB m us ad = x1)) (hb2 : Hid (K.validL l = x2)) (HN : Hid (¬ (x1 = true ∧ x2 = true ∧ 0 ≤ k ∧ k ≤ 200))) {c : Int} (hc : Hid (c = if x1 = true ∧ x2 = true then 2 else 1)) :
    Calls Tryz.prog 40 #[v, .string (Str l), .int .i64 k] w (fun e w' => e = .returned (.tuple #[.slice none 0 0, .int .i64 c]) ∧ Ext w w') := by
  rw [hc.out]
  cases x1 with
  | false => exact word_form1 v m us ad l k w hv hlen hb1
  | true =>
    cases x2 with
    | false => exact word_form2 v m us ad l k w hv hlen hb1 hb2
    | true =>
      rcases Int.lt_or_le k 0 with h | h
      · exact word_low v m us ad l k w hv hlen hb1 hb2 h
      · refine word_high v m us ad l k w hv hlen hb1 hb2 h ?_
        rcases Int.lt_or_le 200 k with h2 | h2
        · exact h2
        · exact absurd ⟨rfl, rfl, h, h2⟩ HN.out
end Go.Proofs.YtimokpcopeldfaaGreatDoor
/- one word, one rest; the reference's Alike at any two lists -/
namespace Go.Proofs.YtimokpcopeldfaaGreatDoor
open Go.RowKit
theorem dvd_of_cop {m D a : Int} (hc : Nat.gcd a.natAbs m.natAbs = 1) (h : (D * a) % m = 0) : ∃ E, D = E * m := by
  have h1 : m ∣ D * a := Int.dvd_of_emod_eq_zero h
  have h2 : m.natAbs ∣ D.natAbs * a.natAbs := by rw [← Int.natAbs_mul]; exact Int.natAbs_dvd_natAbs.2 h1
  have h3 : m.natAbs ∣ D.natAbs := Nat.Coprime.dvd_of_dvd_mul_right (by unfold Nat.Coprime; rw [Nat.gcd_comm]; exact hc) h2
  obtain ⟨E, hE⟩ := Int.natAbs_dvd_natAbs.1 h3
  exact ⟨E, by rw [hE, Int.mul_comm]⟩
theorem add_emod_zero {o d m : Int} (h : (o + d) % m = o % m) : d % m = 0 := by
  have h2 : (o + d - o) % m = 0 := by
    rw [Int.sub_emod, h, Int.sub_self]; rfl
  rwa [show o + d - o = d by omega] at h2
/-- two numbers of one word -/
theorem word_diff {m : Int} {us ad : List Int} (hM : mapP m us ad) (hR : regB m us = true) (k : Nat) : ∀ (ws : List Int), ws.length = k → (∀ r ∈ ws, 0 ≤ r ∧ r < m) → ∀ x y, IsWord m us ad ws x → IsWord m us ad ws y → ∃ D, y = x + D * m ^ k := by
  have hm : 0 < m := by have := hM.1; omega
  induction k with
  | zero => intro ws _ _ x y _ _; exact ⟨y - x, by rw [Int.pow_zero]; omega⟩
  | succ k ih =>
    intro ws hl hw x y hx hy
    rcases List.eq_nil_or_concat ws with rfl | ⟨p, r, rfl⟩
    · simp at hl
    · rw [List.concat_eq_append] at *
      have hp : p.length = k := by simpa using hl
      have pre : ∀ z, IsWord m us ad (p ++ [r]) z → IsWord m us ad p z := fun z hz i hi => by
        have := hz i (by simp; omega)
        rwa [List.getD_eq_getElem?_getD, List.getElem?_append_left hi, ← List.getD_eq_getElem?_getD] at this
      have lst : ∀ z, IsWord m us ad (p ++ [r]) z → orbN m us ad k z % m = r := fun z hz => by
        have := hz k (by simp; omega)
        rwa [List.getD_eq_getElem?_getD, List.getElem?_append_right (by omega), hp, Nat.sub_self] at this
      obtain ⟨D, hD⟩ := ih p hp (fun s hs => hw s (by simp [hs])) x y (pre x hx) (pre y hy)
      have ho := alike_orb (us := us) (ad := ad) hm k x D k (Nat.le_refl _)
      rw [← hD, Nat.sub_self, Int.pow_zero, Int.mul_one, growN_line k p hp (pre x hx)] at ho
      have hc := (line_cop hM hR p (fun s hs => hw s (by simp [hs]))).1
      have h1 : (orbN m us ad k x + D * (lineI m us ad p).1) % m = orbN m us ad k x % m := by
        rw [← ho, lst y hy, lst x hx]
      obtain ⟨E, hE⟩ := dvd_of_cop hc (add_emod_zero h1)
      exact ⟨E, by rw [hD, hE, Int.pow_succ, Int.mul_assoc, Int.mul_comm m]⟩
theorem word_mod {m : Int} {us ad : List Int} (hm : 0 < m) {ws : List Int} {x D : Int} (h : IsWord m us ad ws x) : IsWord m us ad ws (x + D * m ^ ws.length) := fun i hi => by
  rw [alike_rest hm ws.length x D i hi, h i hi]
/-- Terras -/
theorem word_iff {m : Int} {us ad : List Int} (hM : mapP m us ad) (hR : regB m us = true) {ws : List Int} (hw : ∀ r ∈ ws, 0 ≤ r ∧ r < m) {R : Int} (h0 : 0 ≤ R) (h1 : R < m ^ ws.length) (hI : IsWord m us ad ws R) (x : Int) : IsWord m us ad ws x ↔ x % m ^ ws.length = R := by
  have hm : 0 < m := by have := hM.1; omega
  constructor
  · intro hx
    obtain ⟨D, hD⟩ := word_diff hM hR ws.length ws rfl hw R x hI hx
    rw [hD, Int.add_mul_emod_self_right, Int.emod_eq_of_lt h0 h1]
  · intro hx
    have e : x = R + (x / m ^ ws.length) * m ^ ws.length := by
      have := Int.emod_add_mul_ediv x (m ^ ws.length)
      rw [hx, Int.mul_comm] at this
      exact this.symm
    rw [e]
    exact word_mod hm hI
theorem wordI_iff {m : Int} {us ad : List Int} {ws : List Int} {x : Int} : wordI m us ad ws.length x = ws ↔ IsWord m us ad ws x := by
  constructor
  · intro h i hi
    have h2 : (wordI m us ad ws.length x).getD i 0 = ws.getD i 0 := by rw [h]
    rw [← h2, List.getD_eq_getElem?_getD]
    unfold wordI
    rw [List.getElem?_map, List.getElem?_range hi]; rfl
  · intro h
    refine List.ext_getElem (word_len _ _ _ _ _) fun i h1 h2 => ?_
    have h3 := h i h2
    rw [List.getD_eq_getElem?_getD, List.getElem?_eq_getElem h2] at h3
    simp only [wordI, List.getElem_map, List.getElem_range]
    exact h3
set_option maxRecDepth 100000 in
set_option maxHeartbeats 1600000 in
theorem ralike_any (A B : Option Addr) (n c k d : Nat) (xs ys : List Int) (w : World) (ra : Rd w A (Is xs)) (rb : Rd w B (Is ys)) (hn : xs.length = n) (hk : ys.length = k) (hb : n ≤ 140737488351232) (hb2 : k ≤ 140737488351232) {b : Bool} (hb3 : Hid (b = true ↔ xs = ys)) :
    Calls Tryz.prog 17 #[.slice A n c, .slice B k d] w (fun e w' => e = .returned (.bool b) ∧ Ext w w') := by
  have HN := hid hn
  have HK := hid hk
  have HA := hid ra
  have HB := hid rb
  by_cases hnk : n = k
  case neg =>
    obtain rfl : b = false := by
      cases b with
      | false => rfl
      | true => exact absurd (by rw [← hn, ← hk, hb3.out.1 rfl]) hnk
    have q0 : ¬ ((n : Int) = (k : Int)) := by omega
    have q1 : ((n : Int) == (k : Int)) = false := beq_eq_false_iff_ne.2 q0
    have q2 : ((n : Int) != (k : Int)) = true := by rw [bne, q1]; rfl
    clear hn hk ra rb hb3
    go_enter Tryz.func17, Tryz.ntmps17
    go_wp2_with fail
    go_ret
    exact ⟨rfl, Ext.rfl' _⟩
  case pos =>
    subst hnk
    have hb4 : n ≤ 9223372036854775807 := by omega
    clear hn hk ra rb
    go_enter Tryz.func17, Tryz.ntmps17
    go_wp2_with fail
    go_loopw [5] (fun iz wr => ∃ j : Nat, j ≤ n ∧ iz = .int .i64 (j : Int) ∧ Hid (∀ i, i < j → xs.getD i 0 = ys.getD i 0) ∧ Ext w wr) (fun iz _ => n - (intOf iz).toNat)
    case atStart => exact ⟨0, by omega, rfl, hid (fun i hi => absurd hi (by omega)), Ext.rfl' _⟩
    case round =>
      obtain ⟨j, hj, rfl, HJ, hex⟩ := hrel
      by_cases hlt : j < n
      · obtain ⟨b1, o1, e1, -, hc1⟩ := (HA.out.ext hex).atI (k := j) (by rw [HN.out]; exact hlt)
        obtain ⟨b2, o2, e2, -, hc2⟩ := (HB.out.ext hex).atI (k := j) (by rw [HK.out]; exact hlt)
        subst e1 e2
        obtain ⟨u, hu⟩ : ∃ u, xs.getD j 0 = u := ⟨_, rfl⟩
        obtain ⟨v, hv⟩ : ∃ v, ys.getD j 0 = v := ⟨_, rfl⟩
        rw [hu] at hc1
        rw [hv] at hc2
        have HU := hid hu
        have HV := hid hv
        clear hu hv
        by_cases huv : u = v
        · subst huv
          go_wp2_with fail
          go_quiet (fail)
          have hex2 := hex.drewN nq
          go_wp2
          go_roundw
          case rel => exact ⟨j + 1, by omega, by simp, hid (fun i hi => by
            rcases Nat.lt_or_ge i j with h | h
            · exact HJ.out i h
            · obtain rfl : i = j := by omega
              rw [HU.out, HV.out]), hex2⟩
          case measure => simp [intOf]; omega
        · obtain rfl : b = false := by
            cases b with
            | false => rfl
            | true => exact absurd (by rw [← HU.out, ← HV.out, hb3.out.1 rfl]) huv
          have q1 : (u == v) = false := beq_eq_false_iff_ne.2 huv
          have q2 : (u != v) = true := by rw [bne, q1]; rfl
          go_wp2_with fail
          go_quiet (fail)
          have hex2 := hex.drewN nq
          have HX := hid hex2
          go_wp2
          go_ret
          exact ⟨rfl, HX.out⟩
      · have HX := hid hex
        obtain rfl : j = n := by omega
        obtain rfl : b = true := hb3.out.2 (List.ext_getElem (by rw [HN.out, HK.out]) fun i h1 h2 => by
          have := HJ.out i (by rw [← HN.out]; exact h1)
          rwa [List.getD_eq_getElem?_getD, List.getElem?_eq_getElem h1, List.getD_eq_getElem?_getD, List.getElem?_eq_getElem h2] at this)
        go_wp2
        go_ret
        exact ⟨rfl, HX.out⟩
end Go.Proofs.YtimokpcopeldfaaGreatDoor
/- a slice of ints appended to an own row -/
namespace Go.Proofs.YtimokpcopeldfaaGreatDoor
open Go.RowKit
section
variable {P : Program}
theorem run_append_slice (w : World) (base : Nat) (t ty e : TypeId) (i : TypeInfo) (ht : P.underlying t = some (.slice e)) (hi : P.info? e = some i) (hz : i.zero = some (.int .i64 0))
    (hsize : i.size = 1) (hby : i.bytes = 8) (V : Option Addr) (n cap : Nat) (xs : List Value) (hown : w.ownsRow base e 1 (.slice V n cap) n xs)
    (B : Option Addr) (k c : Nat) (vs : List Int) (hl : vs.length = k) (hr : Rd w B (Is vs)) (hb : (n + k) * 8 ≤ 140737488355328) (hbase : base ≤ w.heap.size) :
    ∃ V' cap' w', (Builtin.append_ #[t, t] ty #[.slice V n cap, .slice B k c]).run P w = .ok (.slice V' (n + k) cap') w' ∧ w'.ownsRow base e 1 (.slice V' (n + k) cap') (n + k) (xs ++ Is vs) ∧ w.grownBy w' (Value.ownBlock (.slice V n cap)) := by
  rcases Nat.eq_zero_or_pos k with h0 | h0
  · subst h0
    have hvs : vs = [] := List.eq_nil_of_length_eq_zero hl
    subst hvs
    have hsrc : Src P i.size t (.slice B 0 c) 0 [] w := by
      cases B with
      | none => exact Src.ofNil w ht c
      | some ad => exact Src.ofSlice w ht ad 0 c [] (by simp) (by simp) (by simp)
    have hcap : n ≤ cap := by
      rcases hown.2 with ⟨h, h0⟩ | ⟨g, cap0, cur, h, _, _, hc, _⟩
      · injection h with h1 h2 h3; omega
      · injection h with h1 h2 h3; omega
    have hrun := run_append_nothing (P := P) w t t ty e i ht hi V n cap hcap (.slice B 0 c) hsrc
    exact ⟨V, cap, w, hrun, by simpa using hown, ⟨rfl, rfl, rfl, Nat.le_refl _, fun _ _ _ => rfl⟩⟩
  · rcases hr with hn | ⟨g, off, rfl, hlt, hc⟩
    · rw [List.map_eq_nil_iff] at hn; subst hn; simp at hl; omega
    · obtain ⟨v', w', hrun, h2, h3, -⟩ := run_append_own (P := P) w base t ty e i _ 1 8 ht hi hz hsize hby (by rfl) (by omega) _ n xs hown ⟨g, off, none⟩ k c (Is vs) (by simp [hl]) (fun j u hu => by
        have : (⟨g, off, none⟩ : Addr).add j = ⟨g, off + j, none⟩ := by unfold Addr.add; split <;> simp_all
        rw [this]; exact hc j u hu) (fun u hu => by obtain ⟨y, _, rfl⟩ := List.mem_map.1 hu; rfl) (by unfold maxLen; omega) hb hbase
      obtain ⟨g', cap', sp, rfl, -⟩ := own_form h2 (by omega)
      exact ⟨_, _, w', hrun, h2, h3⟩
theorem wpList_append_slice {w : World} {ops : Array Oper} {rest : List Oper} {o : Oper} {a : Act} {Q : Exit → Act → World → Prop} (hgd : o.guard = none) (s x : Operand) (t : TypeId)
    (ho : o.op = .call { callee := .builtin .append, args := #[s, x], argTypes := #[t, t] })
    (base : Nat) (e : TypeId) (i : TypeInfo) (ht : P.underlying t = some (.slice e)) (hi : P.info? e = some i) (hz : i.zero = some (.int .i64 0))
    (hsize : i.size = 1) (hby : i.bytes = 8) (V : Option Addr) (n cap : Nat) (xs : List Value) (hs : a.eval s = .slice V n cap) (hown : w.ownsRow base e 1 (.slice V n cap) n xs)
    (B : Option Addr) (k c : Nat) (vs : List Int) (hx : a.eval x = .slice B k c) (hl : vs.length = k) (hr : Rd w B (Is vs)) (hb : (n + k) * 8 ≤ 140737488355328) (hbase : base ≤ w.heap.size)
    (h : ∀ V' cap' w', w'.ownsRow base e 1 (.slice V' (n + k) cap') (n + k) (xs ++ Is vs) → w.grownBy w' (Value.ownBlock (.slice V n cap)) → wpList P ops Q rest (a.put o.dst (.slice V' (n + k) cap')) w') : wpList P ops Q (o :: rest) a w :=
  wpList_plain hgd fun _ hK => by
    obtain ⟨V', cap', w', hr, h2, h3⟩ := run_append_slice (P := P) w base t o.type e i ht hi hz hsize hby V n cap xs hown B k c vs hl hr hb hbase
    unfold Oper.wp execOp
    simp only [ho, resolve, invoke, builtin, Sem.run_bind, Sem.run_pure, Result.andThen_ok, List.map_toArray, List.map_cons, List.map_nil, hs, hx, hr]
    exact hK _ _ (h V' cap' w' h2 h3)
end
theorem own_new (w : World) (e : TypeId) : (w.alloc (.cells #[] e)).ownsRow w.heap.size e 1 (.slice (some ⟨w.heap.size, 0, none⟩) 0 0) 0 [] :=
  World.ownsRow_made w #[] 0 (Nat.le_refl _) (Nat.zero_le _) rfl
end Go.Proofs.YtimokpcopeldfaaGreatDoor
/- WordParts: numbers, and the linear map of a word behind another -/
namespace Go.Proofs.YtimokpcopeldfaaGreatDoor
open Go.RowKit
theorem line_append (m : Int) (us ad : List Int) (u : List Int) : ∀ (k : Nat) (v : List Int), v.length = k →
    lineI m us ad (u ++ v) = ((lineI m us ad v).1 * (lineI m us ad u).1, (lineI m us ad v).1 * (lineI m us ad u).2.1 + (lineI m us ad v).2.1 * (lineI m us ad u).2.2, (lineI m us ad u).2.2 * (lineI m us ad v).2.2)
  | 0, v, h => by
    rw [List.eq_nil_of_length_eq_zero h, List.append_nil, show lineI m us ad [] = (1, 0, 1) from rfl]
    simp
  | k + 1, v, h => by
    rcases List.eq_nil_or_concat v with rfl | ⟨p, r, rfl⟩
    · simp at h
    · rw [List.concat_eq_append] at *
      have ih := line_append m us ad u k p (by simpa using h)
      rw [← List.append_assoc, lineI_snoc, lineI_snoc, ih]
      unfold thenL
      generalize lineI m us ad u = x
      generalize lineI m us ad p = y
      generalize us.getD r.toNat 0 = s
      generalize ad.getD r.toNat 0 = t
      obtain ⟨M, A, D⟩ := x
      obtain ⟨P, Q, R⟩ := y
      simp only
      refine Prod.ext ?_ (Prod.ext ?_ ?_)
      · show s * (P * M) = s * P * M
        rw [Int.mul_assoc]
      · show s * (P * A + Q * D) + t * (D * R) = s * P * A + (s * Q + t * R) * D
        rw [Int.mul_add, Int.add_mul, Int.mul_assoc s P A, Int.mul_assoc s Q D, Int.mul_assoc t R D, Int.mul_comm D R, Int.add_assoc]
      · show D * R * m = D * (R * m)
        rw [Int.mul_assoc]
end Go.Proofs.YtimokpcopeldfaaGreatDoor
/- the law WordParts, where both words together are not too long for one list -/
namespace Go.Proofs.YtimokpcopeldfaaGreatDoor
open Go.RowKit
theorem wordB_parts {m : Int} {u v : List Int} (h : wordB m (u ++ v) = true) : wordB m u = true ∧ wordB m v = true := by
  have h1 := wordB_iff.1 h
  have hl : u.length + v.length ≤ 200 := by simpa using h1.1
  exact ⟨wordB_iff.2 ⟨by omega, fun r hr => h1.2 r (by simp [hr])⟩, wordB_iff.2 ⟨by omega, fun r hr => h1.2 r (by simp [hr])⟩⟩
theorem parse_s (X : Int) (s : ByteArray) (w : World) (hf : K.fits X) (hs : Hid (Str (K.txt X) = s)) :
    Calls Tryz.prog 21 #[.string s] w (RefPost X w) := by
  have h := parse_any (K.txt X) w (K.valid_txt X hf)
  rwa [K.numL_txt, hs.out] at h
theorem mulF_big {M N : Int} (h1 : K.fits M) (h2 : K.fits N) : (M * N).natAbs ≤ BIG := by
  rw [Int.natAbs_mul]; exact le_big (mul_top (fits_top h1) (fits_top h2)) (by omega)
end Go.Proofs.YtimokpcopeldfaaGreatDoor
/- the law WordTerras -/
namespace Go.Proofs.YtimokpcopeldfaaGreatDoor
open Go.RowKit
theorem rregular_b (v : Value) (m : Int) (us ad : List Int) (w : World) (hv : MapV w v m us ad) (hM : Hid (mapP m us ad)) {b : Bool} (hb : Hid (regB m us = b)) :
    Calls Tryz.prog 43 #[v] w (fun e w' => e = .returned (.bool b) ∧ Ext w w') := by
  rw [← hb.out]; exact rregular_any v m us ad w hv hM
theorem rvalid_s (X : Int) (s : ByteArray) (w : World) (hf : K.fits X) (hs : Hid (Str (K.txt X) = s)) :
    Calls Tryz.prog 19 #[.string s] w fun e w' => e = .returned (.bool true) ∧ w = w' := by
  have h := rvalid_at (K.txt X) (v := true) w (hid (K.valid_txt X hf)) (len_of (K.txt_len _ hf))
  rwa [hs.out] at h
theorem rcmp_s (va vb : Value) (a b : Int) (w : World) (ha : RefV w va a) (hb : RefV w vb b) (la : a.natAbs ≤ BIG) (lb : b.natAbs ≤ BIG) {c : Int} (hc : Hid (sgnI a b = c)) :
    Calls Tryz.prog 23 #[va, vb] w (fun e w' => e = .returned (.int .i64 c) ∧ Ext w w') := by
  rw [← hc.out]; exact rcmp_any va vb a b w ha hb la lb
theorem wordc_s (v : Value) (m : Int) (us ad : List Int) (y : Int) (s : ByteArray) (k : Nat) (w : World) (hv : MapV w v m us ad) (hb1 : Hid (mapB m us ad = true)) (hf : K.fits y) (hs : Hid (Str (K.txt y) = s)) (hk : k ≤ 200) (ht : Tab w) :
    Calls Tryz.prog 40 #[v, .string s, .int .i64 (k : Int)] w (fun e w' => ∃ A wn f ws, e = .returned (.tuple #[.slice A wn wn, .int .i64 f]) ∧ Rd w' A (Is ws) ∧ ws.length = wn ∧ wn ≤ 200 ∧ WordC m us ad k y ws f ∧ Ext w w') := by
  have h := wordc_any v m us ad (K.txt y) k w hv (len_of (K.txt_len _ hf)) hb1 (hid (K.valid_txt y hf)) hk ht
  rwa [hs.out, K.numL_txt] at h
theorem terras_big {X D R : Int} (hX : K.fits X) (hD : K.fits D) (h0 : 0 ≤ R) (h1 : R < D) : (X - X % D).natAbs ≤ BIG ∧ (X - X % D + R).natAbs ≤ BIG := by
  have h2 := Int.emod_nonneg X (show D ≠ 0 by omega)
  have h3 := Int.emod_lt_of_pos X (show 0 < D by omega)
  have t1 := fits_top hX
  have t2 := fits_top hD
  have e1 : TOP 224 = TOP 1 * TOP 223 := TOP_add 1 223
  have e2 : TOP 1 = 1000000000 := by decide
  have e3 := TOP_pos 223
  have h4 : (X - X % D).natAbs < TOP 224 ∧ (X - X % D + R).natAbs < TOP 224 := by
    rw [e1, e2]
    generalize TOP 223 = t at *
    generalize X % D = q at *
    omega
  exact ⟨le_big h4.1 (by omega), le_big h4.2 (by omega)⟩
theorem terras_mod {X D R : Int} (h0 : 0 ≤ R) (h1 : R < D) : (X - X % D + R) % D = R := by
  have e : X - X % D + R = R + D * (X / D) := by
    have := Int.emod_add_mul_ediv X D
    omega
  rw [e, Int.add_mul_emod_self_left, Int.emod_eq_of_lt h0 h1]
end Go.Proofs.YtimokpcopeldfaaGreatDoor
/- the reference's Value of layer 3 -/
namespace Go.Proofs.YtimokpcopeldfaaGreatDoor
open Go.RowKit
end Go.Proofs.YtimokpcopeldfaaGreatDoor
/- the reference's linear maps: One, Then, Text -/
namespace Go.Proofs.YtimokpcopeldfaaGreatDoor
open Go.RowKit
/-- a linear map of the reference's -/
def LineR (w : World) (v : Value) (l : Int × Int × Int) : Prop :=
  ∃ (b1 : Bool) (A1 : Option Addr) (k1 c1 : Nat) (b2 : Bool) (A2 : Option Addr) (k2 c2 : Nat) (b3 : Bool) (A3 : Option Addr) (k3 c3 : Nat), v = .agg #[.bool b1, .slice A1 k1 c1, .bool b2, .slice A2 k2 c2, .bool b3, .slice A3 k3 c3] ∧ RefV w (.agg #[.bool b1, .slice A1 k1 c1]) l.1 ∧ RefV w (.agg #[.bool b2, .slice A2 k2 c2]) l.2.1 ∧ RefV w (.agg #[.bool b3, .slice A3 k3 c3]) l.2.2
theorem LineR.ext {w w' : World} {v : Value} {l : Int × Int × Int} (h : LineR w v l) (e : Ext w w') : LineR w' v l := by
  obtain ⟨b1, A1, k1, c1, b2, A2, k2, c2, b3, A3, k3, c3, h0, h1, h2, h3⟩ := h
  exact ⟨b1, A1, k1, c1, b2, A2, k2, c2, b3, A3, k3, c3, h0, h1.ext e, h2.ext e, h3.ext e⟩
theorem LineR.kept {w w' : World} {v : Value} {l : Int × Int × Int} (h : LineR w v l) (e : KeepRd w w') : LineR w' v l := by
  obtain ⟨b1, A1, k1, c1, b2, A2, k2, c2, b3, A3, k3, c3, h0, h1, h2, h3⟩ := h
  exact ⟨b1, A1, k1, c1, b2, A2, k2, c2, b3, A3, k3, c3, h0, h1.kept e, h2.kept e, h3.kept e⟩
def LinePost (l : Int × Int × Int) (w : World) (e : Ending) (w' : World) : Prop := ∃ v, e = .returned v ∧ LineR w' v l ∧ Ext w w'
theorem ref_nil (w : World) : RefV w (.agg #[.bool false, .slice none 0 0]) 0 := ⟨none, 0, 0, [], false, rfl, hid (by simp), rfl, Nat.le_refl _, Rd.nil _ _, ⟨by simp, by simp⟩, rfl⟩
/-- all blocks but H are as they were -/
def Off (w w' : World) (H : Nat) : Prop := w'.heap.size = w.heap.size ∧ ∀ g, g ≠ H → w'.heap[g]? = w.heap[g]?
theorem Off.rfl' (w : World) (H : Nat) : Off w w H := ⟨rfl, fun _ _ => rfl⟩
theorem Off.set {w w' : World} {H : Nat} (h : Off w w' H) (i : Nat) (u : Value) : Off w (w'.setCell ⟨H, i, none⟩ u) H :=
  ⟨by rw [World.size_setCell]; exact h.1, fun g hg => (Below.heap_setCell w' ⟨H, i, none⟩ u g (by exact hg)).trans (h.2 g hg)⟩
theorem Off.cell {w w' : World} {H : Nat} (h : Off w w' H) {g i : Nat} (hg : g ≠ H) : w'.cell? ⟨g, i, none⟩ = w.cell? ⟨g, i, none⟩ := World.cell?_of_block (h.2 g hg)
theorem Off.row {w w' : World} {H g : Nat} {t : TypeId} {vs : List Value} (h : Off w w' H) (r : Row w g t vs) (hg : g ≠ H) : Row w' g t vs := (h.2 g hg).trans r
theorem Off.keep {w w' : World} {H : Nat} {t : TypeId} {vs : List Value} (h : Off w w' H) (r : Row w H t vs) (hv : NoInt vs) : KeepRd w w' :=
  KeepRd.but ⟨vs.toArray, t, (0, 0), r, by simpa using hv⟩ (by rw [h.1]; exact Nat.le_refl _) (fun j _ hj => h.2 j hj)
theorem Off.ext {w w1 w' : World} {H : Nat} (h : Off w1 w' H) (e : Ext w w1) (hH : w.heap.size ≤ H) (ho : w'.os = w1.os) (ht : w'.tape = w1.tape) (hp : w'.output = w1.output) : Ext w w' :=
  ⟨ho.trans e.os, ht.trans e.tape, hp.trans e.output, by rw [h.1]; exact e.size, fun g hg => (h.2 g (by omega)).trans (e.block g hg)⟩
theorem no_int6 (b1 b2 b3 : Bool) (A1 A2 A3 : Option Addr) (k1 k2 k3 c1 c2 c3 : Nat) : NoInt [.bool b1, .slice A1 k1 c1, .bool b2, .slice A2 k2 c2, .bool b3, .slice A3 k3 c3] := by
  intro v hv k x e
  subst e
  simp at hv
theorem row_facts6 {w : World} {g : Nat} {t : TypeId} {a b c d e f : Value} (h : Row w g t [a, b, c, d, e, f]) :
    (w.cell? ⟨g, 0, none⟩ = some a ∧ w.cell? ⟨g, 1, none⟩ = some b ∧ w.cell? ⟨g, 2, none⟩ = some c ∧ w.cell? ⟨g, 3, none⟩ = some d ∧ w.cell? ⟨g, 4, none⟩ = some e ∧ w.cell? ⟨g, 5, none⟩ = some f) ∧
    (w.frozen? ⟨g, 0, none⟩ = false ∧ w.frozen? ⟨g, 1, none⟩ = false ∧ w.frozen? ⟨g, 2, none⟩ = false ∧ w.frozen? ⟨g, 3, none⟩ = false ∧ w.frozen? ⟨g, 4, none⟩ = false ∧ w.frozen? ⟨g, 5, none⟩ = false) :=
  ⟨⟨by rw [h.cell]; rfl, by rw [h.cell]; rfl, by rw [h.cell]; rfl, by rw [h.cell]; rfl, by rw [h.cell]; rfl, by rw [h.cell]; rfl⟩, h.free 0, h.free 1, h.free 2, h.free 3, h.free 4, h.free 5⟩
theorem Row.put6 {w : World} {H : Nat} {t : TypeId} {a b c d e f a' b' c' d' e' f' : Value} (h : Row w H t [a, b, c, d, e, f]) : Row (((((((w.setCell ⟨H, 0, none⟩ (a')).setCell ⟨H, 1, none⟩ (b')).setCell ⟨H, 2, none⟩ (c')).setCell ⟨H, 3, none⟩ (d')).setCell ⟨H, 4, none⟩ (e')).setCell ⟨H, 5, none⟩ (f'))) H t [a', b', c', d', e', f'] :=
  (((((h.set 0 a').set 1 b').set 2 c').set 3 d').set 4 e').set 5 f'
/-- a linear map put into a box of its own -/
theorem LineR.put {w w3 : World} {l : Int × Int × Int} {H : Nat} {b1 b2 b3 p1 p2 p3 : Bool} {A1 A2 A3 P1 P2 P3 : Option Addr} {k1 c1 k2 c2 k3 c3 q1 d1 q2 d2 q3 d3 : Nat} (r : Row w3 H 82 [.bool b1, .slice A1 k1 c1, .bool b2, .slice A2 k2 c2, .bool b3, .slice A3 k3 c3]) (hw : Ext w w3) (hH : w.heap.size ≤ H)
    (h1 : RefV w3 (.agg #[.bool p1, .slice P1 q1 d1]) l.1) (h2 : RefV w3 (.agg #[.bool p2, .slice P2 q2 d2]) l.2.1) (h3 : RefV w3 (.agg #[.bool p3, .slice P3 q3 d3]) l.2.2) :
    LinePost l w (.returned (.agg #[.bool p1, .slice P1 q1 d1, .bool p2, .slice P2 q2 d2, .bool p3, .slice P3 q3 d3])) (((((((w3.setCell ⟨H, 0, none⟩ (.bool p1)).setCell ⟨H, 1, none⟩ (.slice P1 q1 d1)).setCell ⟨H, 2, none⟩ (.bool p2)).setCell ⟨H, 3, none⟩ (.slice P2 q2 d2)).setCell ⟨H, 4, none⟩ (.bool p3)).setCell ⟨H, 5, none⟩ (.slice P3 q3 d3))) := by
  have ho : Off w3 (((((((w3.setCell ⟨H, 0, none⟩ (.bool p1)).setCell ⟨H, 1, none⟩ (.slice P1 q1 d1)).setCell ⟨H, 2, none⟩ (.bool p2)).setCell ⟨H, 3, none⟩ (.slice P2 q2 d2)).setCell ⟨H, 4, none⟩ (.bool p3)).setCell ⟨H, 5, none⟩ (.slice P3 q3 d3))) H := (((((((Off.rfl' _ _).set _ _).set _ _).set _ _).set _ _).set _ _).set _ _)
  have hk := ho.keep r (no_int6 _ _ _ _ _ _ _ _ _ _ _ _)
  exact ⟨_, rfl, ⟨_, _, _, _, _, _, _, _, _, _, _, _, rfl, h1.kept hk, h2.kept hk, h3.kept hk⟩, ((((((hw.set' (by show _ ≤ H; omega) _).set' (by show _ ≤ H; omega) _).set' (by show _ ≤ H; omega) _).set' (by show _ ≤ H; omega) _).set' (by show _ ≤ H; omega) _).set' (by show _ ≤ H; omega) _)⟩
set_option maxRecDepth 100000 in
set_option maxHeartbeats 3200000 in
theorem one_any (w : World) : Calls Tryz.prog 49 #[] w (LinePost (1, 0, 1) w) := by
  have hx : Ext w (w.alloc (.cells #[.bool false, .slice none 0 0, .bool false, .slice none 0 0, .bool false, .slice none 0 0] 82)) := (Ext.rfl' w).alloc' _
  have hr : Row (w.alloc (.cells #[.bool false, .slice none 0 0, .bool false, .slice none 0 0, .bool false, .slice none 0 0] 82)) w.heap.size 82 [.bool false, .slice none 0 0, .bool false, .slice none 0 0, .bool false, .slice none 0 0] := Row.new w _ _
  obtain ⟨W1, hW1⟩ : ∃ W1, (w.alloc (.cells #[.bool false, .slice none 0 0, .bool false, .slice none 0 0, .bool false, .slice none 0 0] 82)) = W1 := ⟨_, rfl⟩
  rw [hW1] at hx hr
  have HX := hid hx
  have HR := hid hr
  have HW1 := hid hW1
  clear hW1 hx hr
  go_enter Tryz.func49, Tryz.ntmps49
  go_upto_region 1 with fail
  rw [HW1.out]
  go_wp2_with fail
  refine (of_any 1 W1 (by omega)).mono ?_
  rintro e w2 ⟨v2, rfl, hv2, hx2⟩
  have HV2 := hid hv2
  have HE2 := hid hx2
  obtain ⟨A2, k2, c2, xs2, b2, rfl, -⟩ := hv2
  clear hx2
  go_wp2_with fail
  refine (of_any 1 w2 (by omega)).mono ?_
  rintro e w3 ⟨v3, rfl, hv3, hx3⟩
  have HV3 := hid hv3
  have HE3 := hid (HE2.out.step hx3)
  have HV2B := hid (HV2.out.ext hx3)
  obtain ⟨A3, k3, c3, xs3, b3, rfl, -⟩ := hv3
  have hr3 := HR.out.ext HE3.out
  have hfin := LineR.put (l := (1, 0, 1)) hr3 (HX.out.step HE3.out) (Nat.le_refl _) HV2B.out (ref_nil w3) HV3.out
  have HF := hid hfin
  obtain ⟨⟨y0, y1, y2, y3, y4, y5⟩, z0, z1, z2, z3, z4, z5⟩ := row_facts6 hr3
  clear hx3 hfin hr3
  go_wp2
  refine bodyPost_ret (v := .agg #[.bool b2, .slice A2 k2 c2, .bool false, .slice none 0 0, .bool b3, .slice A3 k3 c3]) (by simp [results, Tryz.results49, go_sem, y0, y1, y2, y3, y4, y5]) rfl HF.out
set_option maxRecDepth 100000 in
set_option maxHeartbeats 12800000 in
theorem then_l (ba oa bb ob n cc n2 d2 r : Nat) (u a m M A D : Int) (b1 b2 b3 : Bool) (A1 A2 A3 : Option Addr) (k1 c1 k2 c2 k3 c3 : Nat) (us ad : List Int) (w : World) (hra : Rd w (some ⟨ba, oa, none⟩) (Is us)) (hrb : Rd w (some ⟨bb, ob, none⟩) (Is ad)) (hn1 : us.length = n) (hn2 : ad.length = n2)
    (h1 : RefV w (.agg #[.bool b1, .slice A1 k1 c1]) M) (h2 : RefV w (.agg #[.bool b2, .slice A2 k2 c2]) A) (h3 : RefV w (.agg #[.bool b3, .slice A3 k3 c3]) D) (hrn : r < n) (hrn2 : r < n2) (hu : Hid (us.getD r 0 = u)) (ha : Hid (ad.getD r 0 = a))
    (B : Hid (M.natAbs ≤ BIG ∧ A.natAbs ≤ BIG ∧ D.natAbs ≤ BIG ∧ (u * A).natAbs ≤ BIG ∧ (a * D).natAbs ≤ BIG)) (BU : Hid (u.natAbs < 1000000000)) (BA : Hid (a.natAbs < 1000000000)) (BM : Hid (m.natAbs < 1000000000)) :
    Calls Tryz.prog 50 #[.agg #[.int .i64 m, .slice (some ⟨ba, oa, none⟩) n cc, .slice (some ⟨bb, ob, none⟩) n2 d2], .agg #[.bool b1, .slice A1 k1 c1, .bool b2, .slice A2 k2 c2, .bool b3, .slice A3 k3 c3], .int .i64 (r : Int)] w (LinePost (u * M, u * A + a * D, D * m) w) := by
  have hx : Ext w (((w.alloc (.cells #[.int .i64 m, .slice (some ⟨ba, oa, none⟩) n cc, .slice (some ⟨bb, ob, none⟩) n2 d2] 24)).alloc (.cells #[.bool b1, .slice A1 k1 c1, .bool b2, .slice A2 k2 c2, .bool b3, .slice A3 k3 c3] 82)).alloc (.cells #[.bool false, .slice none 0 0, .bool false, .slice none 0 0, .bool false, .slice none 0 0] 82)) := (((Ext.rfl' w).alloc' _).alloc' _).alloc' _
  have hr1 : Row (((w.alloc (.cells #[.int .i64 m, .slice (some ⟨ba, oa, none⟩) n cc, .slice (some ⟨bb, ob, none⟩) n2 d2] 24)).alloc (.cells #[.bool b1, .slice A1 k1 c1, .bool b2, .slice A2 k2 c2, .bool b3, .slice A3 k3 c3] 82)).alloc (.cells #[.bool false, .slice none 0 0, .bool false, .slice none 0 0, .bool false, .slice none 0 0] 82)) w.heap.size 24 [.int .i64 m, .slice (some ⟨ba, oa, none⟩) n cc, .slice (some ⟨bb, ob, none⟩) n2 d2] := ((Row.new w _ _).alloc _).alloc _
  have hr2 : Row (((w.alloc (.cells #[.int .i64 m, .slice (some ⟨ba, oa, none⟩) n cc, .slice (some ⟨bb, ob, none⟩) n2 d2] 24)).alloc (.cells #[.bool b1, .slice A1 k1 c1, .bool b2, .slice A2 k2 c2, .bool b3, .slice A3 k3 c3] 82)).alloc (.cells #[.bool false, .slice none 0 0, .bool false, .slice none 0 0, .bool false, .slice none 0 0] 82)) (w.heap.size + 1) 82 [.bool b1, .slice A1 k1 c1, .bool b2, .slice A2 k2 c2, .bool b3, .slice A3 k3 c3] := by
    have := (Row.new (w.alloc (.cells #[.int .i64 m, .slice (some ⟨ba, oa, none⟩) n cc, .slice (some ⟨bb, ob, none⟩) n2 d2] 24)) 82 [.bool b1, .slice A1 k1 c1, .bool b2, .slice A2 k2 c2, .bool b3, .slice A3 k3 c3]).alloc (.cells #[.bool false, .slice none 0 0, .bool false, .slice none 0 0, .bool false, .slice none 0 0] 82)
    rwa [World.size_alloc] at this
  have hr3 : Row (((w.alloc (.cells #[.int .i64 m, .slice (some ⟨ba, oa, none⟩) n cc, .slice (some ⟨bb, ob, none⟩) n2 d2] 24)).alloc (.cells #[.bool b1, .slice A1 k1 c1, .bool b2, .slice A2 k2 c2, .bool b3, .slice A3 k3 c3] 82)).alloc (.cells #[.bool false, .slice none 0 0, .bool false, .slice none 0 0, .bool false, .slice none 0 0] 82)) (w.heap.size + 1 + 1) 82 [.bool false, .slice none 0 0, .bool false, .slice none 0 0, .bool false, .slice none 0 0] := by
    have := Row.new ((w.alloc (.cells #[.int .i64 m, .slice (some ⟨ba, oa, none⟩) n cc, .slice (some ⟨bb, ob, none⟩) n2 d2] 24)).alloc (.cells #[.bool b1, .slice A1 k1 c1, .bool b2, .slice A2 k2 c2, .bool b3, .slice A3 k3 c3] 82)) 82 [.bool false, .slice none 0 0, .bool false, .slice none 0 0, .bool false, .slice none 0 0]
    rwa [World.size_alloc, World.size_alloc] at this
  obtain ⟨W3, hW3⟩ : ∃ W3, (((w.alloc (.cells #[.int .i64 m, .slice (some ⟨ba, oa, none⟩) n cc, .slice (some ⟨bb, ob, none⟩) n2 d2] 24)).alloc (.cells #[.bool b1, .slice A1 k1 c1, .bool b2, .slice A2 k2 c2, .bool b3, .slice A3 k3 c3] 82)).alloc (.cells #[.bool false, .slice none 0 0, .bool false, .slice none 0 0, .bool false, .slice none 0 0] 82)) = W3 := ⟨_, rfl⟩
  rw [hW3] at hx hr1 hr2 hr3
  have HW3 := hid hW3
  have HX := hid hx
  have R1 := hid hr1
  have R2 := hid hr2
  have R3 := hid hr3
  have HL1 := hid (h1.ext hx)
  have HL2 := hid (h2.ext hx)
  have HL3 := hid (h3.ext hx)
  have HRA := hid (hra.ext hx)
  have HRB := hid (hrb.ext hx)
  have HN1 := hid hn1
  have HN2 := hid hn2
  have hbb : bb < w.heap.size := by
    obtain ⟨b3, o3, e3, hlt, -⟩ := hrb.atI (k := r) (by omega)
    cases e3
    exact hlt
  have HBB := hid hbb
  have i0 : (0 : Int) ≤ (r : Int) := by omega
  have i1 : (r : Int) < (n : Int) := by omega
  have i2 : (r : Int) < (n2 : Int) := by omega
  obtain ⟨f0, f1, f2, -, -, -⟩ := row_facts3 hr1
  obtain ⟨ba', oa', ea, -, hca⟩ := (hra.ext hx).atI (k := r) (by omega)
  cases ea
  rw [hu.out] at hca
  clear hW3 hx hr1 hr2 hr3 h1 h2 h3 hra hrb hn1 hn2 hbb
  have BUB : Hid (u.natAbs ≤ BIG ∧ a.natAbs ≤ BIG ∧ m.natAbs ≤ BIG) := hid ⟨small_big BU.out, small_big BA.out, small_big BM.out⟩
  go_enter Tryz.func50, Tryz.ntmps50
  go_upto_region 1 with fail
  rw [HW3.out]
  go_wp2_with fail
  refine (of_any u W3 (by have := BU.out; omega)).mono ?_
  rintro e w4 ⟨vu, rfl, hvu, hx4⟩
  have hvu2 := hvu
  obtain ⟨Au, ku, cu, xsu, bu, rfl, -⟩ := hvu
  have hy := hx4.alloc' (.cells #[.bool bu, .slice Au ku cu] 47)
  have hr := Row.new w4 47 [.bool bu, .slice Au ku cu]
  have hv := hvu2.ext ((Ext.rfl' w4).alloc' (.cells #[.bool bu, .slice Au ku cu] 47))
  obtain ⟨H3, hH3⟩ : ∃ H3, w4.heap.size = H3 := ⟨_, rfl⟩
  have hgt : w.heap.size + 1 + 1 < H3 := by
    have e1 := R3.out.lt
    have e2 := hx4.size
    omega
  rw [hH3] at hr
  obtain ⟨W4, hW4⟩ : ∃ W4, w4.alloc (.cells #[.bool bu, .slice Au ku cu] 47) = W4 := ⟨_, rfl⟩
  rw [hW4] at hy hr hv
  have HW4 := hid hW4
  have HE4 := hid hy
  have R4 := hid hr
  have HVU := hid hv
  have HGT := hid hgt
  have HL1 := hid (HL1.out.ext HE4.out)
  have HL2 := hid (HL2.out.ext HE4.out)
  have HL3 := hid (HL3.out.ext HE4.out)
  have HSG : Hid (∀ W' W'', Ext W4 W' → Off W' W'' (w.heap.size + 1 + 1) → W''.cell? ⟨w.heap.size, 0, none⟩ = some (.int .i64 m) ∧ W''.cell? ⟨w.heap.size, 1, none⟩ = some (.slice (some ⟨ba, oa, none⟩) n cc) ∧ W''.cell? ⟨w.heap.size, 2, none⟩ = some (.slice (some ⟨bb, ob, none⟩) n2 d2) ∧ W''.cell? ⟨w.heap.size + 1, 0, none⟩ = some (.bool b1) ∧ W''.cell? ⟨w.heap.size + 1, 1, none⟩ = some (.slice A1 k1 c1) ∧ W''.cell? ⟨w.heap.size + 1, 2, none⟩ = some (.bool b2) ∧ W''.cell? ⟨w.heap.size + 1, 3, none⟩ = some (.slice A2 k2 c2) ∧ W''.cell? ⟨w.heap.size + 1, 4, none⟩ = some (.bool b3) ∧ W''.cell? ⟨w.heap.size + 1, 5, none⟩ = some (.slice A3 k3 c3) ∧ W''.cell? ⟨bb, ob + r, none⟩ = some (.int .i64 a) ∧ W''.cell? ⟨H3, 0, none⟩ = some (.bool bu) ∧ W''.cell? ⟨H3, 1, none⟩ = some (.slice Au ku cu)) := hid (by
    intro W' W'' e ho
    obtain ⟨p0, p1, p2, -, -, -⟩ := row_facts3 (R1.out.ext (HE4.out.step e))
    obtain ⟨⟨q0, q1, q2, q3, q4, q5⟩, -⟩ := row_facts6 (R2.out.ext (HE4.out.step e))
    obtain ⟨s0, s1, -, -⟩ := row_facts (R4.out.ext e)
    obtain ⟨b3, o3, e3, -, hc2⟩ := ((HRB.out.ext HE4.out).ext e).atI (k := r) (by rw [HN2.out]; exact hrn2)
    cases e3
    rw [ha.out] at hc2
    have n0 : w.heap.size ≠ w.heap.size + 1 + 1 := by omega
    have n1 : w.heap.size + 1 ≠ w.heap.size + 1 + 1 := by omega
    have n2 : bb ≠ w.heap.size + 1 + 1 := by have := HBB.out; omega
    have n3 : H3 ≠ w.heap.size + 1 + 1 := by have := HGT.out; omega
    refine ⟨?_, ?_, ?_, ?_, ?_, ?_, ?_, ?_, ?_, ?_, ?_, ?_⟩
    · rw [ho.cell n0]; exact p0
    · rw [ho.cell n0]; exact p1
    · rw [ho.cell n0]; exact p2
    · rw [ho.cell n1]; exact q0
    · rw [ho.cell n1]; exact q1
    · rw [ho.cell n1]; exact q2
    · rw [ho.cell n1]; exact q3
    · rw [ho.cell n1]; exact q4
    · rw [ho.cell n1]; exact q5
    · rw [ho.cell n2]; exact hc2
    · rw [ho.cell n3]; exact s0
    · rw [ho.cell n3]; exact s1)
  have HSO : Hid (∀ W' W'', Ext W4 W' → Off W' W'' (w.heap.size + 1 + 1) → W''.cell? ⟨w.heap.size, 0, none⟩ = some (.int .i64 m) ∧ W''.cell? ⟨w.heap.size, 1, none⟩ = some (.slice (some ⟨ba, oa, none⟩) n cc) ∧ W''.cell? ⟨w.heap.size, 2, none⟩ = some (.slice (some ⟨bb, ob, none⟩) n2 d2) ∧ W''.cell? ⟨w.heap.size + 1, 0, none⟩ = some (.bool b1) ∧ W''.cell? ⟨w.heap.size + 1, 1, none⟩ = some (.slice A1 k1 c1) ∧ W''.cell? ⟨w.heap.size + 1, 2, none⟩ = some (.bool b2) ∧ W''.cell? ⟨w.heap.size + 1, 3, none⟩ = some (.slice A2 k2 c2) ∧ W''.cell? ⟨w.heap.size + 1, 4, none⟩ = some (.bool b3) ∧ W''.cell? ⟨w.heap.size + 1, 5, none⟩ = some (.slice A3 k3 c3) ∧ W''.cell? ⟨bb, ob + r, none⟩ = some (.int .i64 a) ∧ W''.cell? ⟨H3, 0, none⟩ = some (.bool bu) ∧ W''.cell? ⟨H3, 1, none⟩ = some (.slice Au ku cu)) := HSG
  have HS : Hid (∀ W', Ext W4 W' → W'.cell? ⟨w.heap.size, 0, none⟩ = some (.int .i64 m) ∧ W'.cell? ⟨w.heap.size, 1, none⟩ = some (.slice (some ⟨ba, oa, none⟩) n cc) ∧ W'.cell? ⟨w.heap.size, 2, none⟩ = some (.slice (some ⟨bb, ob, none⟩) n2 d2) ∧ W'.cell? ⟨w.heap.size + 1, 0, none⟩ = some (.bool b1) ∧ W'.cell? ⟨w.heap.size + 1, 1, none⟩ = some (.slice A1 k1 c1) ∧ W'.cell? ⟨w.heap.size + 1, 2, none⟩ = some (.bool b2) ∧ W'.cell? ⟨w.heap.size + 1, 3, none⟩ = some (.slice A2 k2 c2) ∧ W'.cell? ⟨w.heap.size + 1, 4, none⟩ = some (.bool b3) ∧ W'.cell? ⟨w.heap.size + 1, 5, none⟩ = some (.slice A3 k3 c3) ∧ W'.cell? ⟨bb, ob + r, none⟩ = some (.int .i64 a) ∧ W'.cell? ⟨H3, 0, none⟩ = some (.bool bu) ∧ W'.cell? ⟨H3, 1, none⟩ = some (.slice Au ku cu)) := hid fun W' e => HSG.out W' W' e (Off.rfl' _ _)
  clear HSG f0 f1 f2 hca hx4 hvu2 hy hr hv hW4 hgt
  have hcur : Ext W4 W4 := Ext.rfl' _
  go_upto_region 2 with fail
  rw [HW4.out]
  clear hH3
  go_region_held3 (fun W' => W'.cell? ⟨w.heap.size, 0, none⟩ = some (.int .i64 m) ∧ W'.cell? ⟨w.heap.size, 1, none⟩ = some (.slice (some ⟨ba, oa, none⟩) n cc) ∧ W'.cell? ⟨w.heap.size, 2, none⟩ = some (.slice (some ⟨bb, ob, none⟩) n2 d2) ∧ W'.cell? ⟨w.heap.size + 1, 0, none⟩ = some (.bool b1) ∧ W'.cell? ⟨w.heap.size + 1, 1, none⟩ = some (.slice A1 k1 c1) ∧ W'.cell? ⟨w.heap.size + 1, 2, none⟩ = some (.bool b2) ∧ W'.cell? ⟨w.heap.size + 1, 3, none⟩ = some (.slice A2 k2 c2) ∧ W'.cell? ⟨w.heap.size + 1, 4, none⟩ = some (.bool b3) ∧ W'.cell? ⟨w.heap.size + 1, 5, none⟩ = some (.slice A3 k3 c3) ∧ W'.cell? ⟨bb, ob + r, none⟩ = some (.int .i64 a) ∧ W'.cell? ⟨H3, 0, none⟩ = some (.bool bu) ∧ W'.cell? ⟨H3, 1, none⟩ = some (.slice Au ku cu))
    (first | (with_reducible exact HS.out _ hcur) | (with_reducible exact HS.out _ hcur.drew') | (with_reducible exact HSO.out _ _ hcur (((((((Off.rfl' _ _).set _ _).set _ _).set _ _).set _ _).set _ _).set _ _)) | go_keep)
    (first
      | (go_at_call 31; refine (Calls.at_args ?_ (rmul_any (.agg #[.bool bu, .slice Au ku cu]) (.agg #[.bool b1, .slice A1 k1 c1]) (u) (M) _ (HVU.out.ext ?_) (HL1.out.ext ?_) BUB.out.1 B.out.1)).mono ?_; (with_reducible rfl); (first | exact hcur | exact hcur.drew' | exact hcur.alloc' _ | exact hcur.drew'.alloc' _ | exact (hcur.alloc' _).drew'); (first | exact hcur | exact hcur.drew' | exact hcur.alloc' _ | exact hcur.drew'.alloc' _ | exact (hcur.alloc' _).drew'); rintro e w20 ⟨v20, rfl, hv20, hx⟩; have hcur := Ext.step hcur (by first | exact hx | exact Ext.undrew hx | exact Ext.step ((Ext.rfl' _).alloc' _) hx | exact Ext.step ((Ext.rfl' _).drew'.alloc' _) hx); have HV20 := hid hv20; obtain ⟨A20, k20, c20, xs20, b20, rfl, -⟩ := hv20)
      | (go_at_call 31; refine (Calls.at_args ?_ (rmul_any (.agg #[.bool bu, .slice Au ku cu]) (.agg #[.bool b2, .slice A2 k2 c2]) (u) (A) _ (HVU.out.ext ?_) (HL2.out.ext ?_) BUB.out.1 B.out.2.1)).mono ?_; (with_reducible rfl); (first | exact hcur | exact hcur.drew' | exact hcur.alloc' _ | exact hcur.drew'.alloc' _ | exact (hcur.alloc' _).drew'); (first | exact hcur | exact hcur.drew' | exact hcur.alloc' _ | exact hcur.drew'.alloc' _ | exact (hcur.alloc' _).drew'); rintro e w21 ⟨v21, rfl, hv21, hx⟩; have HV20 := hid (by first | exact HV20.out.ext hx | exact HV20.out.ext (Ext.undrew hx) | exact HV20.out.ext (Ext.step ((Ext.rfl' _).alloc' _) hx)); have hcur := Ext.step hcur (by first | exact hx | exact Ext.undrew hx | exact Ext.step ((Ext.rfl' _).alloc' _) hx | exact Ext.step ((Ext.rfl' _).drew'.alloc' _) hx); have HV21 := hid hv21; obtain ⟨A21, k21, c21, xs21, b21, rfl, -⟩ := hv21)
      | (go_at_call_of 29 (Value.int IntKind.i64 a); refine (of_any a _ (by have := BA.out; omega)).mono ?_; rintro e w22 ⟨v22, rfl, hv22, hx⟩; have HV20 := hid (by first | exact HV20.out.ext hx | exact HV20.out.ext (Ext.undrew hx) | exact HV20.out.ext (Ext.step ((Ext.rfl' _).alloc' _) hx)); have HV21 := hid (by first | exact HV21.out.ext hx | exact HV21.out.ext (Ext.undrew hx) | exact HV21.out.ext (Ext.step ((Ext.rfl' _).alloc' _) hx)); have hcur := Ext.step hcur (by first | exact hx | exact Ext.undrew hx | exact Ext.step ((Ext.rfl' _).alloc' _) hx | exact Ext.step ((Ext.rfl' _).drew'.alloc' _) hx); have HV22 := hid hv22; obtain ⟨A22, k22, c22, xs22, b22, rfl, -⟩ := hv22)
      | (go_at_call 31; refine (Calls.at_args ?_ (rmul_any (.agg #[.bool b22, .slice A22 k22 c22]) (.agg #[.bool b3, .slice A3 k3 c3]) (a) (D) _ (HV22.out.ext ?_) (HL3.out.ext ?_) BUB.out.2.1 B.out.2.2.1)).mono ?_; (with_reducible rfl); (first | exact Ext.rfl' _ | exact (Ext.rfl' _).drew' | exact (Ext.rfl' _).alloc' _ | exact (Ext.rfl' _).drew'.alloc' _); (first | exact hcur | exact hcur.drew' | exact hcur.alloc' _ | exact hcur.drew'.alloc' _ | exact (hcur.alloc' _).drew'); rintro e w23 ⟨v23, rfl, hv23, hx⟩; have HV20 := hid (by first | exact HV20.out.ext hx | exact HV20.out.ext (Ext.undrew hx) | exact HV20.out.ext (Ext.step ((Ext.rfl' _).alloc' _) hx)); have HV21 := hid (by first | exact HV21.out.ext hx | exact HV21.out.ext (Ext.undrew hx) | exact HV21.out.ext (Ext.step ((Ext.rfl' _).alloc' _) hx)); have hcur := Ext.step hcur (by first | exact hx | exact Ext.undrew hx | exact Ext.step ((Ext.rfl' _).alloc' _) hx | exact Ext.step ((Ext.rfl' _).drew'.alloc' _) hx); have HV23 := hid hv23; obtain ⟨A23, k23, c23, xs23, b23, rfl, -⟩ := hv23)
      | (go_at_call 32; refine (radd_any _ _ (u * A) (a * D) _ (HV21.out.ext ?_) (HV23.out.ext ?_) B.out.2.2.2.1 B.out.2.2.2.2).mono ?_; (first | exact Ext.rfl' _ | exact (Ext.rfl' _).drew' | exact (Ext.rfl' _).alloc' _ | exact (Ext.rfl' _).drew'.alloc' _); (first | exact Ext.rfl' _ | exact (Ext.rfl' _).drew' | exact (Ext.rfl' _).alloc' _ | exact (Ext.rfl' _).drew'.alloc' _); rintro e w24 ⟨v24, rfl, hv24, hx⟩; have HV20 := hid (by first | exact HV20.out.ext hx | exact HV20.out.ext (Ext.undrew hx) | exact HV20.out.ext (Ext.step ((Ext.rfl' _).alloc' _) hx)); have hcur := Ext.step hcur (by first | exact hx | exact Ext.undrew hx | exact Ext.step ((Ext.rfl' _).alloc' _) hx | exact Ext.step ((Ext.rfl' _).drew'.alloc' _) hx); have HV24 := hid hv24; obtain ⟨A24, k24, c24, xs24, b24, rfl, -⟩ := hv24)
      | (go_at_call_of 29 (Value.int IntKind.i64 m); refine (of_any m _ (by have := BM.out; omega)).mono ?_; rintro e w25 ⟨v25, rfl, hv25, hx⟩; have HV20 := hid (by first | exact HV20.out.ext hx | exact HV20.out.ext (Ext.undrew hx) | exact HV20.out.ext (Ext.step ((Ext.rfl' _).alloc' _) hx)); have HV24 := hid (by first | exact HV24.out.ext hx | exact HV24.out.ext (Ext.undrew hx) | exact HV24.out.ext (Ext.step ((Ext.rfl' _).alloc' _) hx)); have hcur := Ext.step hcur (by first | exact hx | exact Ext.undrew hx | exact Ext.step ((Ext.rfl' _).alloc' _) hx | exact Ext.step ((Ext.rfl' _).drew'.alloc' _) hx); have HV25 := hid hv25; obtain ⟨A25, k25, c25, xs25, b25, rfl, -⟩ := hv25)
      | (go_at_call 31; refine (Calls.at_args ?_ (rmul_any (.agg #[.bool b3, .slice A3 k3 c3]) (.agg #[.bool b25, .slice A25 k25 c25]) (D) (m) _ (HL3.out.ext ?_) (HV25.out.ext ?_) B.out.2.2.1 BUB.out.2.2)).mono ?_; (with_reducible rfl); (first | exact hcur | exact hcur.drew' | exact hcur.alloc' _ | exact hcur.drew'.alloc' _ | exact (hcur.alloc' _).drew'); (first | exact Ext.rfl' _ | exact (Ext.rfl' _).drew' | exact (Ext.rfl' _).alloc' _ | exact (Ext.rfl' _).drew'.alloc' _); rintro e w26 ⟨v26, rfl, hv26, hx⟩; have HV20 := hid (by first | exact HV20.out.ext hx | exact HV20.out.ext (Ext.undrew hx) | exact HV20.out.ext (Ext.step ((Ext.rfl' _).alloc' _) hx)); have HV24 := hid (by first | exact HV24.out.ext hx | exact HV24.out.ext (Ext.undrew hx) | exact HV24.out.ext (Ext.step ((Ext.rfl' _).alloc' _) hx)); have hcur := Ext.step hcur (by first | exact hx | exact Ext.undrew hx | exact Ext.step ((Ext.rfl' _).alloc' _) hx | exact Ext.step ((Ext.rfl' _).drew'.alloc' _) hx); have HV26 := hid hv26; obtain ⟨A26, k26, c26, xs26, b26, rfl, -⟩ := hv26; (have hyy := row_facts6 (R3.out.ext (HE4.out.step hcur)); obtain ⟨⟨y0, y1, y2, y3, y4, y5⟩, z0, z1, z2, z3, z4, z5⟩ := hyy)))
  all_goals
    have HF := hid (LineR.put (l := (u * M, u * A + a * D, D * m)) (R3.out.ext (HE4.out.step hcur)) (HX.out.step (HE4.out.step hcur)) (by omega) HV20.out HV24.out HV26.out)
    go_wp2
    refine bodyPost_ret (v := .agg #[.bool b20, .slice A20 k20 c20, .bool b24, .slice A24 k24 c24, .bool b26, .slice A26 k26 c26]) (by simp [results, Tryz.results50, go_sem, y0, y1, y2, y3, y4, y5]) rfl HF.out
end Go.Proofs.YtimokpcopeldfaaGreatDoor
