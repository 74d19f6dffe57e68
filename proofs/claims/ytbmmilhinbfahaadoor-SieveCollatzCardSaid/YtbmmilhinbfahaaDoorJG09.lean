/- Joined texts: append of an int to a list of ints, with the reference's numbers kept; the reference's Word; package sieve: restsBelow; package sieve: what the closure visit does: its lists, and what it leaves alone; the lists of a sieve: which they hold, and their order; package sieve: the closure visit, at a place that falls. -/
import Derived.Test.YtbmmilhinbfahaaDoorJG06
import Derived.Test.YtbmmilhinbfahaaDoorJG07
import Derived.Deep.RegionHeldLaw
import Derived.Deep.AppendLies
import Derived.Test.YtbmmilhinbfahaaDoorJG08
set_option linter.unusedSimpArgs false
set_option linter.unusedVariables false
/- append of an int to a list of ints, with the reference's numbers kept -/
namespace Go.Proofs.YtbmmilhinbfahaaDoor
open Go.RowKit
/-- the places of block g from n on are zeros -/
def SpZ (w : World) (g n : Nat) : Prop := ∃ cs t fr, w.heap[g]? = some (.cells cs t fr) ∧ ∀ v ∈ cs.toList.drop n, v = .int .i64 0
theorem SpZ.keep {w w' : World} {g n : Nat} (h : SpZ w g n) (e : w'.heap[g]? = w.heap[g]?) : SpZ w' g n := by
  obtain ⟨cs, t, fr, h1, h2⟩ := h
  exact ⟨cs, t, fr, e.trans h1, h2⟩
/-- what a world keeps of the lists of parts of numbers -/
def KeepT (w w' : World) : Prop := ∀ (A : Option Addr) (vs : List Nat), Rd w A (I64s vs) → vs.getLast? ≠ some 0 → Rd w' A (I64s vs)
theorem KeepT.of_ext {w w' : World} (e : Ext w w') : KeepT w w' := fun _ _ h _ => h.ext e
theorem KeepT.trans {a b c : World} (h : KeepT a b) (k : KeepT b c) : KeepT a c := fun A vs x hx => k A vs (h A vs x hx) hx
theorem RefV.keptT {w w' : World} {v : Value} {z : Int} (h : RefV w v z) (k : KeepT w w') : RefV w' v z := by
  obtain ⟨A, kk, c, xs, b, h1, h2, h3, h4, h5, h6, h7⟩ := h
  exact ⟨A, kk, c, xs, b, h1, h2, h3, h4, k A xs h5 h6.2, h6, h7⟩
theorem KeepT.room {w w' : World} {g n : Nat} {cs cs' : Array Value} {t t' : TypeId} {fr fr' : Nat × Nat} (hg : w.heap[g]? = some (.cells cs t fr)) (hz : ∀ v ∈ cs.toList.drop n, v = .int .i64 0) (hg' : w'.heap[g]? = some (.cells cs' t' fr')) (hk : ∀ j, j < n → ∀ u, cs[j]? = some u → cs'[j]? = some u)
    (hs : w.heap.size ≤ w'.heap.size) (hb : ∀ j, j < w.heap.size → j ≠ g → w'.heap[j]? = w.heap[j]?) : KeepT w w' := by
  intro A vs h hl
  rcases h with h | ⟨b, o, ha, hlt, hc⟩
  · rw [h]; exact Rd.nil _ _
  · by_cases hbg : b = g
    · subst hbg
      cases hvl : vs.getLast? with
      | none => rw [List.getLast?_eq_none_iff] at hvl; subst hvl; exact Rd.nil _ _
      | some y =>
        have hne : vs ≠ [] := by intro e; subst e; simp at hvl
        have hpos : 0 < vs.length := by cases vs with | nil => exact absurd rfl hne | cons _ _ => simp
        have hy : vs[vs.length - 1]? = some y := by rw [← List.getLast?_eq_getElem?]; exact hvl
        have hy0 : y ≠ 0 := by intro e; subst e; exact hl hvl
        have hcell := hc (vs.length - 1) (.int .i64 (y : Int)) (by rw [List.getElem?_map, hy]; rfl)
        have hcs : ∀ j u, w.cell? ⟨b, j, none⟩ = some u → cs[j]? = some u := fun j u hu => by simpa [World.cell?, hg] using hu
        have hlast : o + (vs.length - 1) < n := by
          rcases Nat.lt_or_ge (o + (vs.length - 1)) n with h1 | h1
          · exact h1
          · have h2 := hcs _ _ hcell
            have h3 : Value.int .i64 (y : Int) ∈ cs.toList.drop n := by
              refine List.mem_of_getElem? (i := o + (vs.length - 1) - n) ?_
              rw [List.getElem?_drop, Array.getElem?_toList, show n + (o + (vs.length - 1) - n) = o + (vs.length - 1) by omega]
              exact h2
            have h4 := hz _ h3
            injection h4 with _ h5
            omega
        refine .inr ⟨b, o, ha, by omega, fun j u hu => ?_⟩
        have hj : j < vs.length := by
          rcases Nat.lt_or_ge j vs.length with h1 | h1
          · exact h1
          · rw [List.getElem?_eq_none (by simpa using h1)] at hu; cases hu
        have := hk (o + j) (by omega) u (hcs _ _ (hc j u hu))
        simpa [World.cell?, hg'] using this
    · refine .inr ⟨b, o, ha, by omega, fun j u hu => ?_⟩
      rw [World.cell?_of_block (hb b hlt hbg)]
      exact hc j u hu
theorem zeros_int (n : Nat) : ∀ v ∈ (Builtin.zeroCells (Value.int .i64 0).cells n).toList, v = .int .i64 0 := by
  intro v hv
  simp only [Builtin.zeroCells, Array.toList_map, List.mem_map] at hv
  obtain ⟨i, -, hi⟩ := hv
  have hs : (Value.int .i64 0).cells.size = 1 := by rfl
  rw [hs, Nat.mod_one] at hi
  rw [← hi]; rfl
section
variable {P : Program}
theorem run_append_int (w : World) (base : Nat) (t ty e : TypeId) (i : TypeInfo) (ht : P.underlying t = some (.slice e)) (hi : P.info? e = some i) (hz : i.zero = some (.int .i64 0))
    (hsize : i.size = 1) (hby : i.bytes = 8) (v : Value) (n : Nat) (xs : List Value) (hown : w.ownsRow base e 1 v n xs) (hsp : ∀ g c, v = .slice (some ⟨g, 0, none⟩) n c → SpZ w g n)
    (a : Addr) (c : Nat) (x : Int) (hnews : ∀ j u, [Value.int .i64 x][j]? = some u → w.cell? (a.add j) = some u)
    (h63 : n + 1 ≤ 1000000) (hbase : base ≤ w.heap.size) :
    ∃ g' cap' w', (Builtin.append_ #[t, t] ty #[v, .slice (some a) 1 c]).run P w = .ok (.slice (some ⟨g', 0, none⟩) (n + 1) cap') w' ∧
      w'.ownsRow base e 1 (.slice (some ⟨g', 0, none⟩) (n + 1) cap') (n + 1) (xs ++ [.int .i64 x]) ∧ w.grownBy w' v.ownBlock ∧ n + 1 ≤ cap' ∧ SpZ w' g' (n + 1) ∧ KeepT w w' := by
  have hl : [Value.int .i64 x].length = 1 * 1 := rfl
  have h1 : ∀ u ∈ [Value.int .i64 x], u.oneCell' = true := by
    intro u hu
    rw [List.mem_singleton.1 hu]; rfl
  obtain ⟨v', w', hr0, h2, h3, -⟩ := run_append_own (P := P) w base t ty e i _ 1 8 ht hi hz hsize hby (by rfl) (by omega) _ n xs hown a 1 c _ hl hnews h1 (by unfold maxLen; omega) (by omega) hbase
  rcases hown.2 with ⟨rfl, rfl⟩ | ⟨g, cap, cur, rfl, hbg, hg, hnc, hcm, hcs, htake⟩
  · have hx : xs = [] := List.eq_nil_of_length_eq_zero (by simpa using hown.1)
    subst hx
    have hr := run_append_nil (P := P) w t ty e i _ ht hi hz a 1 c _ (by rw [hsize]; rfl) hnews (by omega) (by omega) (by rw [hby]; omega)
    have hee := hr.symm.trans hr0
    injection hee with hv hw
    subst hv hw
    refine ⟨w.heap.size, _, _, hr, h2, h3, grownCap_ge w _ _ e, ⟨_, _, _, heap_alloc_new w.drew _, ?_⟩, KeepT.of_ext ((Ext.rfl' w).drew'.alloc' _)⟩
    intro v hv
    simp only [Array.toList_append, List.append_assoc] at hv
    exact zeros_int _ v (by simpa using hv)
  · obtain ⟨cs, ct, fr, hcs0, hcsn⟩ := hsp g cap rfl
    rw [hg] at hcs0
    cases hcs0
    rw [Nat.mul_one] at hcs htake
    have hxl : xs.length = n := by have := hown.1; omega
    by_cases hroom : n + 1 ≤ cap
    · have hfit : n * i.size + [Value.int .i64 x].length ≤ cur.size := by rw [hl, hcs, hsize]; omega
      have hr := run_append_room (P := P) w t ty e i ht hi g n cap cur hg a 1 c _ (by rw [hsize]; rfl) hnews h1 hroom hfit
      have hee := hr.symm.trans hr0
      injection hee with hv hw
      subst hv hw
      have hcl : cur.toList.length = cap := by simpa using hcs
      refine ⟨g, cap, _, hr, h2, h3, hroom, ⟨_, _, _, setRow_heap w g cur _ e _ hg, ?_⟩, KeepT.room hg hcsn (setRow_heap w g cur _ e _ hg) ?_ h3.size (fun j hj hne => h3.block j hj (by intro e2; cases e2; exact hne rfl))⟩
      · intro v hv
        rw [hsize, Nat.mul_one] at hv
        refine hcsn v ?_
        have e1 : (((cur.toList.take n ++ [Value.int .i64 x]) ++ cur.toList.drop (n + 1)).drop (n + 1)) = cur.toList.drop (n + 1) := by
          rw [List.drop_append_of_le_length (by simp; omega), List.drop_of_length_le (by simp; omega), List.nil_append]
        have hv2 : v ∈ cur.toList.drop (n + 1) := by rw [← e1]; simpa using hv
        rw [show n + 1 = n + 1 from rfl, ← List.drop_drop] at hv2
        exact List.mem_of_mem_drop hv2
      · intro j hj u hu
        rw [hsize, Nat.mul_one]
        have hu2 : cur.toList[j]? = some u := by rw [Array.getElem?_toList]; exact hu
        have : ((cur.toList.take n ++ [Value.int .i64 x]) ++ cur.toList.drop (n + 1))[j]? = some u := by
          rw [List.append_assoc, List.getElem?_append_left (by simp; omega), List.getElem?_take_of_lt hj]
          exact hu2
        simpa using this
    · have holds : ∀ j u, xs[j]? = some u → w.cell? ((⟨g, 0, none⟩ : Addr).add j) = some u := hown.cells (g := g) rfl
      have hr := run_append_grow (P := P) w t ty e i _ ht hi hz ⟨g, 0, none⟩ n cap xs (by rw [hsize]; exact hown.1) holds a 1 c _ (by rw [hsize]; rfl) hnews (by omega) (by omega) (growslice_fits (by omega) (by rw [hby]; omega))
      have hee := hr.symm.trans hr0
      injection hee with hv hw
      subst hv hw
      refine ⟨w.heap.size, _, _, hr, h2, h3, grownCap_ge w (n + 1) cap e, ⟨_, _, _, heap_alloc_new w.drew _, ?_⟩, KeepT.of_ext ((Ext.rfl' w).drew'.alloc' _)⟩
      intro v hv
      have e1 : (xs ++ ([Value.int .i64 x] ++ (Builtin.zeroCells (Value.int .i64 0).cells (grownCap w (n + 1) cap e - (n + 1))).toList)).drop (n + 1) = (Builtin.zeroCells (Value.int .i64 0).cells (grownCap w (n + 1) cap e - (n + 1))).toList := by
        rw [← List.append_assoc, List.drop_append_of_le_length (by simp; omega), List.drop_of_length_le (by simp; omega), List.nil_append]
      simp only [Array.toList_append, List.append_assoc] at hv
      exact zeros_int _ v (by rw [← e1]; exact hv)
theorem wpList_append_int {w : World} {ops : Array Oper} {rest : List Oper} {o : Oper} {a : Act} {Q : Exit → Act → World → Prop} (hgd : o.guard = none) (s x : Operand) (t : TypeId)
    (ho : o.op = .call { callee := .builtin .append, args := #[s, x], argTypes := #[t, t] })
    (base : Nat) (e : TypeId) (i : TypeInfo) (ht : P.underlying t = some (.slice e)) (hi : P.info? e = some i) (hz : i.zero = some (.int .i64 0))
    (hsize : i.size = 1) (hby : i.bytes = 8) (v : Value) (n : Nat) (xs : List Value) (hs : a.eval s = v) (hown : w.ownsRow base e 1 v n xs) (hsp : ∀ g c, v = .slice (some ⟨g, 0, none⟩) n c → SpZ w g n)
    (ad : Addr) (c : Nat) (y : Int) (hx : a.eval x = .slice (some ad) 1 c) (hnews : ∀ j u, [Value.int .i64 y][j]? = some u → w.cell? (ad.add j) = some u)
    (h63 : n + 1 ≤ 1000000) (hbase : base ≤ w.heap.size)
    (h : ∀ g' cap' w', w'.ownsRow base e 1 (.slice (some ⟨g', 0, none⟩) (n + 1) cap') (n + 1) (xs ++ [.int .i64 y]) → w.grownBy w' v.ownBlock → n + 1 ≤ cap' → SpZ w' g' (n + 1) → KeepT w w' → wpList P ops Q rest (a.put o.dst (.slice (some ⟨g', 0, none⟩) (n + 1) cap')) w') : wpList P ops Q (o :: rest) a w :=
  wpList_plain hgd fun _ hK => by
    obtain ⟨g', cap', w', hr, h2, h3, h4, h5, h6⟩ := run_append_int (P := P) w base t o.type e i ht hi hz hsize hby v n xs hown hsp ad c y hnews h63 hbase
    unfold Oper.wp execOp
    simp only [ho, resolve, invoke, builtin, Sem.run_bind, Sem.run_pure, Result.andThen_ok, List.map_toArray, List.map_cons, List.map_nil, hs, hx, hr]
    exact hK _ _ (h g' cap' w' h2 h3 h4 h5 h6)
end
theorem Row.grownO {W w1 : World} {tmp : Obj} {row : Option Nat} {H : Nat} {t : TypeId} {vs : List Value} (h : Row W H t vs) (hg : (W.alloc tmp).grownBy w1 row) (hne : ∀ k, row = some k → H ≠ k) : Row w1 H t vs :=
  (hg.block H (by have := h.lt; rw [World.size_alloc]; omega) (fun e => hne H e.symm rfl)).trans (h.alloc tmp)
end Go.Proofs.YtbmmilhinbfahaaDoor
/- the reference's Word -/
namespace Go.Proofs.YtbmmilhinbfahaaDoor
open Go.RowKit
/-- the word after j rounds -/
def WordAt (m : Int) (us ad : List Int) (x : Int) (j : Nat) (z : Int) (ws : List Int) : Prop := z = orbN m us ad j x ∧ ws = wordI m us ad j x ∧ ∀ i, i < j → K.fits (orbN m us ad i x)
theorem WordAt.next {m : Int} {us ad : List Int} {x : Int} {j : Nat} {z : Int} {ws : List Int} (h : WordAt m us ad x j z ws) (hf : K.fits z) : WordAt m us ad x (j + 1) (stepI m us ad z) (ws ++ [z % m]) := by
  obtain ⟨rfl, rfl, h3⟩ := h
  refine ⟨rfl, by rw [word_snoc], fun i hi => ?_⟩
  rcases Nat.lt_or_ge i j with h | h
  · exact h3 i h
  · obtain rfl : i = j := by omega
    exact hf
/-- what the reference tells of a word -/
def RWordPost (m : Int) (us ad : List Int) (x : Int) (k : Nat) (w : World) (e : Ending) (w' : World) : Prop :=
  ∃ (L : Option Addr) (n c : Nat) (ws : List Int) (b : Bool), e = .returned (.tuple #[.slice L n c, .bool b]) ∧ ws.length = n ∧ n ≤ k ∧ Rd w' L (Is ws) ∧
    ((b = true ∧ ws = wordI m us ad k x ∧ ∀ i, i < k → K.fits (orbN m us ad i x)) ∨ (b = false ∧ ∃ i, i < k ∧ ¬ K.fits (orbN m us ad i x))) ∧ Ext w w'
theorem own_cap {w : World} {base e n c : Nat} {L : Option Addr} {vs : List Value} (h : w.ownsRow base e 1 (.slice L n c) n vs) : vs.length = n := by have := h.1; omega
end Go.Proofs.YtbmmilhinbfahaaDoor
/- package sieve: restsBelow -/
namespace Go.Proofs.YtbmmilhinbfahaaDoor
open Go.RowKit
/-- the first n rests of a place -/
def belowL (r di : Int) (n : Nat) : List Int := (List.range n).map fun (i : Nat) => r + (i : Int) * di
theorem belowL_snoc (r di : Int) (n : Nat) : belowL r di (n + 1) = belowL r di n ++ [r + (n : Int) * di] := by
  unfold belowL; rw [List.range_succ, List.map_append]; rfl
theorem belowL_len (r di : Int) (n : Nat) : (belowL r di n).length = n := by simp [belowL]
set_option maxRecDepth 100000 in
set_option maxHeartbeats 6400000 in
theorem restsBelow_any (s r mu ad di wh : Int) (w : World) (hr : 0 ≤ r) (hd : 1 ≤ di) (hd2 : di ≤ 65536) (hw : wh ≤ 65536) :
    Calls Tryd.prog 16 #[PlV s r mu ad di, .int .i64 wh] w (fun e w' => ∃ (L : Option Addr) (n c : Nat), e = .returned (.slice L n c) ∧ n ≤ 65536 ∧ Rd w' L (Is (belowL r di n)) ∧ (∀ i : Nat, i < n → r + (i : Int) * di < wh) ∧ wh ≤ r + (n : Int) * di ∧ Ext w w') := by
  obtain ⟨i0, hi, hz0, hz1, hz2⟩ := info_parts infoI
  unfold PlV
  have hx : Ext w (w.alloc (.cells #[.int .i64 s, .int .i64 r, .int .i64 mu, .int .i64 ad, .int .i64 di] 46)) := (Ext.rfl' w).alloc' _
  have hr1 : Row (w.alloc (.cells #[.int .i64 s, .int .i64 r, .int .i64 mu, .int .i64 ad, .int .i64 di] 46)) w.heap.size 46 [.int .i64 s, .int .i64 r, .int .i64 mu, .int .i64 ad, .int .i64 di] := Row.new w _ _
  have hsz : (w.alloc (.cells #[.int .i64 s, .int .i64 r, .int .i64 mu, .int .i64 ad, .int .i64 di] 46)).heap.size = w.heap.size + 1 := by simp
  obtain ⟨W1, hW1⟩ : ∃ W1, (w.alloc (.cells #[.int .i64 s, .int .i64 r, .int .i64 mu, .int .i64 ad, .int .i64 di] 46)) = W1 := ⟨_, rfl⟩
  rw [hW1] at hx hr1 hsz
  have HX := hid hx
  have HW1 := hid hW1
  have R1 := hid hr1
  have HSZ := hid hsz
  obtain ⟨p0, p1, p2, p3, p4⟩ := row_facts5 hr1
  clear hW1 hx hr1 hsz
  go_enter Tryd.func16, Tryd.ntmps16
  go_upto_region 1 with fail
  rw [HW1.out]
  go_wp2_with fail
  go_loopw [5, 6] (fun lv rv wr => ∃ (j : Nat) (x : Int) (L : Option Addr) (cap : Nat), j ≤ 65536 ∧ lv = .slice L j cap ∧ rv = .int .i64 x ∧ Hid (x = r + (j : Int) * di) ∧ Hid (∀ i : Nat, i < j → r + (i : Int) * di < wh) ∧ Row wr w.heap.size 46 [.int .i64 s, .int .i64 r, .int .i64 mu, .int .i64 ad, .int .i64 di] ∧ wr.ownsRow (w.heap.size + 1) 3 1 (.slice L j cap) j (Is (belowL r di j)) ∧ Hid (∀ g c', Value.slice L j cap = .slice (some ⟨g, 0, none⟩) j c' → SpZ wr g j) ∧ Ext W1 wr) (fun _ rv _ => (wh - intOf rv).toNat)
  case atStart => exact ⟨0, r, none, 0, by omega, rfl, rfl, hid (by simp), hid (fun i hi => by omega), R1.out, World.ownsRow_nil _ _ _ _, hid (fun g c' h => by cases h), Ext.rfl' _⟩
  case round =>
    obtain ⟨j, x, L, cap, hj, rfl, rfl, HXE, HLT, hrw, hown, HSP, hex⟩ := hrel
    have RP := hid hrw
    have HOWN := hid hown
    have EX := hid hex
    clear hrw hown hex R1 p0 p1 p2 p3 p4
    by_cases hlt : x < wh
    · have hjx : (j : Int) ≤ x := by
        rw [HXE.out]
        have h1 : (j : Int) * 1 ≤ (j : Int) * di := Int.mul_le_mul_of_nonneg_left hd (by omega)
        omega
      have hx0 : 0 ≤ x := by omega
      have hbs : (w.heap.size + 1) ≤ (wr.alloc (.cells #[.int .i64 x] 3)).heap.size := by
        have h2 := EX.out.size
        have h3 := HSZ.out
        rw [World.size_alloc]; omega
      have W1w : IntKind.i64.wrap (x + di) = x + di := IntWalk.i64_in _ (by omega)
      go_wp2_with (at_builtin; refine wpList_append_int rfl _ _ 22 rfl (w.heap.size + 1) 3 i0 Tryd.underlying22 hi hz0 hz1 hz2 (.slice L j cap) j (Is (belowL r di j)) rfl (HOWN.out.alloc _) (fun g c' h => (HSP.out g c' h).keep (Below.heap_alloc wr _ g (by injection h with h1 h2 h3; subst h1; exact (HOWN.out.lt g rfl).2))) ⟨wr.heap.size, 0, none⟩ 1 x rfl (cell_one_new _ _ _) (by omega) hbs ?_)
      intro g' cap' w8 hown8 hgrow hcap8 hsp8 hkeep
      have hfar : ∀ kk, Value.ownBlock (.slice L j cap) = some kk → (w.heap.size + 1) ≤ kk := fun kk hkk => (HOWN.out.lt kk hkk).1
      have rp8 := RP.out.grownO hgrow (fun kk hkk => by have := hfar kk hkk; omega)
      have ex8 : Ext W1 w8 := (EX.out.alloc' _).grown hgrow (by have := EX.out.size; rw [World.size_alloc]; omega) (fun kk hkk => by have := hfar kk hkk; have := HSZ.out; omega)
      have HFIN : Hid (∃ (jn : Nat) (xn : Int) (L : Option Addr) (cap : Nat), jn ≤ 65536 ∧ Value.slice (some ⟨g', 0, none⟩) (j + 1) cap' = .slice L jn cap ∧ Value.int .i64 (x + di) = .int .i64 xn ∧ Hid (xn = r + (jn : Int) * di) ∧ Hid (∀ i : Nat, i < jn → r + (i : Int) * di < wh) ∧ Row w8 w.heap.size 46 [.int .i64 s, .int .i64 r, .int .i64 mu, .int .i64 ad, .int .i64 di] ∧ w8.ownsRow (w.heap.size + 1) 3 1 (.slice L jn cap) jn (Is (belowL r di jn)) ∧ Hid (∀ g c', Value.slice L jn cap = .slice (some ⟨g, 0, none⟩) jn c' → SpZ w8 g jn) ∧ Ext W1 w8) := hid (by
        refine ⟨j + 1, x + di, _, _, by omega, rfl, rfl, hid ?_, hid ?_, rp8, ?_, hid ?_, ex8⟩
        · rw [HXE.out, Int.natCast_add, Int.add_mul]; omega
        · intro i hi
          rcases Nat.lt_or_ge i j with h | h
          · exact HLT.out i h
          · obtain rfl : i = j := by omega
            rw [← HXE.out]; exact hlt
        · rw [belowL_snoc, ← HXE.out]
          simpa using hown8
        · intro g c' h
          injection h with h1 h2 h3
          injection h1 with h1
          injection h1 with h1
          subst h1
          exact hsp8)
      obtain ⟨p0, p1, p2, p3, p4⟩ := row_facts5 rp8
      clear hown8 hgrow hcap8 hsp8 hkeep hfar rp8 ex8 hbs
      go_wp2
      go_roundw
      case rel => exact HFIN.out
      case measure => first | (simp [intOf]; done) | (simp [intOf]; omega)
    · have HF := hid (HX.out.step EX.out)
      have HE := hid (show wh ≤ r + (j : Int) * di by rw [← HXE.out]; omega)
      have HRD := hid (Rd.of_own HOWN.out)
      go_wp2
      go_ret
      first | exact ⟨L, j, ⟨cap, rfl⟩, hj, HRD.out, HLT.out, HE.out, HF.out⟩ | exact ⟨L, j, cap, rfl, hj, HRD.out, HLT.out, HE.out, HF.out⟩
end Go.Proofs.YtbmmilhinbfahaaDoor
/- package sieve: what the closure visit does: its lists, and what it leaves alone -/
namespace Go.Proofs.YtbmmilhinbfahaaDoor
open Go.RowKit
/-- the texts of the fall at a place -/
def fTxt (m : Int) (us ad : List Int) (p : Int × Int) : ByteArray × ByteArray × ByteArray × ByteArray :=
  let l := lnX m us ad p.2 p.1.toNat
  (Str (K.txt l.1), Str (K.txt l.2.1), Str (K.txt (m ^ p.1.toNat)), Str (K.txt (l.2.1 / (m ^ p.1.toNat - l.1))))
/-- falls and rests below a place of s steps, d more to go -/
def vis (M : Nat) (us ad : List Int) (k : Nat) : Nat → Nat → Int → List (Int × Int) × List Int
  | 0, s, r => if (lnX (M : Int) us ad r s).1 < (M : Int) ^ s then ([((s : Int), r)], []) else ([], belowL r ((M : Int) ^ s) 1)
  | d + 1, s, r => if (lnX (M : Int) us ad r s).1 < (M : Int) ^ s then ([((s : Int), r)], []) else
      if (M : Int) ^ k ≤ (lnX (M : Int) us ad r s).1 then ([], belowL r ((M : Int) ^ s) (M ^ (d + 1))) else
        ((List.range M).flatMap (fun (t : Nat) => (vis M us ad k d (s + 1) (r + (t : Int) * (M : Int) ^ s)).1), (List.range M).flatMap (fun (t : Nat) => (vis M us ad k d (s + 1) (r + (t : Int) * (M : Int) ^ s)).2))
theorem flat_len {α β : Type} (f : α → List β) (B : Nat) : ∀ l : List α, (∀ x, x ∈ l → (f x).length ≤ B) → (l.flatMap f).length ≤ l.length * B
  | [], _ => by simp
  | x :: r, h => by
    have h1 := h x (by simp)
    have h2 := flat_len f B r (fun y hy => h y (by simp [hy]))
    rw [List.flatMap_cons, List.length_append, List.length_cons, Nat.succ_mul]
    omega
theorem vis_len {M : Nat} (hM : 1 ≤ M) (us ad : List Int) (k : Nat) : ∀ (d s : Nat) (r : Int), (vis M us ad k d s r).1.length ≤ M ^ d ∧ (vis M us ad k d s r).2.length ≤ M ^ d
  | 0, s, r => by
    unfold vis
    split <;> simp [belowL_len]
  | d + 1, s, r => by
    have hp : 1 ≤ M ^ (d + 1) := Nat.one_le_pow _ _ hM
    unfold vis
    split
    · simp; omega
    · split
      · simp [belowL_len]
      · have e : (List.range M).length * M ^ d = M ^ (d + 1) := by rw [List.length_range, Nat.pow_succ, Nat.mul_comm]
        have h1 := flat_len (fun (t : Nat) => (vis M us ad k d (s + 1) (r + (t : Int) * (M : Int) ^ s)).1) (M ^ d) (List.range M) (fun t _ => (vis_len hM us ad k d (s + 1) _).1)
        have h2 := flat_len (fun (t : Nat) => (vis M us ad k d (s + 1) (r + (t : Int) * (M : Int) ^ s)).2) (M ^ d) (List.range M) (fun t _ => (vis_len hM us ad k d (s + 1) _).2)
        rw [e] at h1 h2
        exact ⟨h1, h2⟩
/-- the two lists in their boxes -/
def St (base BF BL : Nat) (f : Int × Int → ByteArray × ByteArray × ByteArray × ByteArray) (w : World) (vF vL : Value) (ps : List (Int × Int)) (ls : List Int) : Prop :=
  Row w BF 28 [vF] ∧ Row w BL 22 [vL] ∧ w.ownsRow base 37 6 vF ps.length (ps.flatMap (encF f)) ∧ w.ownsRow base 3 1 vL ls.length (Is ls)
/-- what a visit leaves alone: all but the two boxes and the blocks of the two lists -/
structure Chg (BF BL : Nat) (w : World) (vF vL : Value) (w' : World) (vF' vL' : Value) : Prop where
  os : w'.os = w.os
  tape : w'.tape = w.tape
  output : w'.output = w.output
  size : w.heap.size ≤ w'.heap.size
  block : ∀ j, j < w.heap.size → j ≠ BF → j ≠ BL → vF.ownBlock ≠ some j → vL.ownBlock ≠ some j → w'.heap[j]? = w.heap[j]?
  newF : ∀ g, vF'.ownBlock = some g → vF.ownBlock = some g ∨ w.heap.size ≤ g
  newL : ∀ g, vL'.ownBlock = some g → vL.ownBlock = some g ∨ w.heap.size ≤ g
theorem Chg.of_ext {BF BL : Nat} {w w' : World} (e : Ext w w') (vF vL : Value) : Chg BF BL w vF vL w' vF vL :=
  ⟨e.os, e.tape, e.output, e.size, fun j hj _ _ _ _ => e.block j hj, fun _ h => .inl h, fun _ h => .inl h⟩
theorem Chg.trans {BF BL : Nat} {a b c : World} {f0 l0 f1 l1 f2 l2 : Value} (h : Chg BF BL a f0 l0 b f1 l1) (k : Chg BF BL b f1 l1 c f2 l2) : Chg BF BL a f0 l0 c f2 l2 where
  os := k.os.trans h.os
  tape := k.tape.trans h.tape
  output := k.output.trans h.output
  size := Nat.le_trans h.size k.size
  block := fun j hj h1 h2 h3 h4 => by
    refine (k.block j (Nat.lt_of_lt_of_le hj h.size) h1 h2 (fun e => ?_) (fun e => ?_)).trans (h.block j hj h1 h2 h3 h4)
    · rcases h.newF j e with h5 | h5
      · exact h3 h5
      · omega
    · rcases h.newL j e with h5 | h5
      · exact h4 h5
      · omega
  newF := fun g hg => by
    rcases k.newF g hg with h1 | h1
    · exact h.newF g h1
    · exact .inr (Nat.le_trans h.size h1)
  newL := fun g hg => by
    rcases k.newL g hg with h1 | h1
    · exact h.newL g h1
    · exact .inr (Nat.le_trans h.size h1)
theorem own_at {w w' : World} {base e size n : Nat} {v : Value} {xs : List Value} (h : w.ownsRow base e size v n xs) (hk : ∀ g, v.ownBlock = some g → w'.heap[g]? = w.heap[g]?) : w'.ownsRow base e size v n xs := by
  refine ⟨h.1, ?_⟩
  rcases h.2 with h2 | ⟨g, cap, cur, rfl, hb, hg, h3⟩
  · exact .inl h2
  · exact .inr ⟨g, cap, cur, rfl, hb, by rw [hk g rfl, hg], h3⟩
theorem St.ext {base BF BL : Nat} {f : Int × Int → ByteArray × ByteArray × ByteArray × ByteArray} {w w' : World} {vF vL : Value} {ps : List (Int × Int)} {ls : List Int} (h : St base BF BL f w vF vL ps ls) (e : Ext w w') : St base BF BL f w' vF vL ps ls :=
  ⟨h.1.ext e, h.2.1.ext e, own_at h.2.2.1 (fun g hg => e.block g (h.2.2.1.lt g hg).2), own_at h.2.2.2 (fun g hg => e.block g (h.2.2.2.lt g hg).2)⟩
/-- the blocks of the two lists are two -/
theorem St.apart {base BF BL : Nat} {f : Int × Int → ByteArray × ByteArray × ByteArray × ByteArray} {w : World} {vF vL : Value} {ps : List (Int × Int)} {ls : List Int} (h : St base BF BL f w vF vL ps ls) : ∀ g, vF.ownBlock = some g → vL.ownBlock = some g → False := by
  intro g h1 h2
  obtain ⟨-, -, ⟨-, hF⟩, -, hL⟩ := h
  rcases hF with ⟨rfl, -⟩ | ⟨g1, c1, u1, rfl, -, e1, -⟩
  · cases h1
  · rcases hL with ⟨rfl, -⟩ | ⟨g2, c2, u2, rfl, -, e2, -⟩
    · cases h2
    · injection h1 with h1
      injection h2 with h2
      have h1' : g1 = g := h1
      have h2' : g2 = g := h2
      subst h1' h2'
      rw [e1] at e2
      injection e2 with e2
      injection e2 with _ e3 _
      exact absurd e3 (by decide)
/-- the boxes that the closure reads: they lie below base, as the two that it writes -/
structure Env (w00 : World) (base BF BL BW BM BV : Nat) (wh : Int) (mc : List Value) (w : World) : Prop where
  ext : Ext w00 w
  rw_ : Row w BW 3 [.int .i64 wh]
  rm : Row w BM 24 mc
  rv : Row w BV 44 [.func (.func 12) #[] #[.pointer (some ⟨BF, 0, none⟩), .pointer (some ⟨BW, 0, none⟩), .pointer (some ⟨BL, 0, none⟩), .pointer (some ⟨BM, 0, none⟩), .pointer (some ⟨BV, 0, none⟩)]]
  hb : base ≤ w.heap.size
/-- where the boxes lie -/
def Lies (w00 : World) (base BF BL BW BM BV : Nat) : Prop := w00.heap.size ≤ BF ∧ w00.heap.size ≤ BL ∧ BF < base ∧ BL < base ∧ BW < base ∧ BM < base ∧ BV < base ∧ BF ≠ BL ∧ BW ≠ BF ∧ BW ≠ BL ∧ BM ≠ BF ∧ BM ≠ BL ∧ BV ≠ BF ∧ BV ≠ BL ∧ w00.heap.size ≤ base
theorem Env.of_ext {w00 : World} {base BF BL BW BM BV : Nat} {wh : Int} {mc : List Value} {w w' : World} (h : Env w00 base BF BL BW BM BV wh mc w) (e : Ext w w') : Env w00 base BF BL BW BM BV wh mc w' :=
  ⟨h.ext.step e, h.rw_.ext e, h.rm.ext e, h.rv.ext e, Nat.le_trans h.hb e.size⟩
theorem Env.chg {w00 : World} {base BF BL BW BM BV : Nat} {wh : Int} {mc : List Value} {w w' : World} {vF vL vF' vL' : Value} (h : Env w00 base BF BL BW BM BV wh mc w) (L : Lies w00 base BF BL BW BM BV)
    (oF : ∀ g, vF.ownBlock = some g → base ≤ g) (oL : ∀ g, vL.ownBlock = some g → base ≤ g) (c : Chg BF BL w vF vL w' vF' vL') : Env w00 base BF BL BW BM BV wh mc w' := by
  obtain ⟨l1, l2, l3, l4, l5, l6, l7, l8, l9, l10, l11, l12, l13, l14, l15⟩ := L
  have hb := h.hb
  have hk : ∀ j, j < base → j ≠ BF → j ≠ BL → w'.heap[j]? = w.heap[j]? := fun j hj h1 h2 => c.block j (by omega) h1 h2 (fun e => by have := oF j e; omega) (fun e => by have := oL j e; omega)
  refine ⟨⟨c.os.trans h.ext.os, c.tape.trans h.ext.tape, c.output.trans h.ext.output, Nat.le_trans h.ext.size c.size, fun j hj => (hk j (by omega) (by omega) (by omega)).trans (h.ext.block j hj)⟩, ?_, ?_, ?_, Nat.le_trans h.hb c.size⟩
  · exact (hk BW l5 l9 l10).trans h.rw_
  · exact (hk BM l6 l11 l12).trans h.rm
  · exact (hk BV l7 l13 l14).trans h.rv
theorem infoF : (Tryd.prog.info? 37).map (fun i => (i.zero, i.size, i.bytes)) = some (some (.agg #[.int .i64 0, .int .i64 0, .string ⟨#[]⟩, .string ⟨#[]⟩, .string ⟨#[]⟩, .string ⟨#[]⟩]), 6, 80) := by kernel_rfl
/-- what a visit tells -/
def VisPost (base BF BL : Nat) (f : Int × Int → ByteArray × ByteArray × ByteArray × ByteArray) (w : World) (vF vL : Value) (ps : List (Int × Int)) (ls : List Int) (e : Ending) (w' : World) : Prop :=
  e = .returned (.tuple #[]) ∧ ∃ vF' vL', St base BF BL f w' vF' vL' ps ls ∧ Chg BF BL w vF vL w' vF' vL'
end Go.Proofs.YtbmmilhinbfahaaDoor
/- the lists of a sieve: which they hold, and their order -/
namespace Go.Proofs.YtbmmilhinbfahaaDoor
open Go.RowKit
theorem mod_pow_le {m : Int} (hm : 0 < m) {i j : Nat} (h : i ≤ j) {X Y : Int} (e : X % m ^ j = Y % m ^ j) : X % m ^ i = Y % m ^ i := by
  have hd : m ^ i ∣ m ^ j := ⟨m ^ (j - i), by rw [← Int.pow_add]; congr 1; omega⟩
  rw [← Int.emod_emod_of_dvd X hd, e, Int.emod_emod_of_dvd Y hd]
/-- the lists of a sieve, over any growth g of a place -/
def gvis (M : Nat) (g : Int → Nat → Int) (k : Nat) : Nat → Nat → Int → List (Int × Int) × List Int
  | 0, s, r => if g r s < (M : Int) ^ s then ([((s : Int), r)], []) else ([], belowL r ((M : Int) ^ s) 1)
  | d + 1, s, r => if g r s < (M : Int) ^ s then ([((s : Int), r)], []) else
      if (M : Int) ^ k ≤ g r s then ([], belowL r ((M : Int) ^ s) (M ^ (d + 1))) else
        ((List.range M).flatMap (fun (t : Nat) => (gvis M g k d (s + 1) (r + (t : Int) * (M : Int) ^ s)).1), (List.range M).flatMap (fun (t : Nat) => (gvis M g k d (s + 1) (r + (t : Int) * (M : Int) ^ s)).2))
/-- g depends on the rest alone, and does not fall below what it was -/
structure Grows (M : Nat) (g : Int → Nat → Int) (k : Nat) : Prop where
  two : 2 ≤ M
  congr : ∀ X Y s, X % (M : Int) ^ s = Y % (M : Int) ^ s → g X s = g Y s
  stays : ∀ X s j, (M : Int) ^ k ≤ g X s → s ≤ j → j ≤ k → ¬ g X j < (M : Int) ^ j
theorem mem_below {M : Nat} (hM : 2 ≤ M) {s d k : Nat} (hk : s + d = k) {r x : Int} (h0 : 0 ≤ r) (h1 : r < (M : Int) ^ s) :
    x ∈ belowL r ((M : Int) ^ s) (M ^ d) ↔ 0 ≤ x ∧ x < (M : Int) ^ k ∧ x % (M : Int) ^ s = r := by
  have hp : (0 : Int) < (M : Int) ^ s := Int.pow_pos (by omega)
  have e : (M : Int) ^ k = (M : Int) ^ s * ((M ^ d : Nat) : Int) := by rw [← hk, Int.pow_add, Int.natCast_pow]
  unfold belowL
  rw [List.mem_map]
  constructor
  · rintro ⟨i, hi, rfl⟩
    have hi : i < M ^ d := List.mem_range.1 hi
    have h2 : 0 ≤ (i : Int) * (M : Int) ^ s := Int.mul_nonneg (by omega) (by omega)
    refine ⟨by omega, ?_, by rw [Int.add_mul_emod_self_right, Int.emod_eq_of_lt h0 h1]⟩
    rw [e, Int.mul_comm ((M : Int) ^ s) ((M ^ d : Nat) : Int)]
    have h3 : ((i : Int) + 1) * (M : Int) ^ s ≤ ((M ^ d : Nat) : Int) * (M : Int) ^ s := Int.mul_le_mul_of_nonneg_right (by omega) (by omega)
    rw [Int.add_mul] at h3
    omega
  · rintro ⟨h2, h3, h4⟩
    have h5 := Int.emod_add_mul_ediv x ((M : Int) ^ s)
    have h6 : 0 ≤ x / (M : Int) ^ s := Int.ediv_nonneg h2 (by omega)
    have h7 : x / (M : Int) ^ s < ((M ^ d : Nat) : Int) := by
      rw [e] at h3
      exact Int.ediv_lt_of_lt_mul hp (by rw [Int.mul_comm]; exact h3)
    exact ⟨(x / (M : Int) ^ s).toNat, List.mem_range.2 (by omega), by rw [Int.toNat_of_nonneg h6, ← h4, Int.mul_comm]; omega⟩
theorem small_mod {m x : Int} (h0 : 0 ≤ x) (h1 : x < m) : x % m = x := Int.emod_eq_of_lt h0 h1
theorem child_bd {M : Nat} (hM : 2 ≤ M) {s t : Nat} {r : Int} (h0 : 0 ≤ r) (h1 : r < (M : Int) ^ s) (ht : t < M) : 0 ≤ r + (t : Int) * (M : Int) ^ s ∧ r + (t : Int) * (M : Int) ^ s < (M : Int) ^ (s + 1) ∧ (r + (t : Int) * (M : Int) ^ s) % (M : Int) ^ s = r := by
  have hp : (0 : Int) < (M : Int) ^ s := Int.pow_pos (by omega)
  have h2 : 0 ≤ (t : Int) * (M : Int) ^ s := Int.mul_nonneg (by omega) (by omega)
  have h3 : ((t : Int) + 1) * (M : Int) ^ s ≤ (M : Int) * (M : Int) ^ s := Int.mul_le_mul_of_nonneg_right (by omega) (by omega)
  rw [Int.add_mul] at h3
  rw [Int.pow_succ, Int.mul_comm ((M : Int) ^ s)]
  exact ⟨by omega, by omega, by rw [Int.add_mul_emod_self_right, Int.emod_eq_of_lt h0 h1]⟩
theorem pow_up {M : Nat} (hM : 2 ≤ M) {i j : Nat} (h : i ≤ j) : (M : Int) ^ i ≤ (M : Int) ^ j := by
  obtain ⟨d, rfl⟩ := Nat.exists_eq_add_of_le h
  rw [Int.pow_add]
  have h1 : (1 : Int) ≤ (M : Int) ^ d := Int.pow_pos (by omega)
  have h2 : (0 : Int) < (M : Int) ^ i := Int.pow_pos (by omega)
  have := Int.mul_le_mul_of_nonneg_left h1 (show 0 ≤ (M : Int) ^ i by omega)
  omega
theorem gvis_mem {M : Nat} {g : Int → Nat → Int} {k : Nat} (G : Grows M g k) : ∀ (d s : Nat) (r : Int), s + d = k → 0 ≤ r → r < (M : Int) ^ s → (∀ j, j < s → ¬ g r j < (M : Int) ^ j) →
    (∀ p : Int × Int, p ∈ (gvis M g k d s r).1 ↔ ∃ i : Nat, p.1 = (i : Int) ∧ s ≤ i ∧ i ≤ k ∧ 0 ≤ p.2 ∧ p.2 < (M : Int) ^ i ∧ p.2 % (M : Int) ^ s = r ∧ g p.2 i < (M : Int) ^ i ∧ ∀ j, j < i → ¬ g p.2 j < (M : Int) ^ j) ∧
    (∀ x : Int, x ∈ (gvis M g k d s r).2 ↔ 0 ≤ x ∧ x < (M : Int) ^ k ∧ x % (M : Int) ^ s = r ∧ ∀ j, j ≤ k → ¬ g x j < (M : Int) ^ j) := by
  have hM := G.two
  have hmp : (0 : Int) < (M : Int) := by omega
  -- what a number with the rest r tells of r
  have tell : ∀ (s : Nat) (r x : Int), 0 ≤ r → r < (M : Int) ^ s → x % (M : Int) ^ s = r → ∀ j, j ≤ s → g x j = g r j := by
    intro s r x h0 h1 h2 j hj
    exact G.congr _ _ _ (mod_pow_le hmp hj (by rw [h2, small_mod h0 h1]))
  have falls : ∀ (s : Nat) (r : Int), s ≤ k → 0 ≤ r → r < (M : Int) ^ s → (∀ j, j < s → ¬ g r j < (M : Int) ^ j) → g r s < (M : Int) ^ s →
      (∀ p : Int × Int, p ∈ [((s : Int), r)] ↔ ∃ i : Nat, p.1 = (i : Int) ∧ s ≤ i ∧ i ≤ k ∧ 0 ≤ p.2 ∧ p.2 < (M : Int) ^ i ∧ p.2 % (M : Int) ^ s = r ∧ g p.2 i < (M : Int) ^ i ∧ ∀ j, j < i → ¬ g p.2 j < (M : Int) ^ j) ∧
      (∀ x : Int, x ∈ ([] : List Int) ↔ 0 ≤ x ∧ x < (M : Int) ^ k ∧ x % (M : Int) ^ s = r ∧ ∀ j, j ≤ k → ¬ g x j < (M : Int) ^ j) := by
    intro s r hs h0 h1 hn hf
    refine ⟨fun p => ?_, fun x => ?_⟩
    · rw [List.mem_singleton]
      constructor
      · rintro rfl
        exact ⟨s, rfl, Nat.le_refl _, hs, h0, h1, small_mod h0 h1, hf, hn⟩
      · rintro ⟨i, e1, i1, i2, p0, p1, e2, f1, f2⟩
        have e3 : i = s := by
          rcases Nat.lt_or_ge s i with h | h
          · exact absurd (by rw [tell s r _ h0 h1 e2 s (Nat.le_refl _)]; exact hf) (f2 s h)
          · omega
        subst e3
        rw [small_mod p0 p1] at e2
        cases p
        simp only at e1 e2
        rw [e1, e2]
    · constructor
      · intro h; cases h
      · rintro ⟨-, -, e, h⟩
        exact absurd (by rw [tell s r _ h0 h1 e s (Nat.le_refl _)]; exact hf) (h s hs)
  intro d
  induction d with
  | zero =>
    intro s r hk h0 h1 hn
    unfold gvis
    split
    · rename_i hf
      exact falls s r (by omega) h0 h1 hn hf
    · rename_i hf
      have hsk : s = k := by omega
      subst hsk
      refine ⟨fun p => ?_, fun x => ?_⟩
      · constructor
        · intro h; cases h
        · rintro ⟨i, -, i1, i2, p0, p1, e2, f1, -⟩
          obtain rfl : i = s := by omega
          rw [small_mod p0 p1] at e2
          rw [e2] at f1
          exact absurd f1 hf
      · have hb := mem_below hM (d := 0) hk (x := x) h0 h1
        rw [Nat.pow_zero] at hb
        rw [hb]
        constructor
        · rintro ⟨x0, x1, e⟩
          refine ⟨x0, x1, e, fun j hj => ?_⟩
          rw [tell s r x h0 h1 e j hj]
          rcases Nat.lt_or_ge j s with h | h
          · exact hn j h
          · obtain rfl : j = s := by omega
            exact hf
        · rintro ⟨x0, x1, e, -⟩
          exact ⟨x0, x1, e⟩
  | succ d ih =>
    intro s r hk h0 h1 hn
    unfold gvis
    split
    · rename_i hf
      exact falls s r (by omega) h0 h1 hn hf
    · rename_i hf
      have hn2 : ∀ j, j ≤ s → ¬ g r j < (M : Int) ^ j := fun j hj => by
        rcases Nat.lt_or_ge j s with h | h
        · exact hn j h
        · obtain rfl : j = s := by omega
          exact hf
      split
      · rename_i hst
        have hno : ∀ x, x % (M : Int) ^ s = r → ∀ j, j ≤ k → ¬ g x j < (M : Int) ^ j := by
          intro x e j hj
          rcases Nat.lt_or_ge j s with h | h
          · rw [tell s r x h0 h1 e j (by omega)]; exact hn j h
          · exact G.stays x s j (by rw [tell s r x h0 h1 e s (Nat.le_refl _)]; exact hst) h hj
        refine ⟨fun p => ?_, fun x => ?_⟩
        · constructor
          · intro h; cases h
          · rintro ⟨i, -, i1, i2, p0, p1, e2, f1, -⟩
            exact absurd f1 (hno _ e2 i i2)
        · rw [mem_below hM hk h0 h1]
          exact ⟨fun h => ⟨h.1, h.2.1, h.2.2, hno x h.2.2⟩, fun h => ⟨h.1, h.2.1, h.2.2.1⟩⟩
      · have hc : ∀ t, t < M → _ := fun t ht => ih (s + 1) (r + (t : Int) * (M : Int) ^ s) (by omega) (child_bd hM h0 h1 ht).1 (child_bd hM h0 h1 ht).2.1 (fun j hj => by
          rw [tell s r _ h0 h1 (child_bd hM h0 h1 ht).2.2 j (by omega)]
          exact hn2 j (by omega))
        have up : ∀ (x : Int) (t : Nat), t < M → x % (M : Int) ^ (s + 1) = r + (t : Int) * (M : Int) ^ s → x % (M : Int) ^ s = r := by
          intro x t ht e
          have h2 := child_bd hM h0 h1 ht
          rw [← h2.2.2]
          exact mod_pow_le hmp (Nat.le_succ s) (by rw [e, small_mod h2.1 h2.2.1])
        have down : ∀ x : Int, x % (M : Int) ^ s = r → ∃ t, t < M ∧ x % (M : Int) ^ (s + 1) = r + (t : Int) * (M : Int) ^ s := by
          intro x e
          have h2 := Int.emod_nonneg (x / (M : Int) ^ s) (show (M : Int) ≠ 0 by omega)
          have h3 := Int.emod_lt_of_pos (x / (M : Int) ^ s) hmp
          refine ⟨(x / (M : Int) ^ s % (M : Int)).toNat, by omega, ?_⟩
          rw [mod_next hmp, e, Int.toNat_of_nonneg h2]
        refine ⟨fun p => ?_, fun x => ?_⟩
        · rw [List.mem_flatMap]
          constructor
          · rintro ⟨t, ht, hp⟩
            have ht := List.mem_range.1 ht
            obtain ⟨i, e1, i1, i2, p0, p1, e2, f1, f2⟩ := ((hc t ht).1 p).1 hp
            exact ⟨i, e1, by omega, i2, p0, p1, up _ t ht e2, f1, f2⟩
          · rintro ⟨i, e1, i1, i2, p0, p1, e2, f1, f2⟩
            have h3 : i ≠ s := by
              rintro rfl
              rw [small_mod p0 p1] at e2
              rw [e2] at f1
              exact hf f1
            obtain ⟨t, ht, e3⟩ := down _ e2
            exact ⟨t, List.mem_range.2 ht, ((hc t ht).1 p).2 ⟨i, e1, by omega, i2, p0, p1, e3, f1, f2⟩⟩
        · rw [List.mem_flatMap]
          constructor
          · rintro ⟨t, ht, hp⟩
            have ht := List.mem_range.1 ht
            obtain ⟨x0, x1, e2, f2⟩ := ((hc t ht).2 x).1 hp
            exact ⟨x0, x1, up _ t ht e2, f2⟩
          · rintro ⟨x0, x1, e2, f2⟩
            obtain ⟨t, ht, e3⟩ := down _ e2
            exact ⟨t, List.mem_range.2 ht, ((hc t ht).2 x).2 ⟨x0, x1, e3, f2⟩⟩
theorem below_nodup {r di : Int} (hd : 0 < di) (n : Nat) : (belowL r di n).Nodup := by
  unfold belowL
  refine List.Pairwise.map _ ?_ (List.nodup_range (n := n))
  intro a b h e
  apply h
  have : (a : Int) * di = (b : Int) * di := by omega
  have := Int.eq_of_mul_eq_mul_right (by omega) this
  omega
theorem gvis_nodup {M : Nat} {g : Int → Nat → Int} {k : Nat} (G : Grows M g k) : ∀ (d s : Nat) (r : Int), s + d = k → 0 ≤ r → r < (M : Int) ^ s → (∀ j, j < s → ¬ g r j < (M : Int) ^ j) →
    (gvis M g k d s r).1.Nodup ∧ (gvis M g k d s r).2.Nodup := by
  have hM := G.two
  have hmp : (0 : Int) < (M : Int) := by omega
  intro d
  induction d with
  | zero =>
    intro s r hk h0 h1 hn
    have hp : (0 : Int) < (M : Int) ^ s := Int.pow_pos (by omega)
    unfold gvis
    split
    · simp
    · exact ⟨List.nodup_nil, below_nodup hp _⟩
  | succ d ih =>
    intro s r hk h0 h1 hn
    have hp : (0 : Int) < (M : Int) ^ s := Int.pow_pos (by omega)
    unfold gvis
    split
    · simp
    · rename_i hf
      split
      · exact ⟨List.nodup_nil, below_nodup hp _⟩
      · have hn2 : ∀ t, t < M → ∀ j, j < s + 1 → ¬ g (r + (t : Int) * (M : Int) ^ s) j < (M : Int) ^ j := fun t ht j hj => by
          rw [G.congr (r + (t : Int) * (M : Int) ^ s) r j (mod_pow_le hmp (show j ≤ s by omega) (by rw [(child_bd hM h0 h1 ht).2.2, small_mod h0 h1]))]
          rcases Nat.lt_or_ge j s with h | h
          · exact hn j h
          · obtain rfl : j = s := by omega
            exact hf
        have hc := fun t (ht : t < M) => ih (s + 1) (r + (t : Int) * (M : Int) ^ s) (by omega) (child_bd hM h0 h1 ht).1 (child_bd hM h0 h1 ht).2.1 (hn2 t ht)
        have hm := fun t (ht : t < M) => gvis_mem G d (s + 1) (r + (t : Int) * (M : Int) ^ s) (by omega) (child_bd hM h0 h1 ht).1 (child_bd hM h0 h1 ht).2.1 (hn2 t ht)
        have ne : ∀ {t u : Nat}, t ≠ u → ∀ {x : Int}, x = r + (t : Int) * (M : Int) ^ s → x = r + (u : Int) * (M : Int) ^ s → False := by
          intro t u h x e1 e2
          apply h
          have : (t : Int) * (M : Int) ^ s = (u : Int) * (M : Int) ^ s := by omega
          have := Int.eq_of_mul_eq_mul_right (by omega) this
          omega
        constructor
        · unfold List.Nodup
          rw [List.pairwise_flatMap]
          refine ⟨fun t ht => (hc t (List.mem_range.1 ht)).1, ?_⟩
          refine List.Pairwise.imp_of_mem ?_ (List.nodup_range (n := M))
          intro t u ht hu h x hx y hy e
          subst e
          obtain ⟨_, -, -, -, -, -, e1, -⟩ := ((hm t (List.mem_range.1 ht)).1 x).1 hx
          obtain ⟨_, -, -, -, -, -, e2, -⟩ := ((hm u (List.mem_range.1 hu)).1 x).1 hy
          exact ne h e1 e2
        · unfold List.Nodup
          rw [List.pairwise_flatMap]
          refine ⟨fun t ht => (hc t (List.mem_range.1 ht)).2, ?_⟩
          refine List.Pairwise.imp_of_mem ?_ (List.nodup_range (n := M))
          intro t u ht hu h x hx y hy e
          subst e
          obtain ⟨-, -, e1, -⟩ := ((hm t (List.mem_range.1 ht)).2 x).1 hx
          obtain ⟨-, -, e2, -⟩ := ((hm u (List.mem_range.1 hu)).2 x).1 hy
          exact ne h e1 e2
/-- a strict total order -/
structure Strict {α : Type} (R : α → α → Prop) : Prop where
  trans : ∀ x y z, R x y → R y z → R x z
  tot : ∀ x y, R x y ∨ x = y ∨ R y x
  irr : ∀ x, ¬ R x x
theorem msort_strict {α : Type} {lt : α → α → Bool} {R : α → α → Prop} (h : ∀ x y, lt x y = true ↔ R x y) (S : Strict R) {l : List α} (hn : l.Nodup) :
    (l.mergeSort fun x y => !lt y x).Pairwise R ∧ ∀ x, x ∈ (l.mergeSort fun x y => !lt y x) ↔ x ∈ l := by
  have hs := List.pairwise_mergeSort (le := fun x y => !lt y x) (fun a b c h1 h2 => by
    simp only [Bool.not_eq_true', Bool.eq_false_iff, ne_eq] at h1 h2 ⊢
    rw [h] at h1 h2 ⊢
    intro h3
    rcases S.tot a b with h4 | h4 | h4
    · exact h2 (S.trans _ _ _ h3 h4)
    · subst h4; exact h2 h3
    · exact h1 h4) (fun a b => by
    rcases hb : lt b a with _ | _
    · simp
    · have h1 := (h _ _).1 hb
      rcases hc : lt a b with _ | _
      · simp
      · exact absurd (S.trans _ _ _ h1 ((h _ _).1 hc)) (S.irr _)) l
  have hp := List.mergeSort_perm l (fun x y => !lt y x)
  refine ⟨?_, fun x => hp.mem_iff⟩
  have hd : (l.mergeSort fun x y => !lt y x).Nodup := hp.nodup_iff.2 hn
  refine (hs.and hd).imp ?_
  rintro a b ⟨h1, h2⟩
  simp only [Bool.not_eq_true', Bool.eq_false_iff, ne_eq] at h1
  rw [h] at h1
  rcases S.tot a b with h4 | h4 | h4
  · exact h4
  · exact absurd h4 h2
  · exact absurd h4 h1
theorem strict_eq {α : Type} {R : α → α → Prop} (S : Strict R) : ∀ {l k : List α}, l.Pairwise R → k.Pairwise R → (∀ x, x ∈ l ↔ x ∈ k) → l = k
  | [], [], _, _, _ => rfl
  | [], b :: k, _, _, h => absurd ((h b).2 (by simp)) (by simp)
  | a :: l, [], _, _, h => absurd ((h a).1 (by simp)) (by simp)
  | a :: l, b :: k, h1, h2, h => by
    rw [List.pairwise_cons] at h1 h2
    have e : a = b := by
      have ha := (h a).1 (by simp)
      have hb := (h b).2 (by simp)
      rcases List.mem_cons.1 ha with e | ha
      · exact e
      rcases List.mem_cons.1 hb with e | hb
      · exact e.symm
      exact absurd (S.trans _ _ _ (h1.1 b hb) (h2.1 a ha)) (S.irr _)
    subst e
    rw [strict_eq S h1.2 h2.2 (fun x => ?_)]
    constructor
    · intro hx
      rcases List.mem_cons.1 ((h x).1 (by simp [hx])) with e | h3
      · subst e; exact absurd (h1.1 x hx) (S.irr _)
      · exact h3
    · intro hx
      rcases List.mem_cons.1 ((h x).2 (by simp [hx])) with e | h3
      · subst e; exact absurd (h2.1 x hx) (S.irr _)
      · exact h3
theorem strict_nodup {α : Type} {R : α → α → Prop} (S : Strict R) {l : List α} (h : l.Pairwise R) : l.Nodup := by
  unfold List.Nodup
  refine List.Pairwise.imp ?_ h
  intro a b h e
  subst e
  exact S.irr _ h
/-- one of a list at most is hit -/
theorem count_one {α : Type} [DecidableEq α] {p : α → Bool} : ∀ {l : List α}, l.Nodup → ∀ {a : α}, (∀ x ∈ l, p x = true ↔ x = a) → l.countP p = if p a = true ∧ a ∈ l then 1 else 0 := by
  intro l
  induction l with
  | nil => intro _ a _; simp
  | cons b l ih =>
    intro hn a h
    rw [List.nodup_cons] at hn
    have h1 := ih hn.2 (a := a) (fun x hx => h x (by simp [hx]))
    rw [List.countP_cons, h1]
    by_cases hb : b = a
    · subst hb
      have hp := (h b (by simp)).2 rfl
      rw [if_neg (fun (h : p b = true ∧ b ∈ l) => hn.1 h.2), if_pos hp, if_pos ⟨hp, by simp⟩]
    · have hp : ¬ p b = true := fun hp => hb ((h b (by simp)).1 hp)
      rw [if_neg hp]
      have : (p a = true ∧ a ∈ b :: l) ↔ (p a = true ∧ a ∈ l) := by
        constructor
        · rintro ⟨h1, h2⟩
          rcases List.mem_cons.1 h2 with e | h3
          · exact absurd e.symm hb
          · exact ⟨h1, h3⟩
        · rintro ⟨h1, h2⟩
          exact ⟨h1, by simp [h2]⟩
      simp only [this]
      rfl
theorem strict_I : Strict (fun (x y : Int) => x < y) := ⟨fun _ _ _ => Int.lt_trans, fun x y => by omega, fun x => Int.lt_irrefl x⟩
theorem strict_P : Strict (fun (p q : Int × Int) => p.1 < q.1 ∨ p.1 = q.1 ∧ p.2 < q.2) :=
  ⟨fun x y z h1 h2 => by omega, fun x y => by
    rcases x with ⟨a, b⟩
    rcases y with ⟨c, d⟩
    have : (a, b) = (c, d) ↔ a = c ∧ b = d := by simp
    rw [this]
    show (a < c ∨ a = c ∧ b < d) ∨ (a = c ∧ b = d) ∨ (c < a ∨ c = a ∧ d < b)
    omega, fun x => by omega⟩
theorem strict_at {α : Type} {R : α → α → Prop} {l : List α} (h : l.Pairwise R) {i j : Nat} (hij : i < j) {a b : α} (ha : l[i]? = some a) (hb : l[j]? = some b) : R a b := by
  rw [List.pairwise_iff_getElem] at h
  obtain ⟨hi, rfl⟩ := List.getElem?_eq_some_iff.1 ha
  obtain ⟨hj, rfl⟩ := List.getElem?_eq_some_iff.1 hb
  exact h i j hi hj hij
theorem vis_gvis (M : Nat) (us ad : List Int) (k : Nat) : ∀ (d s : Nat) (r : Int), vis M us ad k d s r = gvis M (fun X j => (lnX (M : Int) us ad X j).1) k d s r
  | 0, s, r => by unfold vis gvis; rfl
  | d + 1, s, r => by
    unfold vis gvis
    simp only [vis_gvis M us ad k d]
theorem grows_lnX {M : Nat} {us ad : List Int} (hM : mapP (M : Int) us ad) (k : Nat) : Grows M (fun X j => (lnX (M : Int) us ad X j).1) k where
  two := by have := hM.1; omega
  congr := fun X Y s h => by
    show (lineI _ us ad (wordI _ us ad s X)).1 = (lineI _ us ad (wordI _ us ad s Y)).1
    rw [wordI_congr (by have := hM.1; omega) h]
  stays := fun X s j h h1 h2 => no_fall hM h j h1 h2
theorem lnX_cg {m : Int} {us ad : List Int} (hm : 0 < m) {X Y : Int} {s : Nat} (h : X % m ^ s = Y % m ^ s) : lnX m us ad X s = lnX m us ad Y s := by
  unfold lnX
  rw [wordI_congr hm h]
theorem falls_congr {m : Int} {us ad : List Int} (hm : 0 < m) {X Y : Int} {s : Nat} (h : X % m ^ s = Y % m ^ s) : FallsAt m us ad X s ↔ FallsAt m us ad Y s := by
  unfold FallsAt
  rw [lnX_cg hm h]
theorem falls_zero (m : Int) (us ad : List Int) (X : Int) : ¬ FallsAt m us ad X 0 := by
  show ¬ (1 : Int) < m ^ 0
  rw [Int.pow_zero]; omega
/-- the falls of a sieve -/
def InF (m : Int) (us ad : List Int) (k : Nat) (p : Int × Int) : Prop := ∃ i : Nat, p.1 = (i : Int) ∧ 1 ≤ i ∧ i ≤ k ∧ 0 ≤ p.2 ∧ p.2 < m ^ i ∧ FallsAt m us ad p.2 i ∧ ∀ j, j < i → ¬ FallsAt m us ad p.2 j
/-- the rests that are left -/
def InL (m : Int) (us ad : List Int) (k : Nat) (x : Int) : Prop := 0 ≤ x ∧ x < m ^ k ∧ ∀ j, j ≤ k → ¬ FallsAt m us ad x j
theorem lt_FP (x y : Int × Int) : ltOf cmpP x y = true ↔ (x.1 < y.1 ∨ x.1 = y.1 ∧ x.2 < y.2) := by rw [lt_P]; simp
theorem lt_I (x y : Int) : ltOf Lib.compareInt x y = true ↔ x < y := by rw [lt_int]; simp
theorem sieve_falls {M : Nat} {us ad : List Int} (hM : mapP (M : Int) us ad) (k : Nat) :
    (srtF (vis M us ad k k 0 0).1).Pairwise (fun p q => p.1 < q.1 ∨ p.1 = q.1 ∧ p.2 < q.2) ∧ ∀ p, p ∈ srtF (vis M us ad k k 0 0).1 ↔ InF (M : Int) us ad k p := by
  have G := grows_lnX hM k
  have h0 : (0 : Int) < (M : Int) ^ 0 := by simp
  have hz : ∀ j, j < 0 → ¬ (fun X j => (lnX (M : Int) us ad X j).1) 0 j < (M : Int) ^ j := fun j h => absurd h (Nat.not_lt_zero j)
  have h1 := gvis_mem G k 0 0 (by omega) (Int.le_refl 0) h0 hz
  have h2 := gvis_nodup G k 0 0 (by omega) (Int.le_refl 0) h0 hz
  rw [← vis_gvis] at h1 h2
  have h3 := msort_strict lt_FP strict_P h2.1
  refine ⟨h3.1, fun p => (h3.2 p).trans ((h1.1 p).trans ?_)⟩
  constructor
  · rintro ⟨i, e1, -, i2, p0, p1, -, f1, f2⟩
    refine ⟨i, e1, ?_, i2, p0, p1, f1, f2⟩
    rcases Nat.eq_zero_or_pos i with h | h
    · subst h; exact absurd f1 (falls_zero _ us ad _)
    · exact h
  · rintro ⟨i, e1, i1, i2, p0, p1, f1, f2⟩
    exact ⟨i, e1, by omega, i2, p0, p1, by rw [Int.pow_zero, Int.emod_one], f1, f2⟩
theorem sieve_left {M : Nat} {us ad : List Int} (hM : mapP (M : Int) us ad) (k : Nat) :
    (srtI (vis M us ad k k 0 0).2).Pairwise (fun x y => x < y) ∧ ∀ x, x ∈ srtI (vis M us ad k k 0 0).2 ↔ InL (M : Int) us ad k x := by
  have G := grows_lnX hM k
  have h0 : (0 : Int) < (M : Int) ^ 0 := by simp
  have hz : ∀ j, j < 0 → ¬ (fun X j => (lnX (M : Int) us ad X j).1) 0 j < (M : Int) ^ j := fun j h => absurd h (Nat.not_lt_zero j)
  have h1 := gvis_mem G k 0 0 (by omega) (Int.le_refl 0) h0 hz
  have h2 := gvis_nodup G k 0 0 (by omega) (Int.le_refl 0) h0 hz
  rw [← vis_gvis] at h1 h2
  have h3 := msort_strict lt_I strict_I h2.2
  refine ⟨h3.1, fun x => (h3.2 x).trans ((h1.2 x).trans ?_)⟩
  constructor
  · rintro ⟨x0, x1, -, f⟩
    exact ⟨x0, x1, f⟩
  · rintro ⟨x0, x1, f⟩
    exact ⟨x0, x1, by rw [Int.pow_zero, Int.emod_one], f⟩
/-- whether a number has the rest of a fall -/
def hitP (m X : Int) (p : Int × Int) : Bool := decide (X % m ^ p.1.toNat = p.2)
theorem rest_of_pow {m : Int} (hm : 0 < m) (X : Int) {j i : Nat} (h : j ≤ i) : (X % m ^ i) % m ^ j = X % m ^ j :=
  Int.emod_emod_of_dvd X ⟨m ^ (i - j), by rw [← Int.pow_add]; congr 1; omega⟩
/-- who falls has one fall, and is not left -/
theorem hits_yes {M : Nat} {us ad : List Int} (hM : mapP (M : Int) us ad) {k i : Nat} {X : Int} (h1 : 1 ≤ i) (h2 : i ≤ k) (hf : FallsAt (M : Int) us ad X i) (hn : ∀ j, 1 ≤ j → j < i → ¬ FallsAt (M : Int) us ad X j) :
    (∀ p, p ∈ srtF (vis M us ad k k 0 0).1 → (hitP (M : Int) X p = true ↔ p = ((i : Int), X % (M : Int) ^ i))) ∧ (srtF (vis M us ad k k 0 0).1).countP (hitP (M : Int) X) = 1 ∧ (X % (M : Int) ^ k) ∉ srtI (vis M us ad k k 0 0).2 := by
  have hm : (0 : Int) < (M : Int) := by have := hM.1; omega
  have hn0 : ∀ j, j < i → ¬ FallsAt (M : Int) us ad X j := fun j hj => by
    rcases Nat.eq_zero_or_pos j with h | h
    · subst h; exact falls_zero _ us ad _
    · exact hn j h hj
  have hp : ∀ s : Nat, (0 : Int) < (M : Int) ^ s := fun s => Int.pow_pos hm
  have hb : ∀ s : Nat, 0 ≤ X % (M : Int) ^ s ∧ X % (M : Int) ^ s < (M : Int) ^ s := fun s => ⟨Int.emod_nonneg _ (by have := hp s; omega), Int.emod_lt_of_pos _ (hp s)⟩
  have hF := sieve_falls hM k
  have hit : ∀ p, p ∈ srtF (vis M us ad k k 0 0).1 → (hitP (M : Int) X p = true ↔ p = ((i : Int), X % (M : Int) ^ i)) := by
    intro p hpm
    obtain ⟨i', e1, i1, i2, p0, p1, f1, f2⟩ := (hF.2 p).1 hpm
    obtain ⟨a, b⟩ := p
    simp only at e1 p0 p1 f1 f2
    subst e1
    unfold hitP
    rw [decide_eq_true_iff]
    show X % (M : Int) ^ (((i' : Nat) : Int)).toNat = b ↔ _
    rw [Int.toNat_natCast]
    constructor
    · intro e
      have e2 : i' = i := by
        have g1 : FallsAt (M : Int) us ad X i' := (falls_congr hm (by rw [← e, rest_of_pow hm X (Nat.le_refl _)])).1 f1
        rcases Nat.lt_trichotomy i' i with h | h | h
        · exact absurd g1 (hn0 i' h)
        · exact h
        · exact absurd ((falls_congr hm (by rw [← e, rest_of_pow hm X (show i ≤ i' by omega)])).2 hf) (f2 i h)
      subst e2
      rw [e]
    · intro e
      injection e with e3 e4
      have : i' = i := by omega
      subst this
      exact e4.symm
  refine ⟨hit, ?_, ?_⟩
  · have hmem : ((i : Int), X % (M : Int) ^ i) ∈ srtF (vis M us ad k k 0 0).1 := by
      refine (hF.2 _).2 ⟨i, rfl, h1, h2, (hb i).1, (hb i).2, (falls_congr hm (rest_of_pow hm X (Nat.le_refl _))).2 hf, fun j hj h => hn0 j hj ((falls_congr hm (rest_of_pow hm X (show j ≤ i by omega))).1 h)⟩
    rw [count_one (strict_nodup strict_P hF.1) hit, if_pos ⟨(hit _ hmem).2 rfl, hmem⟩]
  · intro h
    obtain ⟨-, -, h3⟩ := ((sieve_left hM k).2 _).1 h
    exact h3 i h2 ((falls_congr hm (rest_of_pow hm X h2)).2 hf)
/-- who does not fall is left, and has no fall -/
theorem hits_no {M : Nat} {us ad : List Int} (hM : mapP (M : Int) us ad) {k : Nat} {X : Int} (hn : ∀ j, 1 ≤ j → j ≤ k → ¬ FallsAt (M : Int) us ad X j) :
    (∀ p, p ∈ srtF (vis M us ad k k 0 0).1 → ¬ hitP (M : Int) X p = true) ∧ (X % (M : Int) ^ k) ∈ srtI (vis M us ad k k 0 0).2 := by
  have hm : (0 : Int) < (M : Int) := by have := hM.1; omega
  have hp : (0 : Int) < (M : Int) ^ k := Int.pow_pos hm
  have hn0 : ∀ j, j ≤ k → ¬ FallsAt (M : Int) us ad X j := fun j hj => by
    rcases Nat.eq_zero_or_pos j with h | h
    · subst h; exact falls_zero _ us ad _
    · exact hn j h hj
  constructor
  · intro p hpm h
    obtain ⟨i', e1, i1, i2, p0, p1, f1, f2⟩ := ((sieve_falls hM k).2 p).1 hpm
    unfold hitP at h
    rw [decide_eq_true_iff, e1, Int.toNat_natCast] at h
    exact hn0 i' i2 ((falls_congr hm (by rw [← h, rest_of_pow hm X (Nat.le_refl _)])).1 f1)
  · exact ((sieve_left hM k).2 _).2 ⟨Int.emod_nonneg _ (by omega), Int.emod_lt_of_pos _ hp, fun j hj h => hn0 j hj ((falls_congr hm (rest_of_pow hm X hj)).1 h)⟩
end Go.Proofs.YtbmmilhinbfahaaDoor
/- package sieve: the closure visit, at a place that falls -/
namespace Go.Proofs.YtbmmilhinbfahaaDoor
open Go.RowKit
theorem row_news (w : World) (t : TypeId) (vs : List Value) : ∀ j u, vs[j]? = some u → (w.alloc (.cells vs.toArray t)).cell? (Addr.add ⟨w.heap.size, 0, none⟩ j) = some u := by
  exact World.news_of_block (Row.new w t vs)
set_option maxRecDepth 100000 in
set_option maxHeartbeats 6400000 in
theorem visit_fall (w00 : World) (base BF BL BW BM BV : Nat) (wh : Int) (A : Option Addr) (n cc : Nat) (B : Option Addr) (n2 d2 : Nat) (m : Int) (f : Int × Int → ByteArray × ByteArray × ByteArray × ByteArray) (s : Nat) (r mu a di : Int) (vF vL : Value) (ps : List (Int × Int)) (ls : List Int) (w : World) (HL : Hid (Lies w00 base BF BL BW BM BV)) (HE : Env w00 base BF BL BW BM BV wh [.int .i64 m, .slice A n cc, .slice B n2 d2] w) (HS0 : St base BF BL f w vF vL ps ls) (ht : Tab w) (hlt : mu < di) (hmu : Hid (0 ≤ mu ∧ di ≤ 786432)) (hA : Hid (a.natAbs ≤ 9000000000000000000))
    (hf : Hid (f ((s : Int), r) = (Str (K.txt mu), Str (K.txt a), Str (K.txt di), Str (K.txt (a / (di - mu)))))) (hn : ps.length ≤ 1000000) :
    Calls Tryd.prog 12 #[PlV (s : Int) r mu a di, .pointer (some ⟨BF, 0, none⟩), .pointer (some ⟨BW, 0, none⟩), .pointer (some ⟨BL, 0, none⟩), .pointer (some ⟨BM, 0, none⟩), .pointer (some ⟨BV, 0, none⟩)] w (VisPost base BF BL f w vF vL (ps ++ [((s : Int), r)]) ls) := by
  obtain ⟨i0, hi, hz0, hz1, hz2⟩ := info_parts infoF
  obtain ⟨su, hsu⟩ : ∃ su, Str (K.txt mu) = su := ⟨_, rfl⟩
  obtain ⟨sa, hsa⟩ : ∃ sa, Str (K.txt a) = sa := ⟨_, rfl⟩
  obtain ⟨sd, hsd⟩ : ∃ sd, Str (K.txt di) = sd := ⟨_, rfl⟩
  obtain ⟨sb, hsb⟩ : ∃ sb, Str (K.txt (a / (di - mu))) = sb := ⟨_, rfl⟩
  rw [hsu, hsa, hsd, hsb] at hf
  have HSU := hid hsu
  have HSA := hid hsa
  have HSD := hid hsd
  have HSB0 := hid hsb
  clear hsu hsa hsd hsb
  have hx : Ext w (w.alloc (.cells #[.int .i64 (s : Int), .int .i64 r, .int .i64 mu, .int .i64 a, .int .i64 di] 46)) := (Ext.rfl' w).alloc' _
  have hr : Row (w.alloc (.cells #[.int .i64 (s : Int), .int .i64 r, .int .i64 mu, .int .i64 a, .int .i64 di] 46)) w.heap.size 46 [.int .i64 (s : Int), .int .i64 r, .int .i64 mu, .int .i64 a, .int .i64 di] := Row.new w _ _
  have hsz : (w.alloc (.cells #[.int .i64 (s : Int), .int .i64 r, .int .i64 mu, .int .i64 a, .int .i64 di] 46)).heap.size = w.heap.size + 1 := by simp
  unfold PlV
  obtain ⟨w1, hw1⟩ : ∃ w1, w.alloc (.cells #[.int .i64 (s : Int), .int .i64 r, .int .i64 mu, .int .i64 a, .int .i64 di] 46) = w1 := ⟨_, rfl⟩
  rw [hw1] at hx hr hsz
  have HW := hid hw1
  have RP := hid hr
  have E1 := hid hx
  have HEN := hid (HE.of_ext hx)
  have HST := hid (HS0.ext hx)
  have HT := hid (ht.ext hx)
  have HSZ := hid hsz
  have HS00 := hid HS0
  obtain ⟨p0, p1, p2, p3, p4⟩ := row_facts5 hr
  clear hx hr hw1 hsz HS0
  go_enter Tryd.func12, Tryd.ntmps12
  go_upto_region 6 with fail
  rw [HW.out]
  go_wp2_with fail
  refine (falls_any (s : Int) r mu a di _ (b := true) (hid ⟨fun _ => hlt, fun _ => rfl⟩)).mono ?_
  rintro e w2 ⟨rfl, hx⟩
  have E2 := hid (E1.out.step hx)
  replace HEN := hid (HEN.out.of_ext hx)
  replace HST := hid (HST.out.ext hx)
  replace HT := hid (HT.out.ext hx)
  replace RP := hid (RP.out.ext hx)
  have HSB := hid (Nat.le_trans (show w.heap.size + 1 ≤ w1.heap.size by rw [HSZ.out]; exact Nat.le_refl _) hx.size)
  clear hx p0 p1 p2 p3 p4
  have l3 : BF < base := HL.out.2.2.1
  have l4 : BL < base := HL.out.2.2.2.1
  have l8 : BF ≠ BL := HL.out.2.2.2.2.2.2.2.1
  have hbs : base ≤ w2.heap.size := HEN.out.hb
  have hpB : w.heap.size ≠ BF := by
    have := HE.hb
    omega
  have HOF := hid HST.out.2.2.1
  have HOL := hid HST.out.2.2.2
  obtain ⟨q0, -⟩ : w2.cell? ⟨BF, 0, none⟩ = some vF ∧ True := ⟨HST.out.1.cell 0, trivial⟩
  have q1 := HST.out.1.free 0
  obtain ⟨p0, p1, p2, p3, p4⟩ := row_facts5 RP.out
  have hcur : Ext w2 w2 := Ext.rfl' _
  go_upto_region 7 with fail
  go_region_law (first
    | (refine step_append_lies _ (by rfl) _ _ _ (by rfl) base 37 i0 (.agg #[.int .i64 0, .int .i64 0, .string ⟨#[]⟩, .string ⟨#[]⟩, .string ⟨#[]⟩, .string ⟨#[]⟩]) 6 80 Tryd.underlying28 hi hz0 hz1 hz2 rfl (by omega) vF ps.length (ps.flatMap (encF f)) (by rfl) ((own_at HOF.out (fun g hg => hcur.block g (HOF.out.lt g hg).2)).alloc _) ⟨w10.heap.size, 0, none⟩ 1 1 [.int .i64 (s : Int), .int .i64 r, .string su, .string sa, .string sd, .string sb] (by rfl) rfl (row_news _ _ _) (by simp [Value.oneCell']) (by omega) (by have : maxLen = 9223372036854775807 := rfl; omega) (by omega) (by have := hcur.size; simp; omega) _ rfl ?_; intro g' cap' w8 hown8 hgrow hat hlt8; have rf8 := (HST.out.1.ext hcur).grownO hgrow (fun kk hkk => by have := (HOF.out.lt kk hkk).1; omega); have q0 : w8.cell? ⟨BF, 0, none⟩ = some vF := rf8.cell 0; have q1 := rf8.free 0)
    | (go_simp; go_at_call 14; refine (fall_l (s : Int) r mu a di (a / (di - mu)) su sa sd sb _ (HT.out.ext ?_) hlt hmu hA (hid rfl) HSU HSA HSD HSB0).mono ?_; (first | exact hcur | exact hcur.drew' | exact hcur.alloc' _ | exact hcur.drew'.alloc' _ | exact (hcur.alloc' _).drew'); rintro e w10 ⟨rfl, hx⟩; unfold FaV; have hcur := Ext.step hcur (by first | exact hx | exact Ext.undrew hx | exact Ext.step ((Ext.rfl' _).alloc' _) hx | exact Ext.step ((Ext.rfl' _).drew'.alloc' _) hx); have q0 : w10.cell? ⟨BF, 0, none⟩ = some vF := (HST.out.1.ext hcur).cell 0; have q1 := (HST.out.1.ext hcur).free 0; have q2 : ∀ o, (w10.alloc o).cell? ⟨BF, 0, none⟩ = some vF := (fun o => ((HST.out.1.ext hcur).alloc o).cell 0); obtain ⟨p0, p1, p2, p3, p4⟩ := row_facts5 (RP.out.ext hcur)))
  all_goals
    have HF : Hid (∀ WF, WF = w8.setCell ⟨BF, 0, none⟩ (.slice (some ⟨g', 0, none⟩) (ps.length + 1) cap') → VisPost base BF BL f w vF vL (ps ++ [((s : Int), r)]) ls (.returned (.tuple #[])) WF) := hid (by
      rintro WF rfl
      have hs10 := (E2.out.step hcur).size
      have hbk : ∀ j, j < w10.heap.size → j ≠ BF → vF.ownBlock ≠ some j → (w8.setCell ⟨BF, 0, none⟩ (.slice (some ⟨g', 0, none⟩) (ps.length + 1) cap')).heap[j]? = w10.heap[j]? := fun j h1 h2 h3 => by
        rw [Below.heap_setCell _ _ _ j (by exact h2), hgrow.block j (by rw [World.size_alloc]; omega) (fun e => h3 e.symm), Below.heap_alloc _ _ _ h1]
      refine ⟨rfl, .slice (some ⟨g', 0, none⟩) (ps.length + 1) cap', vL, ⟨rf8.set 0 _, ?_, ?_, ?_⟩, ?_⟩
      · exact (hbk BL (HST.out.2.1.ext hcur).lt (by omega) (fun e => by have := (HOF.out.lt BL e).1; omega)).trans (HST.out.2.1.ext hcur)
      · have h1 : (ps ++ [((s : Int), r)]).flatMap (encF f) = ps.flatMap (encF f) ++ [.int .i64 (s : Int), .int .i64 r, .string su, .string sa, .string sd, .string sb] := by
          rw [List.flatMap_append]
          simp only [List.flatMap_cons, List.flatMap_nil, List.append_nil, encF, hf.out]
        rw [h1, List.length_append, List.length_singleton]
        exact own_at hown8 (fun g hg => Below.heap_setCell _ _ _ g (by show g ≠ BF; have := (hown8.lt g hg).1; omega))
      · refine own_at HOL.out (fun g hg => (hbk g (Nat.lt_of_lt_of_le (HOL.out.lt g hg).2 hcur.size) (by have := (HOL.out.lt g hg).1; omega) (fun e => HST.out.apart g e hg)).trans (hcur.block g (HOL.out.lt g hg).2))
      · exact ⟨hgrow.os.trans (E2.out.step hcur).os, hgrow.tape.trans (E2.out.step hcur).tape, hgrow.output.trans (E2.out.step hcur).output, Nat.le_trans hs10 (by have := hgrow.size; rw [World.size_alloc] at this; simp; omega), fun j h1 h2 h3 h4 h5 => (hbk j (by omega) h2 h4).trans ((E2.out.step hcur).block j h1), fun g hg => by
          have hg' : g' = g := by injection hg
          subst hg'
          rcases hat with h6 | h6
          · exact .inl h6
          · right; rw [h6, World.size_alloc]; omega, fun g hg => .inl hg⟩)
    clear hown8 hgrow hat hcur
    go_wp2
    go_end0
    exact HF.out _ rfl
end Go.Proofs.YtbmmilhinbfahaaDoor
