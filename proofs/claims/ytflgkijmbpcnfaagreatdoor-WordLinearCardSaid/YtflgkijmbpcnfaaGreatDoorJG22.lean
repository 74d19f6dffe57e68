/- Joined texts: append to a list of numbers of the reference's: rows of boxes; the reference's Orbit; step.Orbit in the forms that the laws use. -/
import Derived.Test.YtflgkijmbpcnfaaGreatDoorJG14
import Derived.Test.YtflgkijmbpcnfaaGreatDoorJG17
import Derived.Test.YtflgkijmbpcnfaaGreatDoorJG13
set_option linter.unusedSimpArgs false
set_option linter.unusedVariables false
/- append to a list of numbers of the reference's: rows of boxes -/
namespace Go.Proofs.YtflgkijmbpcnfaaGreatDoor
open Go.RowKit
/-- block g holds no small number -/
def NoInt (l : List Value) : Prop := ∀ v ∈ l, ∀ k x, v ≠ .int k x
def NoIntB (w : World) (g : Nat) : Prop := ∃ cs t fr, w.heap[g]? = some (.cells cs t fr) ∧ NoInt cs.toList
theorem NoIntB.keep {w w' : World} {g : Nat} (h : NoIntB w g) (e : w'.heap[g]? = w.heap[g]?) : NoIntB w' g := by
  obtain ⟨cs, t, fr, h1, h2⟩ := h
  exact ⟨cs, t, fr, e.trans h1, h2⟩
theorem NoIntB.cell {w : World} {g o : Nat} {k : IntKind} {x : Int} (h : NoIntB w g) : w.cell? ⟨g, o, none⟩ ≠ some (.int k x) := by
  obtain ⟨cs, t, fr, h1, h2⟩ := h
  intro e
  have e2 : cs[o]? = some (.int k x) := by simpa [World.cell?, h1] using e
  obtain ⟨ho, e3⟩ := Array.getElem?_eq_some_iff.1 e2
  exact h2 _ (by rw [← e3]; simp) k x rfl
theorem Rd.not_at {w : World} {g : Nat} {A : Option Addr} {vs : List Nat} (h : Rd w A (I64s vs)) (hn : NoIntB w g) : vs = [] ∨ ∃ b o, A = some ⟨b, o, none⟩ ∧ b ≠ g ∧ b < w.heap.size ∧ ∀ j u, (I64s vs)[j]? = some u → w.cell? ⟨b, o + j, none⟩ = some u := by
  rcases h with h | ⟨b, o, ha, hb, hc⟩
  · exact .inl (List.map_eq_nil_iff.1 h)
  · cases vs with
    | nil => exact .inl rfl
    | cons x r =>
      refine .inr ⟨b, o, ha, ?_, hb, hc⟩
      intro e
      subst e
      exact hn.cell (hc 0 (.int .i64 (x : Int)) rfl)
/-- what a world keeps of the lists of parts -/
def KeepRd (w w' : World) : Prop := ∀ (A : Option Addr) (vs : List Nat), Rd w A (I64s vs) → Rd w' A (I64s vs)
theorem KeepRd.of_ext {w w' : World} (e : Ext w w') : KeepRd w w' := fun _ _ h => h.ext e
theorem KeepRd.trans {a b c : World} (h : KeepRd a b) (k : KeepRd b c) : KeepRd a c := fun A vs x => k A vs (h A vs x)
theorem KeepRd.but {w w' : World} {g : Nat} (hn : NoIntB w g) (hs : w.heap.size ≤ w'.heap.size) (hb : ∀ j, j < w.heap.size → j ≠ g → w'.heap[j]? = w.heap[j]?) : KeepRd w w' := by
  intro A vs h
  rcases h.not_at hn with h | ⟨b, o, ha, hne, hlt, hc⟩
  · subst h; exact Rd.nil _ _
  · refine .inr ⟨b, o, ha, by omega, fun j u hu => ?_⟩
    rw [World.cell?_of_block (hb b hlt hne)]
    exact hc j u hu
theorem RefV.kept {w w' : World} {v : Value} {z : Int} (h : RefV w v z) (k : KeepRd w w') : RefV w' v z := by
  obtain ⟨A, kk, c, xs, b, h1, h2, h3, h4, h5, h6, h7⟩ := h
  exact ⟨A, kk, c, xs, b, h1, h2, h3, h4, k A xs h5, h6, h7⟩
theorem noInt_zeros (n : Nat) : NoInt (Builtin.zeroCells (Value.agg #[.bool false, .slice none 0 0]).cells n).toList := by
  intro v hv k x e
  subst e
  simp only [Builtin.zeroCells, Array.toList_map, List.mem_map] at hv
  obtain ⟨i, -, hi⟩ := hv
  have hs : (Value.agg #[.bool false, .slice none 0 0]).cells.size = 2 := by rfl
  rw [hs] at hi
  rcases (show i % 2 = 0 ∨ i % 2 = 1 by omega) with h | h
  · rw [h] at hi; exact absurd hi (by simp [Value.cells])
  · rw [h] at hi; exact absurd hi (by simp [Value.cells])
section
variable {P : Program}
theorem run_append_boxes (w : World) (base : Nat) (t ty e : TypeId) (i : TypeInfo) (ht : P.underlying t = some (.slice e)) (hi : P.info? e = some i) (hz : i.zero = some (.agg #[.bool false, .slice none 0 0]))
    (hsize : i.size = 2) (hby : i.bytes = 32) (g n cap : Nat) (xs : List Value) (hown : w.ownsRow base e 2 (.slice (some ⟨g, 0, none⟩) n cap) n xs) (hno : NoIntB w g)
    (a : Addr) (c : Nat) (b1 : Bool) (P1 : Option Addr) (q1 c1 : Nat) (hnews : ∀ j u, [Value.bool b1, .slice P1 q1 c1][j]? = some u → w.cell? (a.add j) = some u)
    (h63 : n + 1 ≤ 1000000) (hbase : base ≤ w.heap.size) :
    ∃ g' cap' w', (Builtin.append_ #[t, t] ty #[.slice (some ⟨g, 0, none⟩) n cap, .slice (some a) 1 c]).run P w = .ok (.slice (some ⟨g', 0, none⟩) (n + 1) cap') w' ∧
      w'.ownsRow base e 2 (.slice (some ⟨g', 0, none⟩) (n + 1) cap') (n + 1) (xs ++ [.bool b1, .slice P1 q1 c1]) ∧ w.grownBy w' (some g) ∧ n + 1 ≤ cap' ∧ NoIntB w' g' ∧ KeepRd w w' := by
  have hl : [Value.bool b1, .slice P1 q1 c1].length = 1 * 2 := rfl
  have h1 : ∀ u ∈ [Value.bool b1, .slice P1 q1 c1], u.oneCell' = true := by
    intro u hu
    rcases List.mem_cons.1 hu with h | h
    · rw [h]; rfl
    · rw [List.mem_singleton.1 h]; rfl
  have hnn : NoInt [Value.bool b1, .slice P1 q1 c1] := by
    intro v hv k x e
    subst e
    simp at hv
  obtain ⟨v', w', hr0, h2, h3, -⟩ := run_append_own (P := P) w base t ty e i _ 2 32 ht hi hz hsize hby (by rfl) (by omega) _ n xs hown a 1 c _ hl hnews h1 (by unfold maxLen; omega) (by omega) hbase
  rcases hown.2 with ⟨hv, -⟩ | ⟨g0, cap0, cur, hv, hbg, hg, hnc, hcm, hcs, htake⟩
  · cases hv
  · cases hv
    obtain ⟨cs, ct, fr, hcs0, hcsn⟩ := hno
    rw [hg] at hcs0
    cases hcs0
    by_cases hroom : n + 1 ≤ cap
    · have hfit : n * i.size + [Value.bool b1, .slice P1 q1 c1].length ≤ cur.size := by rw [hl, hcs, hsize, ← Nat.add_mul]; exact Nat.mul_le_mul_right _ hroom
      have hr := run_append_room (P := P) w t ty e i ht hi g n cap cur hg a 1 c _ (by rw [hsize]; rfl) hnews h1 hroom hfit
      have hee := hr.symm.trans hr0
      injection hee with hv hw
      subst hv hw
      refine ⟨g, cap, _, hr, h2, h3, hroom, ⟨_, _, _, setRow_heap w g cur _ e _ hg, ?_⟩, KeepRd.but ⟨cur, e, (0, 0), hg, hcsn⟩ h3.size (fun j hj hne => h3.block j hj (by intro e2; cases e2; exact hne rfl))⟩
      intro v hv k x
      rcases List.mem_append.1 (by simpa using hv : v ∈ (cur.toList.take (n * i.size) ++ [Value.bool b1, .slice P1 q1 c1]) ++ cur.toList.drop (n * i.size + 2)) with h | h
      · rcases List.mem_append.1 h with h | h
        · exact hcsn v (List.mem_of_mem_take h) k x
        · exact hnn v h k x
      · exact hcsn v (List.mem_of_mem_drop h) k x
    · have holds : ∀ j u, xs[j]? = some u → w.cell? ((⟨g, 0, none⟩ : Addr).add j) = some u := hown.cells (g := g) rfl
      have hr := run_append_grow (P := P) w t ty e i _ ht hi hz ⟨g, 0, none⟩ n cap xs (by rw [hsize]; exact hown.1) holds a 1 c _ (by rw [hsize]; rfl) hnews (by omega) (by omega) (growslice_fits (by omega) (by rw [hby]; omega))
      have hee := hr.symm.trans hr0
      injection hee with hv hw
      subst hv hw
      refine ⟨w.heap.size, _, _, hr, h2, h3, grownCap_ge w (n + 1) cap e, ⟨_, _, _, heap_alloc_new w.drew _, ?_⟩, KeepRd.of_ext ((Ext.rfl' w).drew'.alloc' _)⟩
      intro v hv k x
      simp only [Array.toList_append, List.append_assoc] at hv
      rcases List.mem_append.1 hv with h | h
      · exact hcsn v (by rw [← htake] at h; exact List.mem_of_mem_take h) k x
      · rcases List.mem_append.1 h with h | h
        · exact hnn v h k x
        · exact noInt_zeros _ v h k x
theorem wpList_append_boxes {w : World} {ops : Array Oper} {rest : List Oper} {o : Oper} {a : Act} {Q : Exit → Act → World → Prop} (hgd : o.guard = none) (s x : Operand) (t : TypeId)
    (ho : o.op = .call { callee := .builtin .append, args := #[s, x], argTypes := #[t, t] })
    (base : Nat) (e : TypeId) (i : TypeInfo) (ht : P.underlying t = some (.slice e)) (hi : P.info? e = some i) (hz : i.zero = some (.agg #[.bool false, .slice none 0 0]))
    (hsize : i.size = 2) (hby : i.bytes = 32) (g n cap : Nat) (xs : List Value) (hs : a.eval s = .slice (some ⟨g, 0, none⟩) n cap) (hown : w.ownsRow base e 2 (.slice (some ⟨g, 0, none⟩) n cap) n xs) (hno : NoIntB w g)
    (ad : Addr) (c : Nat) (b1 : Bool) (P1 : Option Addr) (q1 c1 : Nat) (hx : a.eval x = .slice (some ad) 1 c) (hnews : ∀ j u, [Value.bool b1, .slice P1 q1 c1][j]? = some u → w.cell? (ad.add j) = some u)
    (h63 : n + 1 ≤ 1000000) (hbase : base ≤ w.heap.size)
    (h : ∀ g' cap' w', w'.ownsRow base e 2 (.slice (some ⟨g', 0, none⟩) (n + 1) cap') (n + 1) (xs ++ [.bool b1, .slice P1 q1 c1]) → w.grownBy w' (some g) → n + 1 ≤ cap' → NoIntB w' g' → KeepRd w w' → wpList P ops Q rest (a.put o.dst (.slice (some ⟨g', 0, none⟩) (n + 1) cap')) w') : wpList P ops Q (o :: rest) a w :=
  wpList_plain hgd fun _ hK => by
    obtain ⟨g', cap', w', hr, h2, h3, h4, h5, h6⟩ := run_append_boxes (P := P) w base t o.type e i ht hi hz hsize hby g n cap xs hown hno ad c b1 P1 q1 c1 hnews h63 hbase
    unfold Oper.wp execOp
    simp only [ho, resolve, invoke, builtin, Sem.run_bind, Sem.run_pure, Result.andThen_ok, List.map_toArray, List.map_cons, List.map_nil, hs, hx, hr]
    exact hK _ _ (h g' cap' w' h2 h3 h4 h5 h6)
end
theorem own_keep {w w' : World} {base e size n : Nat} {v : Value} {xs : List Value} (h : w.ownsRow base e size v n xs) (hk : ∀ g, base ≤ g → g < w.heap.size → w'.heap[g]? = w.heap[g]?) : w'.ownsRow base e size v n xs := by
  refine ⟨h.1, ?_⟩
  rcases h.2 with h2 | ⟨g, cap, cur, h1, h2, h3, h4⟩
  · exact .inl h2
  · refine .inr ⟨g, cap, cur, h1, h2, ?_, h4⟩
    rw [hk g h2 (by
      rcases Nat.lt_or_ge g w.heap.size with hl | hl
      · exact hl
      · rw [Array.getElem?_eq_none hl] at h3; cases h3)]
    exact h3
theorem own_ge {w : World} {base e size n : Nat} {g cap : Nat} {xs : List Value} (h : w.ownsRow base e size (.slice (some ⟨g, 0, none⟩) n cap) n xs) : base ≤ g ∧ g < w.heap.size ∧ n ≤ cap := by
  rcases h.2 with ⟨h2, -⟩ | ⟨g', cap', cur, h1, h2, h3, h4, -⟩
  · cases h2
  · cases h1
    refine ⟨h2, ?_, h4⟩
    rcases Nat.lt_or_ge g w.heap.size with hl | hl
    · exact hl
    · rw [Array.getElem?_eq_none hl] at h3; cases h3
theorem cell_two_new (w : World) (t : TypeId) (a b : Value) : ∀ j u, [a, b][j]? = some u → (w.alloc (.cells #[a, b] t)).cell? ((⟨w.heap.size, 0, none⟩ : Addr).add j) = some u := by
  intro j u hu
  have hadd : (⟨w.heap.size, 0, none⟩ : Addr).add j = ⟨w.heap.size, j, none⟩ := by unfold Addr.add; split <;> simp_all
  rw [hadd, (Row.new w t [a, b]).cell]
  exact hu
end Go.Proofs.YtflgkijmbpcnfaaGreatDoor
/- the reference's Orbit -/
namespace Go.Proofs.YtflgkijmbpcnfaaGreatDoor
open Go.RowKit
/-- a number's two cells -/
abbrev NBox := Bool × Option Addr × Nat × Nat
def NL : List NBox → List Value
  | [] => []
  | (b, P, q, c) :: r => .bool b :: .slice P q c :: NL r
theorem NL_len : ∀ l : List NBox, (NL l).length = 2 * l.length
  | [] => rfl
  | (b, P, q, c) :: r => by
    have := NL_len r
    simp [NL, this]
    try omega
theorem NL_append : ∀ a b : List NBox, NL (a ++ b) = NL a ++ NL b
  | [], b => rfl
  | (x, P, q, c) :: r, b => by simp [NL, NL_append r b]
theorem NL_at : ∀ (l : List NBox) (j : Nat) (b : Bool) (P : Option Addr) (q c : Nat), l[j]? = some (b, P, q, c) → (NL l)[2 * j]? = some (.bool b) ∧ (NL l)[2 * j + 1]? = some (.slice P q c)
  | [], j, b, P, q, c, h => by simp at h
  | (b', P', q', c') :: r, 0, b, P, q, c, h => by
    simp at h
    obtain ⟨rfl, rfl, rfl, rfl⟩ := h
    exact ⟨rfl, rfl⟩
  | (b', P', q', c') :: r, j + 1, b, P, q, c, h => by
    have h2 := NL_at r j b P q c (by simpa using h)
    rw [show 2 * (j + 1) = 2 * j + 1 + 1 by omega, show 2 * j + 1 + 1 + 1 = (2 * j + 1) + 1 + 1 by omega]
    exact h2
/-- boxes that hold these numbers -/
def NsV (w : World) (ns : List NBox) (zs : List Int) : Prop := ns.length = zs.length ∧ ∀ (j : Nat) (z : Int), zs[j]? = some z → ∃ b P q c, ns[j]? = some (b, P, q, c) ∧ RefV w (.agg #[.bool b, .slice P q c]) z
theorem NsV.ext {w w' : World} {ns : List NBox} {zs : List Int} (h : NsV w ns zs) (e : Ext w w') : NsV w' ns zs :=
  ⟨h.1, fun j z hz => by obtain ⟨b, P, q, c, h1, h2⟩ := h.2 j z hz; exact ⟨b, P, q, c, h1, h2.ext e⟩⟩
theorem NsV.snoc {w : World} {ns : List NBox} {zs : List Int} (h : NsV w ns zs) {b : Bool} {P : Option Addr} {q c : Nat} {z : Int} (hv : RefV w (.agg #[.bool b, .slice P q c]) z) : NsV w (ns ++ [(b, P, q, c)]) (zs ++ [z]) := by
  refine ⟨by simp [h.1], fun j y hy => ?_⟩
  rw [List.getElem?_append] at hy ⊢
  by_cases hj : j < zs.length
  · rw [if_pos hj] at hy
    rw [if_pos (by rw [h.1]; exact hj)]
    exact h.2 j y hy
  · rw [if_neg hj] at hy
    rw [if_neg (by rw [h.1]; exact hj)]
    obtain ⟨hj0, hz⟩ : j - zs.length = 0 ∧ y = z := by
      cases hk : j - zs.length with
      | zero => rw [hk] at hy; simp at hy; exact ⟨rfl, hy.symm⟩
      | succ i => rw [hk] at hy; simp at hy
    rw [h.1, hj0, hz]
    exact ⟨b, P, q, c, rfl, hv⟩
theorem NsV.box {w : World} {ns : List NBox} {zs : List Int} (h : NsV w ns zs) {H : Nat} {t : TypeId} {x : Bool} {A1 : Option Addr} {k1 c1 : Nat} {a b : Value} (r : Row w H t [.bool x, .slice A1 k1 c1]) : NsV ((w.setCell ⟨H, 0, none⟩ a).setCell ⟨H, 1, none⟩ b) ns zs :=
  ⟨h.1, fun j z hz => by obtain ⟨b, P, q, c, h1, h2⟩ := h.2 j z hz; exact ⟨b, P, q, c, h1, h2.box r⟩⟩
/-- the numbers so far -/
def OrbAt (m : Int) (us ad : List Int) (x : Int) (j : Nat) (zs : List Int) (z : Int) : Prop := zs.length = j + 1 ∧ z = orbN m us ad j x ∧ (∀ i, i ≤ j → zs[i]? = some (orbN m us ad i x)) ∧ ∀ y ∈ zs, y.natAbs ≤ BIG
theorem OrbAt.next {m : Int} {us ad : List Int} {x : Int} {j : Nat} {zs : List Int} {z : Int} (h : OrbAt m us ad x j zs z) (hb : (stepI m us ad z).natAbs ≤ BIG) : OrbAt m us ad x (j + 1) (zs ++ [stepI m us ad z]) (stepI m us ad z) := by
  refine ⟨by simp [h.1], by rw [h.2.1]; rfl, fun i hi => ?_, fun y hy => ?_⟩
  · rw [List.getElem?_append]
    by_cases hij : i ≤ j
    · rw [if_pos (by rw [h.1]; omega)]; exact h.2.2.1 i hij
    · obtain rfl : i = j + 1 := by omega
      rw [if_neg (by rw [h.1]; omega), h.1, Nat.sub_self, h.2.1]; rfl
  · rcases List.mem_append.1 hy with h1 | h1
    · exact h.2.2.2 y h1
    · rw [List.mem_singleton.1 h1]; exact hb
/-- the orbit as the reference tells it: j numbers more than the first one -/
def ROrbPost (m : Int) (us ad : List Int) (x : Int) (k : Nat) (w : World) (e : Ending) (w' : World) : Prop :=
  ∃ (j : Nat) (z : Int) (ns : List NBox) (zs : List Int) (g cap : Nat), e = .returned (.slice (some ⟨g, 0, none⟩) (j + 1) cap) ∧ j ≤ k ∧ j + 1 ≤ cap ∧ Rd w' (some ⟨g, 0, none⟩) (NL ns) ∧ NsV w' ns zs ∧ OrbAt m us ad x j zs z ∧ ((K.fits z ∧ j = k ∧ runO m us ad k x = some z) ∨ (¬ K.fits z ∧ runO m us ad k x = none)) ∧ Ext w w'
theorem Rd.of_own2 {w : World} {base e n c : Nat} {A : Option Addr} {vs : List Value} (h : w.ownsRow base e 2 (.slice A n c) n vs) : Rd w A vs := by
  rcases h.2 with ⟨hv, hn⟩ | ⟨g, cap, cur, hv, _, hh, _, _, hs, ht⟩
  · refine .inl (List.eq_nil_of_length_eq_zero ?_)
    rw [h.1, hn]
  · injection hv with hA
    refine .inr ⟨g, 0, hA, ?_, fun j u hu => ?_⟩
    · rcases Nat.lt_or_ge g w.heap.size with hl | hl
      · exact hl
      · rw [Array.getElem?_eq_none hl] at hh; cases hh
    · rw [← ht, List.getElem?_take] at hu
      split at hu
      · simpa [World.cell?, hh] using hu
      · cases hu
theorem NsV.kept {w w' : World} {ns : List NBox} {zs : List Int} (h : NsV w ns zs) (k : KeepRd w w') : NsV w' ns zs :=
  ⟨h.1, fun j z hz => by obtain ⟨b, P, q, c, h1, h2⟩ := h.2 j z hz; exact ⟨b, P, q, c, h1, h2.kept k⟩⟩
theorem Row.grownG {W w1 : World} {tmp : Obj} {g H : Nat} {t : TypeId} {vs : List Value} (h : Row W H t vs) (hg : (W.alloc tmp).grownBy w1 (some g)) (hne : H ≠ g) : Row w1 H t vs :=
  (hg.block H (by have := h.lt; rw [World.size_alloc]; omega) (fun e => by cases e; exact hne rfl)).trans (h.alloc tmp)
theorem infoN : (Tryz.prog.info? 34).map (fun i => (i.zero, i.size, i.bytes)) = some (some (.agg #[.bool false, .slice none 0 0]), 2, 32) := by kernel_rfl
set_option maxRecDepth 100000 in
set_option maxHeartbeats 6400000 in
theorem rorbit_any (v vn : Value) (m x : Int) (us ad : List Int) (k : Nat) (w : World) (hv : MapV w v m us ad) (hM : Hid (mapP m us ad)) (hn : RefV w vn x) (hf : Hid (K.fits x)) (hk : k ≤ 1000) :
    Calls Tryz.prog 26 #[v, vn, .int .i64 (k : Int)] w (ROrbPost m us ad x k w) := by
  obtain ⟨i0, hi, hz0, hz1, hz2⟩ := info_parts infoN
  have HV := hid hv
  have HN := hid hn
  obtain ⟨A, n, cc, B, n2, d, rfl, -⟩ := hv
  obtain ⟨A1, k1, c1, xs1, b1, rfl, -⟩ := hn
  go_enter Tryz.func26, Tryz.ntmps26
  go_upto_region 2 with fail
  have hx : Ext w (((w.alloc (.cells #[.int .i64 m, .slice A n cc, .slice B n2 d] 24)).alloc (.cells #[.bool b1, .slice A1 k1 c1] 34)).alloc (.cells #[.bool b1, .slice A1 k1 c1] 34)) := (((Ext.rfl' w).alloc' _).alloc' _).alloc' _
  have r1 : Row (((w.alloc (.cells #[.int .i64 m, .slice A n cc, .slice B n2 d] 24)).alloc (.cells #[.bool b1, .slice A1 k1 c1] 34)).alloc (.cells #[.bool b1, .slice A1 k1 c1] 34)) w.heap.size 24 [.int .i64 m, .slice A n cc, .slice B n2 d] := ((Row.new w _ _).alloc _).alloc _
  have r2 : Row (((w.alloc (.cells #[.int .i64 m, .slice A n cc, .slice B n2 d] 24)).alloc (.cells #[.bool b1, .slice A1 k1 c1] 34)).alloc (.cells #[.bool b1, .slice A1 k1 c1] 34)) (w.heap.size + 1) 34 [.bool b1, .slice A1 k1 c1] := by
    have := (Row.new (w.alloc (.cells #[.int .i64 m, .slice A n cc, .slice B n2 d] 24)) 34 [.bool b1, .slice A1 k1 c1]).alloc (.cells #[.bool b1, .slice A1 k1 c1] 34)
    rwa [World.size_alloc] at this
  have r3 : Row (((w.alloc (.cells #[.int .i64 m, .slice A n cc, .slice B n2 d] 24)).alloc (.cells #[.bool b1, .slice A1 k1 c1] 34)).alloc (.cells #[.bool b1, .slice A1 k1 c1] 34)) (w.heap.size + 1 + 1) 34 [.bool b1, .slice A1 k1 c1] := by
    have := Row.new ((w.alloc (.cells #[.int .i64 m, .slice A n cc, .slice B n2 d] 24)).alloc (.cells #[.bool b1, .slice A1 k1 c1] 34)) 34 [.bool b1, .slice A1 k1 c1]
    rwa [World.size_alloc, World.size_alloc] at this
  obtain ⟨W3, hW3⟩ : ∃ W3, (((w.alloc (.cells #[.int .i64 m, .slice A n cc, .slice B n2 d] 24)).alloc (.cells #[.bool b1, .slice A1 k1 c1] 34)).alloc (.cells #[.bool b1, .slice A1 k1 c1] 34)) = W3 := ⟨_, rfl⟩
  rw [hW3] at hx r1 r2 r3
  rw [hW3]
  have hown3 : W3.ownsRow (w.heap.size + 1 + 1) 34 2 (.slice (some ⟨w.heap.size + 1 + 1, 0, none⟩) 1 1) 1 (NL [(b1, A1, k1, c1)]) :=
    ⟨rfl, .inr ⟨_, 1, _, rfl, Nat.le_refl _, r3, Nat.le_refl _, by unfold maxLen; omega, rfl, rfl⟩⟩
  have hno3 : NoIntB W3 (w.heap.size + 1 + 1) := ⟨_, _, _, r3, by
    intro v hv kk x e
    subst e
    simp at hv⟩
  have HX := hid hx
  have R1 := hid r1
  have R2 := hid r2
  have HO3 := hid hown3
  have HN3 := hid hno3
  clear hW3 hx r1 r2 r3 hown3 hno3
  go_wp2_with fail
  go_loopw [7, 8] (fun lv iz wr => ∃ (j : Nat) (z : Int) (b : Bool) (P : Option Addr) (q c : Nat) (ns : List NBox) (zs : List Int) (g cap : Nat), j ≤ k ∧ lv = .slice (some ⟨g, 0, none⟩) (j + 1) cap ∧ iz = .int .i64 (j : Int) ∧ Row wr w.heap.size 24 [.int .i64 m, .slice A n cc, .slice B n2 d] ∧ Row wr (w.heap.size + 1) 34 [.bool b, .slice P q c] ∧ wr.ownsRow (w.heap.size + 1 + 1) 34 2 (.slice (some ⟨g, 0, none⟩) (j + 1) cap) (j + 1) (NL ns) ∧ Hid (NoIntB wr g) ∧ Hid (NsV wr ns zs) ∧ RefV wr (.agg #[.bool b, .slice P q c]) z ∧ Hid (z.natAbs ≤ BIG) ∧ Hid (RunAt m us ad k x j z) ∧ Hid (OrbAt m us ad x j zs z) ∧ Ext w wr) (fun _ iz _ => k - (intOf iz).toNat)
  case atStart =>
    refine ⟨0, x, b1, A1, k1, c1, [(b1, A1, k1, c1)], [x], _, 1, by omega, rfl, rfl, R1.out, R2.out, HO3.out, HN3, hid ⟨rfl, fun j z hz => ?_⟩, HN.out.ext HX.out, hid (fits_big hf.out), hid (.inl ⟨hf.out, rfl⟩), hid ⟨rfl, rfl, fun i hi => ?_, fun y hy => ?_⟩, HX.out⟩
    · cases j with
      | zero =>
        obtain rfl : x = z := by simpa using hz
        exact ⟨b1, A1, k1, c1, rfl, HN.out.ext HX.out⟩
      | succ j => simp at hz
    · obtain rfl : i = 0 := by omega
      rfl
    · rw [List.mem_singleton.1 hy]; exact fits_big hf.out
  case round =>
    obtain ⟨j, z, b, P, q, c, ns, zs, g, cap, hj, rfl, rfl, hr1, hr2, hown, HNO, HNS, hvz, ZB, HAT, HOA, hex⟩ := hrel
    have RM := hid hr1
    have RN := hid hr2
    have HOWN := hid hown
    have VZ := hid hvz
    have EX := hid hex
    have HGE := hid (own_ge hown)
    clear hr1 hr2 hown hvz hex R1 R2 HO3 HN3
    have hexit : ∀ w' : World, Ext wr w' → ((K.fits z ∧ j = k ∧ runO m us ad k x = some z) ∨ (¬ K.fits z ∧ runO m us ad k x = none)) → ROrbPost m us ad x k w (.returned (.slice (some ⟨g, 0, none⟩) (j + 1) cap)) w' := fun w' e hh =>
      ⟨j, z, ns, zs, g, cap, rfl, hj, HGE.out.2.2, (Rd.of_own2 HOWN.out).ext e, HNS.out.ext e, HOA.out, hh, EX.out.step e⟩
    have HEXIT := hid hexit
    clear hexit
    by_cases hlt : j < k
    · obtain ⟨g0, g1, g2, g3⟩ := row_facts RN.out
      by_cases hfz : K.fits z
      · have HFZ := hid hfz
        clear hfz
        go_wp2_with fail
        refine (rfits_any _ z wr VZ.out ZB.out true (hid ⟨fun _ => HFZ.out, fun _ => rfl⟩)).mono ?_
        rintro e w5 ⟨rfl, hx5⟩
        clear g0 g1 g2 g3
        obtain ⟨f0, f1, f2, -, -, -⟩ := row_facts3 (RM.out.ext hx5)
        obtain ⟨g0, g1, g2, g3⟩ := row_facts (RN.out.ext hx5)
        have HX5 := hid hx5
        clear hx5
        go_wp2_with fail
        refine (step2_fits _ _ m z us ad w5 (HV.out.ext (EX.out.step HX5.out)) hM (VZ.out.ext HX5.out) HFZ).mono ?_
        rintro e w6 ⟨v6, rfl, hv6, hx6⟩
        have HX6 := hid (HX5.out.step hx6)
        have HV6 := hid hv6
        obtain ⟨A6, k6, c6, xs6, b6, rfl, -⟩ := hv6
        have rn6 := RN.out.ext HX6.out
        have rm7 : Row ((w6.setCell ⟨w.heap.size + 1, 0, none⟩ (.bool b6)).setCell ⟨w.heap.size + 1, 1, none⟩ (.slice A6 k6 c6)) w.heap.size 24 [.int .i64 m, .slice A n cc, .slice B n2 d] := ((RM.out.ext HX6.out).far (by show w.heap.size ≠ w.heap.size + 1; omega) _).far (by show w.heap.size ≠ w.heap.size + 1; omega) _
        have rn7 : Row ((w6.setCell ⟨w.heap.size + 1, 0, none⟩ (.bool b6)).setCell ⟨w.heap.size + 1, 1, none⟩ (.slice A6 k6 c6)) (w.heap.size + 1) 34 [.bool b6, .slice A6 k6 c6] := (rn6.set 0 _).set 1 _
        have vz7 : RefV ((w6.setCell ⟨w.heap.size + 1, 0, none⟩ (.bool b6)).setCell ⟨w.heap.size + 1, 1, none⟩ (.slice A6 k6 c6)) (.agg #[.bool b6, .slice A6 k6 c6]) (stepI m us ad z) := HV6.out.box rn6
        have ns7 : NsV ((w6.setCell ⟨w.heap.size + 1, 0, none⟩ (.bool b6)).setCell ⟨w.heap.size + 1, 1, none⟩ (.slice A6 k6 c6)) ns zs := (HNS.out.ext HX6.out).box rn6
        have ex7 : Ext w ((w6.setCell ⟨w.heap.size + 1, 0, none⟩ (.bool b6)).setCell ⟨w.heap.size + 1, 1, none⟩ (.slice A6 k6 c6)) := ((EX.out.step HX6.out).set' (by show w.heap.size ≤ w.heap.size + 1; omega) _).set' (by show w.heap.size ≤ w.heap.size + 1; omega) _
        have hb7 : ∀ gg, w.heap.size + 1 + 1 ≤ gg → gg < wr.heap.size → ((w6.setCell ⟨w.heap.size + 1, 0, none⟩ (.bool b6)).setCell ⟨w.heap.size + 1, 1, none⟩ (.slice A6 k6 c6)).heap[gg]? = wr.heap[gg]? := fun gg h1 h2 => by
          rw [Below.heap_setCell _ _ _ gg (by show gg ≠ w.heap.size + 1; omega), Below.heap_setCell _ _ _ gg (by show gg ≠ w.heap.size + 1; omega)]
          exact HX6.out.block gg h2
        have ow7 := own_keep HOWN.out hb7
        have no7 : NoIntB ((w6.setCell ⟨w.heap.size + 1, 0, none⟩ (.bool b6)).setCell ⟨w.heap.size + 1, 1, none⟩ (.slice A6 k6 c6)) g := HNO.out.keep (hb7 g HGE.out.1 HGE.out.2.1)
        obtain ⟨W7, hW7⟩ : ∃ W7, ((w6.setCell ⟨w.heap.size + 1, 0, none⟩ (.bool b6)).setCell ⟨w.heap.size + 1, 1, none⟩ (.slice A6 k6 c6)) = W7 := ⟨_, rfl⟩
        rw [hW7] at rm7 rn7 vz7 ns7 ex7 ow7 no7
        have HW7 := hid hW7
        have RM7 := hid rm7
        have RN7 := hid rn7
        have VZ7 := hid vz7
        have NS7 := hid ns7
        have EX7 := hid ex7
        have OW7 := hid ow7
        have NO7 := hid no7
        clear f0 f1 f2 g0 g1 g2 g3 hx6 hW7 rm7 rn7 vz7 ns7 ex7 ow7 no7 hb7
        obtain ⟨g0, g1, g2, g3⟩ := row_facts rn6
        clear rn6
        go_upto_region 6 with fail
        rw [HW7.out]
        clear g0 g1 g2 g3
        obtain ⟨g0, g1, g2, g3⟩ := row_facts RN7.out
        have hbs : w.heap.size + 1 + 1 ≤ (W7.alloc (.cells #[.bool b6, .slice A6 k6 c6] 34)).heap.size := by
          have h1 := (own_ge OW7.out).1
          have h2 := (own_ge OW7.out).2.1
          rw [World.size_alloc]; omega
        go_wp2_with (at_builtin; refine wpList_append_boxes rfl _ _ 45 rfl (w.heap.size + 1 + 1) 34 i0 Tryz.underlying45 hi hz0 hz1 hz2 g (j + 1) cap (NL ns) rfl (OW7.out.alloc _) (NO7.out.keep (Below.heap_alloc W7 _ g (own_ge OW7.out).2.1)) ⟨W7.heap.size, 0, none⟩ 1 b6 A6 k6 c6 rfl (cell_two_new _ _ _ _) (by omega) hbs ?_)
        intro g' cap' w8 hown8 hgrow hcap8 hno8 hkeep
        have hk8 : KeepRd W7 w8 := (KeepRd.of_ext ((Ext.rfl' W7).alloc' _)).trans hkeep
        have hgne : g ≠ w.heap.size ∧ g ≠ w.heap.size + 1 := by have := HGE.out.1; omega
        have HFIN : Hid (∃ (j' : Nat) (z : Int) (b : Bool) (P : Option Addr) (q c : Nat) (ns : List NBox) (zs : List Int) (gg cc' : Nat), j' ≤ k ∧ Value.slice (some ⟨g', 0, none⟩) (j + 1 + 1) cap' = .slice (some ⟨gg, 0, none⟩) (j' + 1) cc' ∧ Value.int .i64 ((j : Int) + 1) = .int .i64 (j' : Int) ∧ Row w8 w.heap.size 24 [.int .i64 m, .slice A n cc, .slice B n2 d] ∧ Row w8 (w.heap.size + 1) 34 [.bool b, .slice P q c] ∧ w8.ownsRow (w.heap.size + 1 + 1) 34 2 (.slice (some ⟨gg, 0, none⟩) (j' + 1) cc') (j' + 1) (NL ns) ∧ Hid (NoIntB w8 gg) ∧ Hid (NsV w8 ns zs) ∧ RefV w8 (.agg #[.bool b, .slice P q c]) z ∧ Hid (z.natAbs ≤ BIG) ∧ Hid (RunAt m us ad k x j' z) ∧ Hid (OrbAt m us ad x j' zs z) ∧ Ext w w8) := hid (by
          refine ⟨j + 1, stepI m us ad z, b6, A6, k6, c6, ns ++ [(b6, A6, k6, c6)], zs ++ [stepI m us ad z], g', cap', by omega, rfl, by simp, RM7.out.grownG hgrow hgne.1.symm, RN7.out.grownG hgrow hgne.2.symm, by rw [NL_append]; exact hown8, hid hno8, hid ((NS7.out.kept hk8).snoc (VZ7.out.kept hk8)), VZ7.out.kept hk8, hid (stepI_big hM.out HFZ.out), hid (HAT.out.next HFZ.out hlt), hid (HOA.out.next (stepI_big hM.out HFZ.out)), (EX7.out.alloc' _).grown hgrow ?_ ?_⟩
          · have := EX7.out.size; rw [World.size_alloc]; omega
          · intro kk hkk; cases hkk; have := HGE.out.1; omega)
        clear hown8 hgrow hcap8 hno8 hkeep hk8 hgne g0 g1 g2 g3 hbs
        go_wp2
        go_roundw
        case rel => exact HFIN.out
        case measure => first | (simp [intOf]; done) | (simp [intOf]; omega)
      · have HFZ := hid hfz
        clear hfz
        go_wp2_with fail
        refine (rfits_any _ z wr VZ.out ZB.out false (hid ⟨fun h => Bool.noConfusion h, fun h => absurd h HFZ.out⟩)).mono ?_
        rintro e wE ⟨rfl, hxE⟩
        have HR := hid (HEXIT.out wE hxE (.inr ⟨HFZ.out, HAT.out.no HFZ.out⟩))
        clear g0 g1 g2 g3 hxE
        go_wp2
        go_ret
        exact HR.out
    · obtain rfl : k = j := by omega
      have HR : Hid (ROrbPost m us ad x k w (.returned (.slice (some ⟨g, 0, none⟩) (k + 1) cap)) wr) := hid (HEXIT.out wr (Ext.rfl' wr) (by
        by_cases hfz : K.fits z
        · exact .inl ⟨hfz, rfl, HAT.out.yes hfz⟩
        · exact .inr ⟨hfz, HAT.out.no hfz⟩))
      clear HEXIT
      go_wp2
      go_ret
      exact HR.out
end Go.Proofs.YtflgkijmbpcnfaaGreatDoor
/- step.Orbit in the forms that the laws use -/
namespace Go.Proofs.YtflgkijmbpcnfaaGreatDoor
open Go.RowKit
theorem rd_at {W : World} {b o j : Nat} {vs : List Value} {u : Value} (h : Rd W (some ⟨b, o, none⟩) vs) (hu : vs[j]? = some u) : W.cell? ⟨b, o + j, none⟩ = some u := by
  rcases h with h | ⟨b2, o2, e, -, hc⟩
  · subst h; simp at hu
  · cases e; exact hc j u hu
theorem orbit_no (v : Value) (m : Int) (us ad : List Int) (l : List UInt8) (k : Nat) (w : World) (hv : MapV w v m us ad) (hM : Hid (mapP m us ad)) (hl : Hid (K.validL l = true)) (hk : k ≤ 1000) (ht : Tab w) (hn : Hid (none ∈ seqO m us ad k (K.numL l))) :
    Calls Tryz.prog 25 #[v, .string (Str l), .int .i64 (k : Int)] w (fun e w' => e = .returned (.tuple #[.slice none 0 0, .int .i64 3]) ∧ Ext w w') := by
  refine (orbit_ok v m us ad l k w hv hM hl hk ht).mono ?_
  rintro e w' ⟨-, h2, h3⟩
  exact ⟨h2 hn.out, h3⟩
theorem orbit_code (v : Value) (m : Int) (us ad : List Int) (l : List UInt8) (k : Nat) (w : World) (hv : MapV w v m us ad) (hM : Hid (mapP m us ad)) (hl : Hid (K.validL l = true)) (hk : k ≤ 1000) (ht : Tab w) :
    Calls Tryz.prog 25 #[v, .string (Str l), .int .i64 (k : Int)] w (fun e w' => ∃ P q c f, e = .returned (.tuple #[.slice P q c, .int .i64 f]) ∧ (f = 0 ∨ f = 3) ∧ Ext w w') := by
  refine (orbit_ok v m us ad l k w hv hM hl hk ht).mono ?_
  rintro e w' ⟨h1, h2, h3⟩
  by_cases hn : none ∈ seqO m us ad k (K.numL l)
  · exact ⟨none, 0, 0, 3, h2 hn, .inr rfl, h3⟩
  · obtain ⟨A, q, c, he, -⟩ := h1 hn
    exact ⟨A, q, c, 0, he, .inl rfl, h3⟩
theorem item_orb {m x : Int} {us ad : List Int} {k : Nat} (hn : none ∉ seqO m us ad k x) (hx : K.fits x) (j : Nat) (hj : j < k + 1) :
    ∃ t : List UInt8, strO (some (orbN m us ad j x)) = Str t ∧ K.validL t = true ∧ K.numL t = orbN m us ad j x ∧ (orbN m us ad j x).natAbs ≤ BIG ∧ (some x :: seqO m us ad k x)[j]? = some (some (orbN m us ad j x)) := by
  obtain ⟨t, z, h1, h2, h3, h4, h5⟩ := item_at hn hx j hj
  have h6 := seq_orb0 hn j hj
  rw [h5] at h6
  obtain rfl : z = orbN m us ad j x := by simpa using h6
  exact ⟨t, h1, h2, h3, h4, h5⟩
end Go.Proofs.YtflgkijmbpcnfaaGreatDoor
