/- Joined texts: the law StepFirst; the reference's Twin: a copy of a map; the reference's Of, at negative numbers; numbers whose difference is a multiple of a power of the modulus: plain mathematics; the reference's guess; the reference's guess, of any two numbers. -/
import Derived.Test.YtflgkijmbpcnfaaGreatDoorJG12
import Derived.Test.YtflgkijmbpcnfaaGreatDoorJG06
import Derived.Test.YtflgkijmbpcnfaaGreatDoorJG07
import Derived.Deep.RegionHeldLaw
import Derived.Deep.RegionLawGrows
import Derived.Deep.Upon
import Derived.Test.YtflgkijmbpcnfaaGreatDoorJG08
import Derived.IntWalk
import Derived.Test.YtflgkijmbpcnfaaGreatDoorJG10
import Derived.Test.YtflgkijmbpcnfaaGreatDoorJG05
set_option linter.unusedSimpArgs false
set_option linter.unusedVariables false
/- the law StepFirst -/
namespace Go.Proofs.YtflgkijmbpcnfaaGreatDoor
open Go.RowKit
theorem fall_cases (x : Int) : ∀ (L : List (Option Int)) (i : Nat),
    (none ∈ L ∧ fallL x i L = (0, ⟨#[]⟩, 3)) ∨ (none ∉ L ∧ (∀ y, some y ∈ L → ¬ y < x) ∧ fallL x i L = (0, ⟨#[]⟩, 4)) ∨
    (∃ (j : Nat) (y : Int), L[j]? = some (some y) ∧ y < x ∧ none ∉ L.take (j + 1) ∧ (∀ (a : Nat) z, a < j → L[a]? = some (some z) → ¬ z < x) ∧ fallL x i L = (((i + j + 1 : Nat) : Int), Str (K.txt y), 0))
  | [], i => .inr (.inl ⟨by simp, by simp, rfl⟩)
  | none :: r, i => .inl ⟨by simp, rfl⟩
  | some y :: r, i => by
    by_cases h : y < x
    · refine .inr (.inr ⟨0, y, rfl, h, by simp, fun a z ha => absurd ha (by omega), ?_⟩)
      rw [fallL, if_pos h]; rfl
    · rcases fall_cases x r (i + 1) with ⟨h1, h2⟩ | ⟨h1, h2, h3⟩ | ⟨j, z, h1, h2, h3, h4, h5⟩
      · exact .inl ⟨by simp [h1], by rw [fallL, if_neg h, h2]⟩
      · refine .inr (.inl ⟨by simp [h1], fun u hu => ?_, by rw [fallL, if_neg h, h3]⟩)
        rcases List.mem_cons.1 hu with e | e
        · cases e; exact h
        · exact h2 u e
      · refine .inr (.inr ⟨j + 1, z, by simpa using h1, h2, by simpa using h3, fun a u ha hu => ?_, ?_⟩)
        · cases a with
          | zero => simp at hu; subst hu; exact h
          | succ a => exact h4 a u (by omega) (by simpa using hu)
        · rw [fallL, if_neg h, h5, show i + 1 + j + 1 = i + (j + 1) + 1 by omega]
theorem seq_len (m : Int) (us ad : List Int) (k : Nat) : ∀ (x : Int), none ∉ seqO m us ad k x → (seqO m us ad k x).length = k := by
  induction k with
  | zero => intro x _; rfl
  | succ k ih =>
    intro x h
    rw [seqO] at h ⊢
    generalize fitsB (stepI m us ad x) = f at h ⊢
    cases f with
    | true =>
      rw [if_pos rfl] at h ⊢
      rw [List.length_cons, ih _ (fun e => h (by simp [e]))]
    | false => rw [if_neg (by simp)] at h; exact absurd (by simp) h
theorem seq_short (m : Int) (us ad : List Int) : ∀ (k : Nat) (x : Int), (seqO m us ad k x).length ≤ k
  | 0, x => Nat.le_refl _
  | k + 1, x => by
    rw [seqO]
    split
    · rw [List.length_cons]; have := seq_short m us ad k (stepI m us ad x); omega
    · simp
theorem seq_fit (m : Int) (us ad : List Int) (k : Nat) : ∀ (x y : Int), some y ∈ seqO m us ad k x → fitsB y = true := by
  induction k with
  | zero => intro x y h; cases h
  | succ k ih =>
    intro x y h
    rw [seqO] at h
    rcases hf : fitsB (stepI m us ad x) with _ | _
    · rw [hf, if_neg (by simp)] at h; simp at h
    · rw [hf, if_pos rfl] at h
      rcases List.mem_cons.1 h with e | e
      · rw [Option.some.inj e]; exact hf
      · exact ih _ y e
theorem seq_take (m : Int) (us ad : List Int) (k : Nat) : ∀ (j : Nat) (x : Int), j < (seqO m us ad k x).length → none ∉ (seqO m us ad k x).take (j + 1) → seqO m us ad (j + 1) x = (seqO m us ad k x).take (j + 1) := by
  induction k with
  | zero => intro j x h _; exact absurd h (by simp [seqO])
  | succ k ih =>
    intro j x h hn
    rw [seqO] at h hn
    rw [seqO, seqO]
    generalize fitsB (stepI m us ad x) = f at h hn ⊢
    cases f with
    | true =>
      rw [if_pos rfl] at h hn
      rw [if_pos rfl, if_pos rfl, List.take_succ_cons]
      cases j with
      | zero => simp [seqO]
      | succ j => rw [ih j _ (by simpa using h) (by simpa using hn)]
    | false => rw [if_neg (by simp)] at hn; exact absurd (by simp) hn
theorem falls_at (v : Value) (m : Int) (us ad : List Int) (l : List UInt8) (k : Nat) (w : World) (hv : MapV w v m us ad) (hM : Hid (mapP m us ad)) (hl : Hid (K.validL l = true)) (hk0 : 1 ≤ k) (hk : k ≤ 20000) (ht : Tab w) {i c : Int} {t : ByteArray}
    (hr : Hid (fallL (K.numL l) 0 (seqO m us ad k (K.numL l)) = (i, t, c))) :
    Calls Tryz.prog 28 #[v, .string (Str l), .int .i64 (k : Int)] w (fun e w' => e = .returned (.tuple #[.int .i64 i, .string t, .int .i64 c]) ∧ Ext w w') := by
  have h := falls_ok v m us ad l k w hv hM hl hk0 hk ht
  unfold FallPost at h
  rw [hr.out] at h
  exact h
theorem orbit_at (v : Value) (m : Int) (us ad : List Int) (l : List UInt8) (k : Nat) (w : World) (hv : MapV w v m us ad) (hM : Hid (mapP m us ad)) (hl : Hid (K.validL l = true)) (hk : k ≤ 1000) (ht : Tab w) (hn : Hid (none ∉ seqO m us ad k (K.numL l))) :
    Calls Tryz.prog 25 #[v, .string (Str l), .int .i64 (k : Int)] w (fun e w' => ∃ b o c, e = .returned (.tuple #[.slice (some ⟨b, o, none⟩) (k + 1) c, .int .i64 0]) ∧ k + 1 ≤ c ∧ Hid (Rd w' (some ⟨b, o, none⟩) (Txs (some (K.numL l) :: seqO m us ad k (K.numL l)))) ∧ Ext w w') := by
  refine (orbit_ok v m us ad l k w hv hM hl hk ht).mono ?_
  rintro e w' ⟨h1, -, h3⟩
  obtain ⟨A, kk, c, rfl, hk2, hc, hr⟩ := h1 hn.out
  rw [seq_len _ _ _ _ _ hn.out] at hk2
  subst hk2
  have hr' := hr
  rcases hr with h | ⟨b, o, rfl, hb, hcell⟩
  · simp at h
  · exact ⟨b, o, c, rfl, hc, hid hr', h3⟩
theorem rvalid_x (l : List UInt8) (w : World) (hv : Hid (K.validL l = true)) :
    Calls Tryz.prog 30 #[.string (Str l)] w fun e w' => e = .returned (.bool true) ∧ Ext w w' :=
  (rvalid_at l w hv (len_of (valid_len hv.out))).mono fun e w' h => ⟨h.1, by rw [← h.2]; exact Ext.rfl' _⟩
theorem item_at {m x : Int} {us ad : List Int} {k : Nat} (hn : none ∉ seqO m us ad k x) (hx : K.fits x) (j : Nat) (hj : j < k + 1) :
    ∃ (t : List UInt8) (z : Int), strO (some z) = Str t ∧ K.validL t = true ∧ K.numL t = z ∧ z.natAbs ≤ BIG ∧ (some x :: seqO m us ad k x)[j]? = some (some z) := by
  have hl : (some x :: seqO m us ad k x).length = k + 1 := by rw [List.length_cons, seq_len _ _ _ _ _ hn]
  have hm : (some x :: seqO m us ad k x)[j]? = some ((some x :: seqO m us ad k x)[j]'(by omega)) := List.getElem?_eq_getElem (by omega)
  generalize (some x :: seqO m us ad k x)[j]'(by omega) = o at hm
  have hmem := List.mem_of_getElem? hm
  have hz : ∃ z, o = some z ∧ K.fits z := by
    rcases List.mem_cons.1 hmem with e | e
    · exact ⟨x, e, hx⟩
    · cases o with
      | none => exact absurd e hn
      | some z => exact ⟨z, rfl, fitsB_iff.1 (seq_fit _ _ _ _ _ _ e)⟩
  obtain ⟨z, rfl, hf⟩ := hz
  exact ⟨K.txt z, z, rfl, K.valid_txt _ hf, K.numL_txt z, fits_big hf, hm⟩
theorem cell_item {W : World} {b o j : Nat} {l : List (Option Int)} {z : Int} {t : List UInt8} (h : Rd W (some ⟨b, o, none⟩) (Txs l)) (hj : l[j]? = some (some z)) (ht : strO (some z) = Str t) : W.cell? ⟨b, o + j, none⟩ = some (.string (Str t)) := by
  rcases h with h | ⟨b2, o2, e, -, hc⟩
  · rw [List.map_eq_nil_iff] at h; subst h; simp at hj
  · cases e
    exact hc j _ (by rw [List.getElem?_map, hj, Option.map_some, ht])
theorem box2 {w : World} {t : TypeId} {b : Bool} {A : Option Addr} {k c : Nat} {n : Int} (hv : RefV w (.agg #[.bool b, .slice A k c]) n) :
    Ext w (w.alloc (.cells #[.bool b, .slice A k c] t)) ∧ RefV (w.alloc (.cells #[.bool b, .slice A k c] t)) (.agg #[.bool b, .slice A k c]) n ∧ Row (w.alloc (.cells #[.bool b, .slice A k c] t)) w.heap.size t [.bool b, .slice A k c] :=
  ⟨(Ext.rfl' w).alloc' _, hv.ext ((Ext.rfl' w).alloc' _), Row.new w _ _⟩
end Go.Proofs.YtflgkijmbpcnfaaGreatDoor
/- the reference's Twin: a copy of a map -/
namespace Go.Proofs.YtflgkijmbpcnfaaGreatDoor
open Go.RowKit
/-- the slice reads as the values, out of a block from B on -/
def RdN (B : Nat) (w : World) (A : Option Addr) (vs : List Value) : Prop :=
  vs = [] ∨ ∃ b o, A = some ⟨b, o, none⟩ ∧ B ≤ b ∧ b < w.heap.size ∧ ∀ j u, vs[j]? = some u → w.cell? ⟨b, o + j, none⟩ = some u
theorem RdN.rd {B : Nat} {w : World} {A : Option Addr} {vs : List Value} (h : RdN B w A vs) : Rd w A vs := by
  rcases h with h | ⟨b, o, ha, -, hb, hc⟩
  · exact .inl h
  · exact .inr ⟨b, o, ha, hb, hc⟩
theorem RdN.ext {B : Nat} {w w' : World} {A : Option Addr} {vs : List Value} (h : RdN B w A vs) (e : Ext w w') : RdN B w' A vs := by
  rcases h with h | ⟨b, o, ha, hB, hb, hc⟩
  · exact .inl h
  · exact .inr ⟨b, o, ha, hB, Nat.lt_of_lt_of_le hb e.size, fun j u hu => (e.cell (p := ⟨b, o + j, none⟩) hb).trans (hc j u hu)⟩
theorem RdN.far {B : Nat} {w : World} {A : Option Addr} {vs : List Value} (h : RdN B w A vs) {p : Addr} (hp : p.block < B) (u : Value) : RdN B (w.setCell p u) A vs := by
  rcases h with h | ⟨b, o, ha, hB, hb, hc⟩
  · exact .inl h
  · refine .inr ⟨b, o, ha, hB, by rw [World.size_setCell]; exact hb, fun j v hv => ?_⟩
    rw [World.cell?_of_block (Below.heap_setCell w p u b (by omega))]
    exact hc j v hv
/-- a list appended to an empty one, as one step of a region that draws -/
theorem step_twin {P : Program} {ops : Array Oper} {o : Oper} {a : Act} {w : World} {K : Act → World → Prop} {Q : Exit → Act → World → Prop} {E : Prop}
    (hg : o.guard = none) (s x : Operand) (t : TypeId) (hop : o.op = Op.call { callee := Callee.builtin Builtin.append, args := #[s, x], argTypes := #[t, t] })
    (e : TypeId) (i : TypeInfo) (h1 : P.underlying t = some (.slice e)) (h2 : P.info? e = some i) (h3 : i.zero = some (.int .i64 0)) (h4 : i.size = 1) (h5 : i.bytes = 8)
    (b : Addr) (hs : a.eval s = .slice (some b) 0 0) (A : Option Addr) (k c : Nat) (hx : a.eval x = .slice A k c) (us : List Int) (hl : us.length = k) (hr : Rd w A (Is us)) (hb : k * 8 ≤ 140737488355328)
    (B0 : Nat) (hB0 : B0 ≤ w.heap.size)
    (hK : ∀ A' c' w', k ≤ c' → RdN B0 w' A' (Is us) → Ext w w' → K (a.put o.dst (.slice A' k c')) w') :
    if Region.wanted o (yielded ops a.tmps) = true then Oper.wp P o a w K Q else E := by
  rcases Nat.eq_zero_or_pos k with h0 | h0
  · subst h0
    have hw : Region.wanted o (yielded ops a.tmps) = true := by simp [Region.wanted, hg]
    rw [if_pos hw]
    have hsrc : Src P i.size t (.slice A 0 c) 0 [] w := by
      cases A with
      | none => exact Src.ofNil w h1 c
      | some ad => exact Src.ofSlice w h1 ad 0 c [] (by simp) (by simp) (by simp)
    have hrun := run_append_nothing (P := P) w t t o.type e i h1 h2 (some b) 0 0 (Nat.le_refl _) (.slice A 0 c) hsrc
    unfold Oper.wp
    simp [execOp, hop, resolve, invoke, builtin, hs, hx, hrun, Result.andThen]
    exact hK (some b) 0 w (Nat.le_refl _) (by rw [List.eq_nil_of_length_eq_zero hl]; exact .inl rfl) (Ext.rfl' w)
  · rcases hr with hn | ⟨g, off, rfl, hlt, hc⟩
    · rw [List.map_eq_nil_iff] at hn; subst hn; simp at hl; omega
    · refine step_append_grows hg s x t hop e i (.int .i64 0) 1 8 h1 h2 h3 h4 h5 rfl (by decide) (some b) 0 0 [] hs (fun h => by cases h) (by simp) (fun b' _ j u hu => by simp at hu) ⟨g, off, none⟩ k c (Is us) hx (by simp [hl]) (fun j u hu => ?_) (fun u hu => ?_) (by omega) (by unfold maxLen; omega) (by omega) ?_
      · have : (⟨g, off, none⟩ : Addr).add j = ⟨g, off + j, none⟩ := by unfold Addr.add; split <;> simp_all
        rw [this]; exact hc j u hu
      · obtain ⟨y, _, rfl⟩ := List.mem_map.1 hu; rfl
      · intro v' w' hown hgrow
        rw [Nat.zero_add, List.nil_append] at hown
        obtain ⟨g', cap, sp, rfl, hge, hcap, -⟩ := own_form hown (by omega)
        refine hK _ _ w' hcap ?_ ⟨hgrow.os, hgrow.tape, hgrow.output, hgrow.size, fun j hj => hgrow.block j hj (by simp)⟩
        rcases Rd.of_own hown with h | ⟨b1, o1, e1, hb1, hc1⟩
        · exact .inl h
        · refine .inr ⟨b1, o1, e1, ?_, hb1, hc1⟩
          cases e1
          omega
theorem infoI2 : (Tryz.prog.info? 3).map (fun i => (i.zero, i.size, i.bytes)) = some (some (.int .i64 0), 1, 8) := by kernel_rfl
set_option maxRecDepth 100000 in
set_option maxHeartbeats 3200000 in
theorem twin_any (v : Value) (m : Int) (us ad : List Int) (w : World) (hv : MapV w v m us ad) (h8 : Fit8 v) :
    Calls Tryz.prog 14 #[v] w (fun e w' => ∃ v2, e = .returned v2 ∧ MapV w' v2 m us ad ∧ Ext w w') := by
  obtain ⟨i0, hi, hz0, hz1, hz2⟩ := info_parts infoI2
  obtain ⟨A, n, cc, B, n2, d, rfl, h1, h2, h3, h4, h5, h6, h7, h9⟩ := hv
  obtain ⟨h8a, h8b⟩ := h8 _ _ _ _ _ _ _ rfl
  have hx : Ext w ((w.alloc (.cells #[.int .i64 m, .slice A n cc, .slice B n2 d] 24)).alloc (.cells #[.int .i64 0, .slice none 0 0, .slice none 0 0] 24)) := ((Ext.rfl' w).alloc' _).alloc' _
  have r1 : Row ((w.alloc (.cells #[.int .i64 m, .slice A n cc, .slice B n2 d] 24)).alloc (.cells #[.int .i64 0, .slice none 0 0, .slice none 0 0] 24)) w.heap.size 24 [.int .i64 m, .slice A n cc, .slice B n2 d] := (Row.new w _ _).alloc _
  have r2 : Row ((w.alloc (.cells #[.int .i64 m, .slice A n cc, .slice B n2 d] 24)).alloc (.cells #[.int .i64 0, .slice none 0 0, .slice none 0 0] 24)) (w.heap.size + 1) 24 [.int .i64 0, .slice none 0 0, .slice none 0 0] := by
    have := Row.new (w.alloc (.cells #[.int .i64 m, .slice A n cc, .slice B n2 d] 24)) 24 [.int .i64 0, .slice none 0 0, .slice none 0 0]
    rwa [World.size_alloc] at this
  obtain ⟨W2, hW2⟩ : ∃ W2, ((w.alloc (.cells #[.int .i64 m, .slice A n cc, .slice B n2 d] 24)).alloc (.cells #[.int .i64 0, .slice none 0 0, .slice none 0 0] 24)) = W2 := ⟨_, rfl⟩
  rw [hW2] at hx r1 r2
  have HW2 := hid hW2
  have HX := hid hx
  have R1 := hid r1
  have R2 := hid r2
  have HA := hid (h5.ext hx)
  have HB := hid (h6.ext hx)
  have H1 := hid h1
  have H3 := hid h3
  obtain ⟨f0, f1, f2, -, -, -⟩ := row_facts3 r1
  have hcur : Ext W2 W2 := Ext.rfl' _
  clear hW2 hx r1 r2 h5 h6 h1 h3 h8
  go_enter Tryz.func14, Tryz.ntmps14
  go_upto_region 1 with fail
  rw [HW2.out]
  go_wp2_with fail
  have HS : Hid (∀ W', Ext W2 W' → W'.cell? ⟨w.heap.size, 0, none⟩ = some (.int .i64 m) ∧ W'.cell? ⟨w.heap.size, 1, none⟩ = some (.slice A n cc) ∧ W'.cell? ⟨w.heap.size, 2, none⟩ = some (.slice B n2 d)) := hid (by
    intro W' e
    obtain ⟨p0, p1, p2, -, -, -⟩ := row_facts3 (R1.out.ext e)
    exact ⟨p0, p1, p2⟩)
  go_region_held3 (fun W' => W'.cell? ⟨w.heap.size, 0, none⟩ = some (.int .i64 m) ∧ W'.cell? ⟨w.heap.size, 1, none⟩ = some (.slice A n cc) ∧ W'.cell? ⟨w.heap.size, 2, none⟩ = some (.slice B n2 d))
    (first | exact HS.out _ hcur | exact HS.out _ hcur.drew' | exact HS.out _ (hcur.alloc' _) | exact HS.out _ (hcur.drew'.alloc' _) | exact HS.out _ ((hcur.alloc' _).alloc' _) | exact HS.out _ ((hcur.drew'.alloc' _).alloc' _) | go_keep)
    (first
      | (refine step_twin rfl (.tmp 5) (.tmp 7) 22 rfl 3 i0 Tryz.underlying22 hi hz0 hz1 hz2 _ (by simp only [Act.eval]; rfl) A n cc (by simp only [Act.eval]; rfl) us H1.out (HA.out.ext ?_) h8a W2.heap.size ?_ ?_; (first | exact hcur | exact hcur.drew' | exact hcur.alloc' _ | exact hcur.drew'.alloc' _ | exact (hcur.alloc' _).drew' | exact (hcur.alloc' _).alloc' _ | exact (hcur.drew'.alloc' _).alloc' _); (first | exact hcur.size | exact (hcur.alloc' _).size | exact (hcur.drew'.alloc' _).size | exact ((hcur.alloc' _).alloc' _).size | exact ((hcur.drew'.alloc' _).alloc' _).size); intro A5 c5 w5 hc5 hr5 hx; (first | have HR6 := hid (HR6.out.ext (by first | exact hx | exact Ext.undrew hx | exact Ext.step ((Ext.rfl' _).alloc' _) hx | exact Ext.step ((Ext.rfl' _).drew'.alloc' _) hx)) | skip); have HR5 := hid hr5; have hcur := Ext.step hcur (by first | exact hx | exact Ext.undrew hx | exact Ext.step ((Ext.rfl' _).alloc' _) hx | exact Ext.step ((Ext.rfl' _).drew'.alloc' _) hx | exact Ext.step (((Ext.rfl' _).alloc' _).alloc' _) hx | exact Ext.step (((Ext.rfl' _).drew'.alloc' _).alloc' _) hx); obtain ⟨z0, z1, z2, z3, z4, z5⟩ := row_facts3 (R2.out.ext hcur))
      | (refine step_twin rfl (.tmp 9) (.tmp 11) 22 rfl 3 i0 Tryz.underlying22 hi hz0 hz1 hz2 _ (by simp only [Act.eval]; rfl) B n2 d (by simp only [Act.eval]; rfl) ad H3.out (HB.out.ext ?_) h8b W2.heap.size ?_ ?_; (first | exact hcur | exact hcur.drew' | exact hcur.alloc' _ | exact hcur.drew'.alloc' _ | exact (hcur.alloc' _).drew' | exact (hcur.alloc' _).alloc' _ | exact (hcur.drew'.alloc' _).alloc' _); (first | exact hcur.size | exact (hcur.alloc' _).size | exact (hcur.drew'.alloc' _).size | exact ((hcur.alloc' _).alloc' _).size | exact ((hcur.drew'.alloc' _).alloc' _).size); intro A6 c6 w6 hc6 hr6 hx; (first | have HR5 := hid (HR5.out.ext (by first | exact hx | exact Ext.undrew hx | exact Ext.step ((Ext.rfl' _).alloc' _) hx | exact Ext.step ((Ext.rfl' _).drew'.alloc' _) hx)) | skip); have HR6 := hid hr6; have hcur := Ext.step hcur (by first | exact hx | exact Ext.undrew hx | exact Ext.step ((Ext.rfl' _).alloc' _) hx | exact Ext.step ((Ext.rfl' _).drew'.alloc' _) hx | exact Ext.step (((Ext.rfl' _).alloc' _).alloc' _) hx | exact Ext.step (((Ext.rfl' _).drew'.alloc' _).alloc' _) hx); obtain ⟨z0, z1, z2, z3, z4, z5⟩ := row_facts3 (R2.out.ext hcur)))
  all_goals
    have hfin : MapV _ (.agg #[.int .i64 m, .slice A5 n c5, .slice A6 n2 c6]) m us ad := ⟨A5, n, c5, A6, n2, c6, rfl, H1.out, hc5, H3.out, hc6, (((HR5.out.far (p := ⟨w.heap.size + 1, 0, none⟩) (by show w.heap.size + 1 < W2.heap.size; exact R2.out.lt) (.int .i64 m)).far (p := ⟨w.heap.size + 1, 1, none⟩) (by show w.heap.size + 1 < W2.heap.size; exact R2.out.lt) (.slice A5 n c5)).far (p := ⟨w.heap.size + 1, 2, none⟩) (by show w.heap.size + 1 < W2.heap.size; exact R2.out.lt) (.slice A6 n2 c6)).rd, (((HR6.out.far (p := ⟨w.heap.size + 1, 0, none⟩) (by show w.heap.size + 1 < W2.heap.size; exact R2.out.lt) (.int .i64 m)).far (p := ⟨w.heap.size + 1, 1, none⟩) (by show w.heap.size + 1 < W2.heap.size; exact R2.out.lt) (.slice A5 n c5)).far (p := ⟨w.heap.size + 1, 2, none⟩) (by show w.heap.size + 1 < W2.heap.size; exact R2.out.lt) (.slice A6 n2 c6)).rd, h7, h9⟩
    have hext := (HX.out.step hcur).set3 (H := w.heap.size + 1) (a := .int .i64 m) (b := .slice A5 n c5) (c := .slice A6 n2 c6) (by omega)
    have HF := hid hfin
    have HE := hid hext
    clear hfin hext
    go_wp2
    refine bodyPost_ret (v := .agg #[.int .i64 m, .slice A5 n c5, .slice A6 n2 c6]) (by simp [results, Tryz.results14, go_sem, z0, z1, z2]) rfl ⟨_, rfl, HF.out, HE.out⟩
end Go.Proofs.YtflgkijmbpcnfaaGreatDoor
/- the reference's Of, at negative numbers -/
namespace Go.Proofs.YtflgkijmbpcnfaaGreatDoor
open Go.RowKit
set_option maxRecDepth 100000 in
set_option maxHeartbeats 3200000 in
theorem of_neg (n : Nat) (w : World) (hn : n < 1000000000000000000) (hp : 0 < n) :
    Calls Tryz.prog 32 #[.int .i64 (-(n : Int))] w (RefPost (-(n : Int)) w) := by
  obtain ⟨i0, hi, hz0, hz1, hz2⟩ := info_parts infoI
  have hlt : -(n : Int) < 0 := by omega
  have hwr : IntKind.i64.wrap (n : Int) = (n : Int) := IntWalk.i64_in _ (by omega)
  go_enter Tryz.func32, Tryz.ntmps32
  go_wp2_with fail
  generalize hW0 : w.alloc (.cells #[.bool false, .slice none 0 0] 34) = W0
  have hE : Ext w W0 := by rw [← hW0]; exact (Ext.rfl' w).alloc' _
  have hR : Row W0 w.heap.size 34 [.bool false, .slice none 0 0] := by rw [← hW0]; exact Row.new w _ _
  clear hW0
  go_loopw [0, 4] (fun z v wr => ∃ (j q : Nat) (xs : List Nat) (A : Option Addr) (c : Nat), v = .slice A j c ∧ z = .int .i64 (q : Int) ∧ q ≤ n ∧ wr.ownsRow W0.heap.size 3 1 (.slice A j c) j (I64s xs) ∧ Ext W0 wr ∧ W0.heap.size ≤ wr.heap.size ∧
      Hid (xs.length = j ∧ K.lv xs + 1000000000 ^ j * q = n ∧ (∀ x ∈ xs, x < 1000000000) ∧ (0 < q ∨ xs.getLast? ≠ some 0) ∧ j ≤ 2)) (fun z _ _ => (intOf z).toNat)
  case atStart =>
    exact ⟨0, n, [], none, 0, rfl, rfl, Nat.le_refl _, World.ownsRow_nil _ _ _ _, Ext.rfl' _, Nat.le_refl _, hid ⟨rfl, by simp [K.lv], by simp, by simp, by omega⟩⟩
  case round =>
    obtain ⟨j, q, xs, A, c, rfl, rfl, hqn, hown, hex, hsz, hxs⟩ := hrel
    have HOWN := hid hown
    clear hown
    by_cases hq : 0 < q
    · have hj : j < 2 := by
        have h1 := hxs.out.2.1
        have h2 := hxs.out.2.2.2.2
        rcases Nat.lt_or_ge j 2 with h | h
        · exact h
        · obtain rfl : j = 2 := by omega
          simp at h1
          omega
      go_wp2_with (at_builtin; refine wpList_append_own _ rfl _ _ 22 rfl W0.heap.size 3 i0 (.int .i64 0) 1 8 Tryz.underlying22 hi hz0 hz1 hz2 rfl (by decide) _ _ _ rfl (HOWN.out.alloc _) ⟨wr.heap.size, 0, none⟩ 1 1 [.int .i64 ((q : Int) % 1000000000)] rfl rfl (cell_one_new _ _ _) (fun u hu => by simp at hu; subst hu; rfl) ?c1 ?c2 ?c3 ?_)
      case c1 => unfold maxLen; omega
      case c2 => omega
      case c3 => first | omega | (simp; omega)
      intro v' w1 hown' hgrow hnil
      obtain ⟨g, cap, sp, rfl, hg, hc1, hc2, hrow1, hvl, hsl⟩ := own_form hown' (by omega)
      have hex' : Ext W0 w1 := (hex.alloc' _).grown hgrow (by simp; omega) (by
        intro k hk
        exact (HOWN.out.lt k hk).1)
      have hsz' : W0.heap.size ≤ w1.heap.size := hex'.size
      have HO := hid hown'
      clear hown' hgrow hnil hrow1 hvl hsl hg hc1 hc2
      go_wp2
      go_roundw
      case rel =>
        have hx := hxs.out
        refine ⟨j + 1, q / 1000000000, xs ++ [q % 1000000000], _, _, rfl, by simp, by omega, by simpa using HO.out, hex', hsz', hid ⟨by simp [hx.1], ?_, ?_, ?_, by omega⟩⟩
        · rw [lv_snoc, hx.1, ← hx.2.1, Nat.pow_succ, Nat.mul_assoc, Nat.add_assoc, ← Nat.mul_add]
          congr 2
          omega
        · intro y hy
          rcases List.mem_append.1 hy with h | h
          · exact hx.2.2.1 y h
          · obtain rfl : y = q % 1000000000 := by simpa using h
            omega
        · by_cases h0 : 0 < q / 1000000000
          · exact .inl h0
          · refine .inr ?_
            rw [List.getLast?_append]
            simp
            omega
      case measure => simp [intOf]; omega
    · have hjc : j ≤ c := by
        rcases HOWN.out.2 with ⟨h, h0⟩ | ⟨g, cap, cur, h, hg, hh, hc, _⟩
        · injection h with h1 h2 h3; omega
        · injection h with h1 h2 h3; omega
      have hx := hxs.out
      have hrd := Rd.of_own HOWN.out
      have hr := hR.ext hex
      have c0 : wr.cell? ⟨w.heap.size, 0, none⟩ = some (.bool false) := hr.cell 0
      have c1 : wr.cell? ⟨w.heap.size, 1, none⟩ = some (.slice none 0 0) := hr.cell 1
      have f0 := hr.free 0
      have f1 := hr.free 1
      obtain rfl : q = 0 := by omega
      have hfin : RefPost (-(n : Int)) w (.returned (.agg #[.bool true, .slice A j c])) ((wr.setCell ⟨w.heap.size, 0, none⟩ (.bool true)).setCell ⟨w.heap.size, 1, none⟩ (.slice A j c)) := by
        refine ⟨_, rfl, ⟨A, j, c, xs, true, rfl, ?_, hx.1, hjc, ?_, ⟨hx.2.2.1, hx.2.2.2.1.resolve_left (by omega)⟩, ?_⟩, ((hE.step hex).set' (Nat.le_refl _) _).set' (Nat.le_refl _) _⟩
        · refine hid ?_
          symm
          exact decide_eq_true (by omega)
        · refine Rd.two hrd ?_ hr
          intro u hu
          obtain ⟨y, _, rfl⟩ := List.mem_map.1 hu
          exact ⟨_, _, rfl⟩
        · rw [Int.natAbs_neg, Int.natAbs_natCast, ← hx.2.1]; simp
      have HF := hid hfin
      clear hfin hx hrd hr hjc
      go_wp2
      refine bodyPost_ret (v := .agg #[.bool true, .slice A j c]) (by simp [results, Tryz.results32, go_sem, c0, c1]) rfl HF.out
/-- Of, at every number of this size -/
theorem of_any (i : Int) (w : World) (hn : i.natAbs < 1000000000000000000) : Calls Tryz.prog 32 #[.int .i64 i] w (RefPost i w) := by
  rcases Int.lt_or_le i 0 with h | h
  · obtain ⟨n, rfl⟩ : ∃ n : Nat, i = -(n : Int) := ⟨i.natAbs, by omega⟩
    exact of_neg n w (by omega) (by omega)
  · obtain ⟨n, rfl⟩ : ∃ n : Nat, i = (n : Int) := ⟨i.natAbs, by omega⟩
    exact of_nat n w (by omega)
end Go.Proofs.YtflgkijmbpcnfaaGreatDoor
/- numbers whose difference is a multiple of a power of the modulus: plain mathematics -/
namespace Go.Proofs.YtflgkijmbpcnfaaGreatDoor
/-- the number after some steps, whatever its size -/
def orbN (m : Int) (us ad : List Int) : Nat → Int → Int
  | 0, x => x
  | k + 1, x => stepI m us ad (orbN m us ad k x)
theorem orbN_cons (m : Int) (us ad : List Int) : ∀ (k : Nat) (x : Int), orbN m us ad (k + 1) x = orbN m us ad k (stepI m us ad x)
  | 0, x => rfl
  | k + 1, x => by
    rw [orbN, orbN_cons m us ad k x]
    rfl
/-- the factor of the rest of a number -/
def mulAt (m : Int) (us : List Int) (x : Int) : Int := us.getD (rOf m x) 0
/-- the product of the factors of the first rests -/
def growN (m : Int) (us ad : List Int) : Nat → Int → Int
  | 0, _ => 1
  | k + 1, x => growN m us ad k x * mulAt m us (orbN m us ad k x)
theorem seq_orb (m : Int) (us ad : List Int) (k : Nat) : ∀ (x : Int), none ∉ seqO m us ad k x → ∀ j, j < k → (seqO m us ad k x)[j]? = some (some (orbN m us ad (j + 1) x)) := by
  induction k with
  | zero => intro x _ j hj; omega
  | succ k ih =>
    intro x hn j hj
    rw [seqO] at hn ⊢
    by_cases hf : fitsB (stepI m us ad x) = true
    · rw [if_pos hf] at hn ⊢
      cases j with
      | zero => rfl
      | succ j =>
        rw [List.getElem?_cons_succ, ih _ (fun h => hn (List.mem_cons_of_mem _ h)) j (by omega), orbN_cons m us ad (j + 1) x]
    · rw [if_neg hf] at hn
      exact absurd (List.mem_singleton.2 rfl) hn
theorem seq_orb0 {m : Int} {us ad : List Int} {k : Nat} {x : Int} (hn : none ∉ seqO m us ad k x) (j : Nat) (hj : j < k + 1) : (some x :: seqO m us ad k x)[j]? = some (some (orbN m us ad j x)) := by
  cases j with
  | zero => rfl
  | succ j => rw [List.getElem?_cons_succ]; exact seq_orb m us ad k x hn j (by omega)
theorem rOf_shift {m : Int} (x t : Int) : rOf m (x + m * t) = rOf m x := by
  unfold rOf; rw [Int.add_mul_emod_self_left]
theorem stepI_shift {m : Int} {us ad : List Int} (hm : 0 < m) (x t : Int) : stepI m us ad (x + m * t) = stepI m us ad x + mulAt m us x * t := by
  unfold stepI mulAt
  rw [rOf_shift]
  generalize us.getD (rOf m x) 0 = u
  generalize ad.getD (rOf m x) 0 = a
  rw [show u * (x + m * t) + a = (u * x + a) + m * (u * t) by rw [Int.mul_add, Int.mul_left_comm]; omega, Int.add_mul_ediv_left _ _ (by omega)]
theorem alike_orb {m : Int} {us ad : List Int} (hm : 0 < m) (k : Nat) (x D : Int) : ∀ j, j ≤ k → orbN m us ad j (x + D * m ^ k) = orbN m us ad j x + D * growN m us ad j x * m ^ (k - j)
  | 0, _ => by simp [orbN, growN]
  | j + 1, h => by
    have ih := @alike_orb m us ad hm k x D j (by omega)
    have e : k - j = (k - (j + 1)) + 1 := by omega
    rw [orbN, ih, e, Int.pow_succ, orbN, growN]
    generalize m ^ (k - (j + 1)) = q
    generalize growN m us ad j x = g
    generalize orbN m us ad j x = y
    rw [show D * g * (q * m) = m * (D * g * q) by rw [← Int.mul_assoc, Int.mul_comm], stepI_shift hm]
    rw [show D * (g * mulAt m us y) * q = mulAt m us y * (D * g * q) by
      rw [← Int.mul_assoc, Int.mul_comm (D * g) (mulAt m us y), Int.mul_assoc]]
theorem alike_rest {m : Int} {us ad : List Int} (hm : 0 < m) (k : Nat) (x D : Int) (j : Nat) (h : j < k) : orbN m us ad j (x + D * m ^ k) % m = orbN m us ad j x % m := by
  rw [alike_orb hm k x D j (by omega), show k - j = (k - (j + 1)) + 1 by omega, Int.pow_succ]
  generalize m ^ (k - (j + 1)) = q
  rw [show D * growN m us ad j x * (q * m) = m * (D * growN m us ad j x * q) by rw [← Int.mul_assoc, Int.mul_comm], Int.add_mul_emod_self_left]
theorem alike_end {m : Int} {us ad : List Int} (hm : 0 < m) (k : Nat) (x D : Int) : orbN m us ad k (x + D * m ^ k) - orbN m us ad k x = D * growN m us ad k x := by
  rw [alike_orb hm k x D k (Nat.le_refl _), Nat.sub_self, Int.pow_zero, Int.mul_one]
  omega
theorem thousand (k : Nat) : 1000 ^ (3 * k) = TOP k := by
  unfold TOP
  rw [Nat.pow_mul]
theorem thousand_le (k c : Nat) (h : k ≤ 3 * c) : 1000 ^ k ≤ TOP c := by
  rw [← thousand]; exact Nat.pow_le_pow_right (by omega) h
/-- bounds: a number times a thousand as often as there are steps -/
theorem pow_top {D c : Int} (hD : K.fits D) (hc : c.natAbs ≤ 1000) (k : Nat) (hk : k ≤ 1002) : (D * c ^ k).natAbs ≤ BIG := by
  have h1 := fits_top hD
  have h2 : (c ^ k).natAbs ≤ 1000 ^ k := by rw [Int.natAbs_pow]; exact Nat.pow_le_pow_left hc k
  have h3 : 1000 ^ k ≤ TOP 334 := thousand_le k 334 (by omega)
  have h5 : (c ^ k).natAbs ≤ TOP 334 := Nat.le_trans h2 h3
  have h6 : (D * c ^ k).natAbs < TOP (223 + 334) := by
    rw [Int.natAbs_mul, TOP_add]
    calc D.natAbs * (c ^ k).natAbs ≤ D.natAbs * TOP 334 := Nat.mul_le_mul_left _ h5
      _ < TOP 223 * TOP 334 := Nat.mul_lt_mul_of_pos_right h1 (TOP_pos _)
  exact le_big h6 (by omega)
theorem grow_le {m : Int} {us ad : List Int} (hM : mapP m us ad) (x : Int) : ∀ k, (growN m us ad k x).natAbs ≤ 1000 ^ k
  | 0 => by simp [growN]
  | k + 1 => by
    have ih := grow_le hM x k
    have h := rule_at hM (orbN m us ad k x)
    have h2 : (mulAt m us (orbN m us ad k x)).natAbs ≤ 1000 := by
      unfold mulAt
      have h1 := h.1
      have h2 := h.2.1
      omega
    rw [growN, Int.natAbs_mul, Nat.pow_succ]
    exact Nat.mul_le_mul ih h2
theorem grow_top {m : Int} {us ad : List Int} (hM : mapP m us ad) {D : Int} (hD : K.fits D) (x : Int) (k : Nat) (hk : k ≤ 1002) : (D * growN m us ad k x).natAbs ≤ BIG := by
  have h1 := fits_top hD
  have h2 := grow_le hM x k
  have h3 : 1000 ^ k ≤ TOP 334 := thousand_le k 334 (by omega)
  have h5 : (growN m us ad k x).natAbs ≤ TOP 334 := Nat.le_trans h2 h3
  have h6 : (D * growN m us ad k x).natAbs < TOP (223 + 334) := by
    rw [Int.natAbs_mul, TOP_add]
    calc D.natAbs * (growN m us ad k x).natAbs ≤ D.natAbs * TOP 334 := Nat.mul_le_mul_left _ h5
      _ < TOP 223 * TOP 334 := Nat.mul_lt_mul_of_pos_right h1 (TOP_pos _)
  exact le_big h6 (by omega)
end Go.Proofs.YtflgkijmbpcnfaaGreatDoor
/- the reference's guess -/
namespace Go.Proofs.YtflgkijmbpcnfaaGreatDoor
open Go.RowKit
/-- a guess: at least 1, and not too many -/
def RGuess (a b : Nat) (w : World) (e : Ending) (w' : World) : Prop := ∃ (v : Value) (g : Nat), e = .returned v ∧ RefV w' v (g : Int) ∧ 1 ≤ g ∧ g * b ≤ a ∧ Ext w w'
/-- digits of a quotient behind zeros -/
def GInv (s q : Nat) (j p : Nat) (zs : List Nat) : Prop := zs.length = s + j ∧ K.lv zs + 1000000000 ^ (s + j) * p = 1000000000 ^ s * q ∧ (∀ z ∈ zs, z < 1000000000) ∧ j ≤ 3 ∧ 1000000000 ^ j * p ≤ q
theorem GInv.start (s q : Nat) : GInv s q 0 q (List.replicate s 0) := ⟨by simp, by rw [K.lv_zeros]; simp, by simp, by omega, by simp⟩
theorem GInv.step {s q j p : Nat} {zs : List Nat} (h : GInv s q j p zs) (hp : 0 < p) (hq : q < 1000000000000000000000000000) : GInv s q (j + 1) (p / 1000000000) (zs ++ [p % 1000000000]) ∧ j < 3 := by
  obtain ⟨h1, h2, h3, h4, h5⟩ := h
  have hm := Nat.div_add_mod p 1000000000
  have hj : j < 3 := by
    rcases Nat.lt_or_ge j 3 with h | h
    · exact h
    · obtain rfl : j = 3 := by omega
      have : 1000000000 ^ 3 * 1 ≤ 1000000000 ^ 3 * p := Nat.mul_le_mul_left _ hp
      have e : (1000000000 : Nat) ^ 3 = 1000000000000000000000000000 := rfl
      rw [e] at this h5
      omega
  refine ⟨⟨by simp [h1]; omega, ?_, ?_, by omega, ?_⟩, hj⟩
  · rw [lv_snoc, h1, ← h2, show s + (j + 1) = s + j + 1 by omega, Nat.pow_succ, Nat.mul_assoc, Nat.add_assoc, ← Nat.mul_add]
    congr 2
    omega
  · intro z hz
    rcases List.mem_append.1 hz with h | h
    · exact h3 z h
    · obtain rfl : z = p % 1000000000 := by simpa using h
      omega
  · rw [Nat.pow_succ, Nat.mul_assoc]
    exact Nat.le_trans (Nat.mul_le_mul_left _ (by omega)) h5
set_option maxRecDepth 100000 in
set_option maxHeartbeats 3200000 in
theorem rguess_wide (A B : Option Addr) (ca cb jb : Nat) (s z : Nat) (x y q P R : Nat) (na nb : Bool) (xs ys : List Nat) (w : World) (ha : Rd w A (I64s xs)) (hb : Rd w B (I64s ys)) (la : xs.length = jb + (s + 1) + 1) (lb : ys.length = jb + 1)
    (hx : xs[jb + (s + 1)]? = some x) (hy : ys[jb]? = some y) (gx : x < 1000000000) (gy : y < 1000000000) (hb1 : jb + (s + 1) ≤ 1000) (hz : xs[jb + s]? = some z) (gz : z < 1000000000) (h1 : x ≤ y) (hq : q = max ((x * 1000000000 + z) / (y + 1)) 1) (hres : Hid (1000000000 ^ s * q * P ≤ R)) :
    Calls Tryz.prog 86 #[.agg #[.bool na, .slice A (jb + (s + 1) + 1 : Nat) ca], .agg #[.bool nb, .slice B (jb + 1 : Nat) cb]] w (RGuess R P w) := by
  obtain ⟨i0, hi, hz0, hz1, hz2⟩ := info_parts infoI
  have hW3 : Ext w (((w.alloc (.cells #[.bool na, .slice A (jb + (s + 1) + 1 : Nat) ca] 34)).alloc (.cells #[.bool nb, .slice B (jb + 1 : Nat) cb] 34)).alloc (.cells #[.bool false, .slice none 0 0] 34)) := (((Ext.rfl' w).alloc' _).alloc' _).alloc' _
  have hk : ∀ w', Ext (((w.alloc (.cells #[.bool na, .slice A (jb + (s + 1) + 1 : Nat) ca] 34)).alloc (.cells #[.bool nb, .slice B (jb + 1 : Nat) cb] 34)).alloc (.cells #[.bool false, .slice none 0 0] 34)) w' →
      (w'.cell? ⟨w.heap.size, 0, none⟩ = some (.bool na) ∧ w'.cell? ⟨w.heap.size, 1, none⟩ = some (.slice A (jb + (s + 1) + 1 : Nat) ca) ∧ w'.cell? ⟨w.heap.size + 1, 0, none⟩ = some (.bool nb) ∧ w'.cell? ⟨w.heap.size + 1, 1, none⟩ = some (.slice B (jb + 1 : Nat) cb)) ∧ Row w' (w.heap.size + 1 + 1) 34 [.bool false, .slice none 0 0] := by
    intro w' e
    have h1 := two_facts (W := w) (H := w.heap.size) (t := 34) (a := .bool na) (b := .slice A (jb + (s + 1) + 1 : Nat) ca) (Ext.step (((Ext.rfl' _).alloc' _).alloc' _) e) rfl
    have h2 := two_facts (W := (w.alloc (.cells #[.bool na, .slice A (jb + (s + 1) + 1 : Nat) ca] 34))) (H := w.heap.size + 1) (t := 34) (a := .bool nb) (b := .slice B (jb + 1 : Nat) cb) (Ext.step ((Ext.rfl' _).alloc' _) e) (by simp)
    have h3 := two_facts (H := w.heap.size + 1 + 1) e (by simp)
    exact ⟨⟨h1.1, h1.2.1, h2.1, h2.2.1⟩, h3.2.2.2.2.2⟩
  obtain ⟨W3, hW3e⟩ : ∃ W3, (((w.alloc (.cells #[.bool na, .slice A (jb + (s + 1) + 1 : Nat) ca] 34)).alloc (.cells #[.bool nb, .slice B (jb + 1 : Nat) cb] 34)).alloc (.cells #[.bool false, .slice none 0 0] 34)) = W3 := ⟨_, rfl⟩
  have hsz : W3.heap.size = w.heap.size + 1 + 1 + 1 := by rw [← hW3e]; simp
  rw [hW3e] at hW3
  rw [hW3e] at hk
  have ha3 := ha.ext hW3
  obtain ⟨bb, ob, y', eB, ey, hbb, hyc⟩ := (hb.ext hW3).at_ (k := jb) (by omega)
  rw [hy] at ey
  cases ey
  obtain ⟨ba, oa, x', eA, ex, hba, hxc⟩ := ha3.at_ (k := jb + (s + 1)) (by omega)
  rw [hx] at ex
  cases ex
  obtain ⟨ba2, oa2, z', eA2, ez, hba2, hzc⟩ := ha3.at_ (k := jb + s) (by omega)
  rw [hz] at ez
  cases ez
  rw [eA] at eA2
  cases eA2
  subst eA
  clear hz hba2
  subst eB
  have HK := hid hk
  have HSZ := hid hsz
  have HW3 := hid hW3
  have HE := hid hW3e
  obtain ⟨⟨k0, k1, k2, k3⟩, -⟩ := hk _ (Ext.rfl' _)
  clear hx hy la lb ha hb hba hbb ha3 hW3 hk hsz hW3e
  have hmk := fun w => mkInts s (s : Int) rfl (by omega) w
  have hsh : (jb : Int) + ((s : Int) + 1) + 1 - ((jb : Int) + 1) = (s : Int) + 1 := by omega
  have hsh2 : (s : Int) + 1 - 1 = (s : Int) := by omega
  have hin : (jb : Int) + ((s : Int) + 1) + 1 - 2 = (jb : Int) + (s : Int) := by omega
  have hqi : max (((x : Int) * 1000000000 + (z : Int)) / ((y : Int) + 1)) (1 : Int) = (q : Int) := by
    have e : ((((x * 1000000000 + z) / (y + 1) : Nat)) : Int) = ((x : Int) * 1000000000 + (z : Int)) / ((y : Int) + 1) := by rw [Int.natCast_ediv]; simp
    rw [← e, hq]
    rcases Nat.le_total ((x * 1000000000 + z) / (y + 1)) 1 with h | h
    · rw [Nat.max_eq_right h, Int.max_eq_right (by omega)]; rfl
    · rw [Nat.max_eq_left h, Int.max_eq_left (by omega)]
  have hq1 : 1 ≤ q := by rw [hq]; exact Nat.le_max_right _ _
  have hq2 : q ≤ 1000000000000000000 := by
    rw [hq]; exact Nat.max_le.2 ⟨Nat.le_trans (Nat.div_le_self _ _) (by omega), by omega⟩
  have HQ2 := hid (show q < 1000000000000000000000000000 by omega)
  have HWX := hid hq
  clear hq

  go_enter Tryz.func86, Tryz.ntmps86
  go_upto_region 1 with fail
  rw [HE.out]
  go_upto_region 8 with fail
  have QQ := hid hqi
  clear hqi hsh HWX hsh2 hin
  have hown0 := World.ownsRow_lit (base := w.heap.size + 1 + 1 + 1) (e := 3) (size := 1) W3 (madeCells #[.int .i64 0] s) s (by rw [HSZ.out]; exact Nat.le_refl _) (by unfold maxLen; omega) (by rw [made_replicate]; simp)
  rw [HSZ.out, made_replicate, show (List.replicate s (Value.int .i64 0)).toArray.toList = I64s (List.replicate s 0) by rw [← I64s_zeros]] at hown0
  have hW4 : Ext W3 (W3.alloc (.cells (List.replicate s (Value.int .i64 0)).toArray 3)) := (Ext.rfl' W3).alloc' _
  have hgi := GInv.start s q
  have HGI := hid hgi
  have HOWN0 := hid hown0
  have HW4 := hid hW4
  have hmk2 : ∀ w, (Instr.makeSlice 22 (.int .i64 s) (.int .i64 s)).run Tryz.prog w = .ok (.slice (some ⟨w.heap.size, 0, none⟩) s s) (w.alloc (.cells (List.replicate s (Value.int .i64 0)).toArray 3)) := fun w => by rw [← made_replicate]; exact hmk w
  have HSZ2 := HSZ.out
  clear hgi hown0 hW4 hmk k0 k1 k2 k3 hyc hxc hzc
  go_wp2_with fail
  go_loopw [8, 9] (fun pz v wr => ∃ (j p : Nat) (zs : List Nat) (A : Option Addr) (c : Nat), v = .slice A (s + j : Nat) c ∧ pz = .int .i64 (p : Int) ∧ p ≤ q ∧ j ≤ 3 ∧ wr.ownsRow (w.heap.size + 1 + 1 + 1) 3 1 (.slice A (s + j : Nat) c) (s + j) (I64s zs) ∧ Ext W3 wr ∧ w.heap.size + 1 + 1 + 1 ≤ wr.heap.size ∧ Hid (GInv s q j p zs)) (fun pz _ _ => (intOf pz).toNat)
  case atStart => exact ⟨0, q, List.replicate s 0, _, _, rfl, rfl, Nat.le_refl _, by omega, HOWN0.out, HW4.out, Nat.le_trans (Nat.le_of_eq HSZ2.symm) HW4.out.size, HGI⟩
  case round =>
    obtain ⟨j, p, zs, A, c, rfl, rfl, hpq, hj3, hown, hex, hszr, hinv⟩ := hrel
    have HOWN := hid hown
    clear hown
    by_cases hp : 0 < p
    · have hst := hinv.out.step hp HQ2.out
      have HST := hid hst.1
      have hj : j < 3 := hst.2
      clear hst
      go_wp2_with (at_builtin; refine wpList_append_own _ rfl _ _ 22 rfl (w.heap.size + 1 + 1 + 1) 3 i0 (.int .i64 0) 1 8 Tryz.underlying22 hi hz0 hz1 hz2 rfl (by decide) _ _ _ rfl (HOWN.out.alloc _) ⟨wr.heap.size, 0, none⟩ 1 1 [.int .i64 ((p : Int) % 1000000000)] rfl rfl (cell_one_new _ _ _) (fun u hu => by simp at hu; subst hu; rfl) ?c1 ?c2 ?c3 ?_)
      case c1 => unfold maxLen; omega
      case c2 => omega
      case c3 => first | omega | (simp; omega)
      intro v' w1 hown' hgrow hnil
      obtain ⟨g, cap, sp, rfl, hg, hc1, hc2, hrow1, hvl, hsl⟩ := own_form hown' (by omega)
      have hex' : Ext W3 w1 := (hex.alloc' _).grown hgrow (by simp; omega) (by
        intro k hk
        rw [HSZ.out]
        exact (HOWN.out.lt k hk).1)
      have hsz' : w.heap.size + 1 + 1 + 1 ≤ w1.heap.size := by have := hex'.size; omega
      have HO := hid hown'
      clear hown' hgrow hnil hrow1 hvl hsl hg hc1 hc2
      go_wp2
      go_roundw
      case rel => exact ⟨j + 1, p / 1000000000, zs ++ [p % 1000000000], _, _, rfl, by simp, by omega, by omega, by have h := HO.out; rw [show s + (j + 1) = s + j + 1 by omega]; simpa using h, hex', hsz', HST⟩
      case measure => simp [intOf]; omega
    · obtain rfl : p = 0 := by omega
      have hjc : s + j ≤ c := by
        rcases HOWN.out.2 with ⟨h, h0⟩ | ⟨g, cap, cur, h, hg, hh, hc, _⟩
        · injection h with h1 h2 h3; omega
        · injection h with h1 h2 h3; omega
      have hgz := hinv.out
      have hrd := Rd.of_own HOWN.out
      have HRD := hid hrd
      have HGZ := hid hgz
      clear hrd hgz hinv
      go_wp2_with fail
      refine (rtrim_any false A c (s + j) zs _ HRD.out HGZ.out.1 (by omega) hjc).mono ?_
      rintro e w4 ⟨k4, b4, hk4, rfl, hb4, hcut, hx4⟩
      obtain rfl : b4 = false := by rw [hb4.out]; rfl
      have hx4' := hex.step hx4
      have hval : K.lv zs = 1000000000 ^ s * q := by
        have := HGZ.out.2.1
        simpa using this
      have hQ : RefV w4 (.agg #[.bool false, .slice A k4 c]) ((K.lv zs : Nat) : Int) := by
        refine ⟨_, k4, c, zs.take k4, false, rfl, hid ?_, by rw [List.length_take]; omega, by rw [HGZ.out.1] at hk4; omega, ?_, hcut.lim HGZ.out.2.2.1, by rw [hcut.lv]; rfl⟩
        · symm; exact decide_eq_false (by omega)
        · rw [show I64s (zs.take k4) = (I64s zs).take k4 from List.map_take ..]
          exact (HRD.out.ext hx4).take k4
      have hrr := (HK.out _ hx4').2
      have hfin : RGuess R P w (.returned (.agg #[.bool false, .slice A k4 c])) ((w4.setCell ⟨w.heap.size + 1 + 1, 0, none⟩ (.bool false)).setCell ⟨w.heap.size + 1 + 1, 1, none⟩ (.slice A k4 c)) := by
        have hh := NumInt.stored (r := 0) hrr (HW3.out.step hx4') (by omega) hQ
        obtain ⟨v, e1, e2, e3⟩ := hh
        cases e1
        refine ⟨_, K.lv zs, rfl, e2, ?_, by rw [hval]; exact hres.out, e3⟩
        rw [hval]
        exact Nat.mul_pos (Nat.pow_pos (by omega)) (by omega)
      have HF := hid hfin
      obtain ⟨g0, g1, g2, g3⟩ := row_facts hrr
      clear hfin hrr hQ hval hcut
      go_wp2
      refine bodyPost_ret (v := .agg #[.bool false, .slice A k4 c]) (by simp [results, Tryz.results86, go_sem, g0, g1]) rfl HF.out
set_option maxRecDepth 100000 in
set_option maxHeartbeats 3200000 in
theorem rguess_flat (A B : Option Addr) (ca cb jb : Nat) (s : Nat) (x y q P R : Nat) (na nb : Bool) (xs ys : List Nat) (w : World) (ha : Rd w A (I64s xs)) (hb : Rd w B (I64s ys)) (la : xs.length = jb + s + 1) (lb : ys.length = jb + 1)
    (hx : xs[jb + s]? = some x) (hy : ys[jb]? = some y) (gx : x < 1000000000) (gy : y < 1000000000) (hb1 : jb + s ≤ 1000)  (h1 : x ≤ y) (h2 : ¬ 0 < s) (hq : q = max (x / (y + 1)) 1) (hres : Hid (1000000000 ^ s * q * P ≤ R)) :
    Calls Tryz.prog 86 #[.agg #[.bool na, .slice A (jb + s + 1 : Nat) ca], .agg #[.bool nb, .slice B (jb + 1 : Nat) cb]] w (RGuess R P w) := by
  obtain ⟨i0, hi, hz0, hz1, hz2⟩ := info_parts infoI
  have hW3 : Ext w (((w.alloc (.cells #[.bool na, .slice A (jb + s + 1 : Nat) ca] 34)).alloc (.cells #[.bool nb, .slice B (jb + 1 : Nat) cb] 34)).alloc (.cells #[.bool false, .slice none 0 0] 34)) := (((Ext.rfl' w).alloc' _).alloc' _).alloc' _
  have hk : ∀ w', Ext (((w.alloc (.cells #[.bool na, .slice A (jb + s + 1 : Nat) ca] 34)).alloc (.cells #[.bool nb, .slice B (jb + 1 : Nat) cb] 34)).alloc (.cells #[.bool false, .slice none 0 0] 34)) w' →
      (w'.cell? ⟨w.heap.size, 0, none⟩ = some (.bool na) ∧ w'.cell? ⟨w.heap.size, 1, none⟩ = some (.slice A (jb + s + 1 : Nat) ca) ∧ w'.cell? ⟨w.heap.size + 1, 0, none⟩ = some (.bool nb) ∧ w'.cell? ⟨w.heap.size + 1, 1, none⟩ = some (.slice B (jb + 1 : Nat) cb)) ∧ Row w' (w.heap.size + 1 + 1) 34 [.bool false, .slice none 0 0] := by
    intro w' e
    have h1 := two_facts (W := w) (H := w.heap.size) (t := 34) (a := .bool na) (b := .slice A (jb + s + 1 : Nat) ca) (Ext.step (((Ext.rfl' _).alloc' _).alloc' _) e) rfl
    have h2 := two_facts (W := (w.alloc (.cells #[.bool na, .slice A (jb + s + 1 : Nat) ca] 34))) (H := w.heap.size + 1) (t := 34) (a := .bool nb) (b := .slice B (jb + 1 : Nat) cb) (Ext.step ((Ext.rfl' _).alloc' _) e) (by simp)
    have h3 := two_facts (H := w.heap.size + 1 + 1) e (by simp)
    exact ⟨⟨h1.1, h1.2.1, h2.1, h2.2.1⟩, h3.2.2.2.2.2⟩
  obtain ⟨W3, hW3e⟩ : ∃ W3, (((w.alloc (.cells #[.bool na, .slice A (jb + s + 1 : Nat) ca] 34)).alloc (.cells #[.bool nb, .slice B (jb + 1 : Nat) cb] 34)).alloc (.cells #[.bool false, .slice none 0 0] 34)) = W3 := ⟨_, rfl⟩
  have hsz : W3.heap.size = w.heap.size + 1 + 1 + 1 := by rw [← hW3e]; simp
  rw [hW3e] at hW3
  rw [hW3e] at hk
  have ha3 := ha.ext hW3
  obtain ⟨bb, ob, y', eB, ey, hbb, hyc⟩ := (hb.ext hW3).at_ (k := jb) (by omega)
  rw [hy] at ey
  cases ey
  obtain ⟨ba, oa, x', eA, ex, hba, hxc⟩ := ha3.at_ (k := jb + s) (by omega)
  rw [hx] at ex
  cases ex
  subst eA
  subst eB
  have HK := hid hk
  have HSZ := hid hsz
  have HW3 := hid hW3
  have HE := hid hW3e
  obtain ⟨⟨k0, k1, k2, k3⟩, -⟩ := hk _ (Ext.rfl' _)
  clear hx hy la lb ha hb hba hbb ha3 hW3 hk hsz hW3e
  have hmk := fun w => mkInts s (s : Int) rfl (by omega) w
  have hsh : (jb : Int) + ((s : Int)) + 1 - ((jb : Int) + 1) = (s : Int) := by omega
  have hqi : max ((x : Int) / ((y : Int) + 1)) (1 : Int) = (q : Int) := by
    have e : (((x / (y + 1) : Nat)) : Int) = (x : Int) / ((y : Int) + 1) := by rw [Int.natCast_ediv]; simp
    rw [← e, hq]
    rcases Nat.le_total (x / (y + 1)) 1 with h | h
    · rw [Nat.max_eq_right h, Int.max_eq_right (by omega)]; rfl
    · rw [Nat.max_eq_left h, Int.max_eq_left (by omega)]
  have hq1 : 1 ≤ q := by rw [hq]; exact Nat.le_max_right _ _
  have hq2 : q ≤ 1000000000000000000 := by
    rw [hq]; exact Nat.max_le.2 ⟨Nat.le_trans (Nat.div_le_self _ _) (by omega), by omega⟩
  have HQ2 := hid (show q < 1000000000000000000000000000 by omega)
  have HWX := hid hq
  clear hq
  have hwx : wrap64 ((x : Int) / ((y : Int) + 1)) = (x : Int) / ((y : Int) + 1) := IntWalk.wrap64_in _ ⟨by have := Int.ediv_nonneg (a := (x : Int)) (b := (y : Int) + 1) (by omega) (by omega); omega, by have := Int.ediv_le_self (b := (y : Int) + 1) (show (0 : Int) ≤ (x : Int) by omega); omega⟩
  go_enter Tryz.func86, Tryz.ntmps86
  go_upto_region 1 with fail
  rw [HE.out]
  go_upto_region 8 with fail
  have QQ := hid hqi
  clear hqi hsh HWX hwx
  have hown0 := World.ownsRow_lit (base := w.heap.size + 1 + 1 + 1) (e := 3) (size := 1) W3 (madeCells #[.int .i64 0] s) s (by rw [HSZ.out]; exact Nat.le_refl _) (by unfold maxLen; omega) (by rw [made_replicate]; simp)
  rw [HSZ.out, made_replicate, show (List.replicate s (Value.int .i64 0)).toArray.toList = I64s (List.replicate s 0) by rw [← I64s_zeros]] at hown0
  have hW4 : Ext W3 (W3.alloc (.cells (List.replicate s (Value.int .i64 0)).toArray 3)) := (Ext.rfl' W3).alloc' _
  have hgi := GInv.start s q
  have HGI := hid hgi
  have HOWN0 := hid hown0
  have HW4 := hid hW4
  have hmk2 : ∀ w, (Instr.makeSlice 22 (.int .i64 s) (.int .i64 s)).run Tryz.prog w = .ok (.slice (some ⟨w.heap.size, 0, none⟩) s s) (w.alloc (.cells (List.replicate s (Value.int .i64 0)).toArray 3)) := fun w => by rw [← made_replicate]; exact hmk w
  have HSZ2 := HSZ.out
  clear hgi hown0 hW4 hmk k0 k1 k2 k3 hyc hxc
  go_wp2_with fail
  go_loopw [8, 9] (fun pz v wr => ∃ (j p : Nat) (zs : List Nat) (A : Option Addr) (c : Nat), v = .slice A (s + j : Nat) c ∧ pz = .int .i64 (p : Int) ∧ p ≤ q ∧ j ≤ 3 ∧ wr.ownsRow (w.heap.size + 1 + 1 + 1) 3 1 (.slice A (s + j : Nat) c) (s + j) (I64s zs) ∧ Ext W3 wr ∧ w.heap.size + 1 + 1 + 1 ≤ wr.heap.size ∧ Hid (GInv s q j p zs)) (fun pz _ _ => (intOf pz).toNat)
  case atStart => exact ⟨0, q, List.replicate s 0, _, _, rfl, rfl, Nat.le_refl _, by omega, HOWN0.out, HW4.out, Nat.le_trans (Nat.le_of_eq HSZ2.symm) HW4.out.size, HGI⟩
  case round =>
    obtain ⟨j, p, zs, A, c, rfl, rfl, hpq, hj3, hown, hex, hszr, hinv⟩ := hrel
    have HOWN := hid hown
    clear hown
    by_cases hp : 0 < p
    · have hst := hinv.out.step hp HQ2.out
      have HST := hid hst.1
      have hj : j < 3 := hst.2
      clear hst
      go_wp2_with (at_builtin; refine wpList_append_own _ rfl _ _ 22 rfl (w.heap.size + 1 + 1 + 1) 3 i0 (.int .i64 0) 1 8 Tryz.underlying22 hi hz0 hz1 hz2 rfl (by decide) _ _ _ rfl (HOWN.out.alloc _) ⟨wr.heap.size, 0, none⟩ 1 1 [.int .i64 ((p : Int) % 1000000000)] rfl rfl (cell_one_new _ _ _) (fun u hu => by simp at hu; subst hu; rfl) ?c1 ?c2 ?c3 ?_)
      case c1 => unfold maxLen; omega
      case c2 => omega
      case c3 => first | omega | (simp; omega)
      intro v' w1 hown' hgrow hnil
      obtain ⟨g, cap, sp, rfl, hg, hc1, hc2, hrow1, hvl, hsl⟩ := own_form hown' (by omega)
      have hex' : Ext W3 w1 := (hex.alloc' _).grown hgrow (by simp; omega) (by
        intro k hk
        rw [HSZ.out]
        exact (HOWN.out.lt k hk).1)
      have hsz' : w.heap.size + 1 + 1 + 1 ≤ w1.heap.size := by have := hex'.size; omega
      have HO := hid hown'
      clear hown' hgrow hnil hrow1 hvl hsl hg hc1 hc2
      go_wp2
      go_roundw
      case rel => exact ⟨j + 1, p / 1000000000, zs ++ [p % 1000000000], _, _, rfl, by simp, by omega, by omega, by have h := HO.out; rw [show s + (j + 1) = s + j + 1 by omega]; simpa using h, hex', hsz', HST⟩
      case measure => simp [intOf]; omega
    · obtain rfl : p = 0 := by omega
      have hjc : s + j ≤ c := by
        rcases HOWN.out.2 with ⟨h, h0⟩ | ⟨g, cap, cur, h, hg, hh, hc, _⟩
        · injection h with h1 h2 h3; omega
        · injection h with h1 h2 h3; omega
      have hgz := hinv.out
      have hrd := Rd.of_own HOWN.out
      have HRD := hid hrd
      have HGZ := hid hgz
      clear hrd hgz hinv
      go_wp2_with fail
      refine (rtrim_any false A c (s + j) zs _ HRD.out HGZ.out.1 (by omega) hjc).mono ?_
      rintro e w4 ⟨k4, b4, hk4, rfl, hb4, hcut, hx4⟩
      obtain rfl : b4 = false := by rw [hb4.out]; rfl
      have hx4' := hex.step hx4
      have hval : K.lv zs = 1000000000 ^ s * q := by
        have := HGZ.out.2.1
        simpa using this
      have hQ : RefV w4 (.agg #[.bool false, .slice A k4 c]) ((K.lv zs : Nat) : Int) := by
        refine ⟨_, k4, c, zs.take k4, false, rfl, hid ?_, by rw [List.length_take]; omega, by rw [HGZ.out.1] at hk4; omega, ?_, hcut.lim HGZ.out.2.2.1, by rw [hcut.lv]; rfl⟩
        · symm; exact decide_eq_false (by omega)
        · rw [show I64s (zs.take k4) = (I64s zs).take k4 from List.map_take ..]
          exact (HRD.out.ext hx4).take k4
      have hrr := (HK.out _ hx4').2
      have hfin : RGuess R P w (.returned (.agg #[.bool false, .slice A k4 c])) ((w4.setCell ⟨w.heap.size + 1 + 1, 0, none⟩ (.bool false)).setCell ⟨w.heap.size + 1 + 1, 1, none⟩ (.slice A k4 c)) := by
        have hh := NumInt.stored (r := 0) hrr (HW3.out.step hx4') (by omega) hQ
        obtain ⟨v, e1, e2, e3⟩ := hh
        cases e1
        refine ⟨_, K.lv zs, rfl, e2, ?_, by rw [hval]; exact hres.out, e3⟩
        rw [hval]
        exact Nat.mul_pos (Nat.pow_pos (by omega)) (by omega)
      have HF := hid hfin
      obtain ⟨g0, g1, g2, g3⟩ := row_facts hrr
      clear hfin hrr hQ hval hcut
      go_wp2
      refine bodyPost_ret (v := .agg #[.bool false, .slice A k4 c]) (by simp [results, Tryz.results86, go_sem, g0, g1]) rfl HF.out
set_option maxRecDepth 100000 in
set_option maxHeartbeats 3200000 in
theorem rguess_more (A B : Option Addr) (ca cb jb : Nat) (s : Nat) (x y q P R : Nat) (na nb : Bool) (xs ys : List Nat) (w : World) (ha : Rd w A (I64s xs)) (hb : Rd w B (I64s ys)) (la : xs.length = jb + s + 1) (lb : ys.length = jb + 1)
    (hx : xs[jb + s]? = some x) (hy : ys[jb]? = some y) (gx : x < 1000000000) (gy : y < 1000000000) (hb1 : jb + s ≤ 1000)  (h1 : ¬ x ≤ y) (hq : q = max (x / (y + 1)) 1) (hres : Hid (1000000000 ^ s * q * P ≤ R)) :
    Calls Tryz.prog 86 #[.agg #[.bool na, .slice A (jb + s + 1 : Nat) ca], .agg #[.bool nb, .slice B (jb + 1 : Nat) cb]] w (RGuess R P w) := by
  obtain ⟨i0, hi, hz0, hz1, hz2⟩ := info_parts infoI
  have hW3 : Ext w (((w.alloc (.cells #[.bool na, .slice A (jb + s + 1 : Nat) ca] 34)).alloc (.cells #[.bool nb, .slice B (jb + 1 : Nat) cb] 34)).alloc (.cells #[.bool false, .slice none 0 0] 34)) := (((Ext.rfl' w).alloc' _).alloc' _).alloc' _
  have hk : ∀ w', Ext (((w.alloc (.cells #[.bool na, .slice A (jb + s + 1 : Nat) ca] 34)).alloc (.cells #[.bool nb, .slice B (jb + 1 : Nat) cb] 34)).alloc (.cells #[.bool false, .slice none 0 0] 34)) w' →
      (w'.cell? ⟨w.heap.size, 0, none⟩ = some (.bool na) ∧ w'.cell? ⟨w.heap.size, 1, none⟩ = some (.slice A (jb + s + 1 : Nat) ca) ∧ w'.cell? ⟨w.heap.size + 1, 0, none⟩ = some (.bool nb) ∧ w'.cell? ⟨w.heap.size + 1, 1, none⟩ = some (.slice B (jb + 1 : Nat) cb)) ∧ Row w' (w.heap.size + 1 + 1) 34 [.bool false, .slice none 0 0] := by
    intro w' e
    have h1 := two_facts (W := w) (H := w.heap.size) (t := 34) (a := .bool na) (b := .slice A (jb + s + 1 : Nat) ca) (Ext.step (((Ext.rfl' _).alloc' _).alloc' _) e) rfl
    have h2 := two_facts (W := (w.alloc (.cells #[.bool na, .slice A (jb + s + 1 : Nat) ca] 34))) (H := w.heap.size + 1) (t := 34) (a := .bool nb) (b := .slice B (jb + 1 : Nat) cb) (Ext.step ((Ext.rfl' _).alloc' _) e) (by simp)
    have h3 := two_facts (H := w.heap.size + 1 + 1) e (by simp)
    exact ⟨⟨h1.1, h1.2.1, h2.1, h2.2.1⟩, h3.2.2.2.2.2⟩
  obtain ⟨W3, hW3e⟩ : ∃ W3, (((w.alloc (.cells #[.bool na, .slice A (jb + s + 1 : Nat) ca] 34)).alloc (.cells #[.bool nb, .slice B (jb + 1 : Nat) cb] 34)).alloc (.cells #[.bool false, .slice none 0 0] 34)) = W3 := ⟨_, rfl⟩
  have hsz : W3.heap.size = w.heap.size + 1 + 1 + 1 := by rw [← hW3e]; simp
  rw [hW3e] at hW3
  rw [hW3e] at hk
  have ha3 := ha.ext hW3
  obtain ⟨bb, ob, y', eB, ey, hbb, hyc⟩ := (hb.ext hW3).at_ (k := jb) (by omega)
  rw [hy] at ey
  cases ey
  obtain ⟨ba, oa, x', eA, ex, hba, hxc⟩ := ha3.at_ (k := jb + s) (by omega)
  rw [hx] at ex
  cases ex
  subst eA
  subst eB
  have HK := hid hk
  have HSZ := hid hsz
  have HW3 := hid hW3
  have HE := hid hW3e
  obtain ⟨⟨k0, k1, k2, k3⟩, -⟩ := hk _ (Ext.rfl' _)
  clear hx hy la lb ha hb hba hbb ha3 hW3 hk hsz hW3e
  have hmk := fun w => mkInts s (s : Int) rfl (by omega) w
  have hsh : (jb : Int) + ((s : Int)) + 1 - ((jb : Int) + 1) = (s : Int) := by omega
  have hqi : max ((x : Int) / ((y : Int) + 1)) (1 : Int) = (q : Int) := by
    have e : (((x / (y + 1) : Nat)) : Int) = (x : Int) / ((y : Int) + 1) := by rw [Int.natCast_ediv]; simp
    rw [← e, hq]
    rcases Nat.le_total (x / (y + 1)) 1 with h | h
    · rw [Nat.max_eq_right h, Int.max_eq_right (by omega)]; rfl
    · rw [Nat.max_eq_left h, Int.max_eq_left (by omega)]
  have hq1 : 1 ≤ q := by rw [hq]; exact Nat.le_max_right _ _
  have hq2 : q ≤ 1000000000000000000 := by
    rw [hq]; exact Nat.max_le.2 ⟨Nat.le_trans (Nat.div_le_self _ _) (by omega), by omega⟩
  have HQ2 := hid (show q < 1000000000000000000000000000 by omega)
  have HWX := hid hq
  clear hq
  have hwx : wrap64 ((x : Int) / ((y : Int) + 1)) = (x : Int) / ((y : Int) + 1) := IntWalk.wrap64_in _ ⟨by have := Int.ediv_nonneg (a := (x : Int)) (b := (y : Int) + 1) (by omega) (by omega); omega, by have := Int.ediv_le_self (b := (y : Int) + 1) (show (0 : Int) ≤ (x : Int) by omega); omega⟩
  go_enter Tryz.func86, Tryz.ntmps86
  go_upto_region 1 with fail
  rw [HE.out]
  go_upto_region 8 with fail
  have QQ := hid hqi
  clear hqi hsh HWX hwx
  have hown0 := World.ownsRow_lit (base := w.heap.size + 1 + 1 + 1) (e := 3) (size := 1) W3 (madeCells #[.int .i64 0] s) s (by rw [HSZ.out]; exact Nat.le_refl _) (by unfold maxLen; omega) (by rw [made_replicate]; simp)
  rw [HSZ.out, made_replicate, show (List.replicate s (Value.int .i64 0)).toArray.toList = I64s (List.replicate s 0) by rw [← I64s_zeros]] at hown0
  have hW4 : Ext W3 (W3.alloc (.cells (List.replicate s (Value.int .i64 0)).toArray 3)) := (Ext.rfl' W3).alloc' _
  have hgi := GInv.start s q
  have HGI := hid hgi
  have HOWN0 := hid hown0
  have HW4 := hid hW4
  have hmk2 : ∀ w, (Instr.makeSlice 22 (.int .i64 s) (.int .i64 s)).run Tryz.prog w = .ok (.slice (some ⟨w.heap.size, 0, none⟩) s s) (w.alloc (.cells (List.replicate s (Value.int .i64 0)).toArray 3)) := fun w => by rw [← made_replicate]; exact hmk w
  have HSZ2 := HSZ.out
  clear hgi hown0 hW4 hmk k0 k1 k2 k3 hyc hxc
  go_wp2_with fail
  go_loopw [8, 9] (fun pz v wr => ∃ (j p : Nat) (zs : List Nat) (A : Option Addr) (c : Nat), v = .slice A (s + j : Nat) c ∧ pz = .int .i64 (p : Int) ∧ p ≤ q ∧ j ≤ 3 ∧ wr.ownsRow (w.heap.size + 1 + 1 + 1) 3 1 (.slice A (s + j : Nat) c) (s + j) (I64s zs) ∧ Ext W3 wr ∧ w.heap.size + 1 + 1 + 1 ≤ wr.heap.size ∧ Hid (GInv s q j p zs)) (fun pz _ _ => (intOf pz).toNat)
  case atStart => exact ⟨0, q, List.replicate s 0, _, _, rfl, rfl, Nat.le_refl _, by omega, HOWN0.out, HW4.out, Nat.le_trans (Nat.le_of_eq HSZ2.symm) HW4.out.size, HGI⟩
  case round =>
    obtain ⟨j, p, zs, A, c, rfl, rfl, hpq, hj3, hown, hex, hszr, hinv⟩ := hrel
    have HOWN := hid hown
    clear hown
    by_cases hp : 0 < p
    · have hst := hinv.out.step hp HQ2.out
      have HST := hid hst.1
      have hj : j < 3 := hst.2
      clear hst
      go_wp2_with (at_builtin; refine wpList_append_own _ rfl _ _ 22 rfl (w.heap.size + 1 + 1 + 1) 3 i0 (.int .i64 0) 1 8 Tryz.underlying22 hi hz0 hz1 hz2 rfl (by decide) _ _ _ rfl (HOWN.out.alloc _) ⟨wr.heap.size, 0, none⟩ 1 1 [.int .i64 ((p : Int) % 1000000000)] rfl rfl (cell_one_new _ _ _) (fun u hu => by simp at hu; subst hu; rfl) ?c1 ?c2 ?c3 ?_)
      case c1 => unfold maxLen; omega
      case c2 => omega
      case c3 => first | omega | (simp; omega)
      intro v' w1 hown' hgrow hnil
      obtain ⟨g, cap, sp, rfl, hg, hc1, hc2, hrow1, hvl, hsl⟩ := own_form hown' (by omega)
      have hex' : Ext W3 w1 := (hex.alloc' _).grown hgrow (by simp; omega) (by
        intro k hk
        rw [HSZ.out]
        exact (HOWN.out.lt k hk).1)
      have hsz' : w.heap.size + 1 + 1 + 1 ≤ w1.heap.size := by have := hex'.size; omega
      have HO := hid hown'
      clear hown' hgrow hnil hrow1 hvl hsl hg hc1 hc2
      go_wp2
      go_roundw
      case rel => exact ⟨j + 1, p / 1000000000, zs ++ [p % 1000000000], _, _, rfl, by simp, by omega, by omega, by have h := HO.out; rw [show s + (j + 1) = s + j + 1 by omega]; simpa using h, hex', hsz', HST⟩
      case measure => simp [intOf]; omega
    · obtain rfl : p = 0 := by omega
      have hjc : s + j ≤ c := by
        rcases HOWN.out.2 with ⟨h, h0⟩ | ⟨g, cap, cur, h, hg, hh, hc, _⟩
        · injection h with h1 h2 h3; omega
        · injection h with h1 h2 h3; omega
      have hgz := hinv.out
      have hrd := Rd.of_own HOWN.out
      have HRD := hid hrd
      have HGZ := hid hgz
      clear hrd hgz hinv
      go_wp2_with fail
      refine (rtrim_any false A c (s + j) zs _ HRD.out HGZ.out.1 (by omega) hjc).mono ?_
      rintro e w4 ⟨k4, b4, hk4, rfl, hb4, hcut, hx4⟩
      obtain rfl : b4 = false := by rw [hb4.out]; rfl
      have hx4' := hex.step hx4
      have hval : K.lv zs = 1000000000 ^ s * q := by
        have := HGZ.out.2.1
        simpa using this
      have hQ : RefV w4 (.agg #[.bool false, .slice A k4 c]) ((K.lv zs : Nat) : Int) := by
        refine ⟨_, k4, c, zs.take k4, false, rfl, hid ?_, by rw [List.length_take]; omega, by rw [HGZ.out.1] at hk4; omega, ?_, hcut.lim HGZ.out.2.2.1, by rw [hcut.lv]; rfl⟩
        · symm; exact decide_eq_false (by omega)
        · rw [show I64s (zs.take k4) = (I64s zs).take k4 from List.map_take ..]
          exact (HRD.out.ext hx4).take k4
      have hrr := (HK.out _ hx4').2
      have hfin : RGuess R P w (.returned (.agg #[.bool false, .slice A k4 c])) ((w4.setCell ⟨w.heap.size + 1 + 1, 0, none⟩ (.bool false)).setCell ⟨w.heap.size + 1 + 1, 1, none⟩ (.slice A k4 c)) := by
        have hh := NumInt.stored (r := 0) hrr (HW3.out.step hx4') (by omega) hQ
        obtain ⟨v, e1, e2, e3⟩ := hh
        cases e1
        refine ⟨_, K.lv zs, rfl, e2, ?_, by rw [hval]; exact hres.out, e3⟩
        rw [hval]
        exact Nat.mul_pos (Nat.pow_pos (by omega)) (by omega)
      have HF := hid hfin
      obtain ⟨g0, g1, g2, g3⟩ := row_facts hrr
      clear hfin hrr hQ hval hcut
      go_wp2
      refine bodyPost_ret (v := .agg #[.bool false, .slice A k4 c]) (by simp [results, Tryz.results86, go_sem, g0, g1]) rfl HF.out
end Go.Proofs.YtflgkijmbpcnfaaGreatDoor
/- the reference's guess, of any two numbers -/
namespace Go.Proofs.YtflgkijmbpcnfaaGreatDoor
open Go.RowKit
theorem top_pos {xs : List Nat} {j x : Nat} (hL : K.Lim xs) (hl : xs.length = j + 1) (hx : xs[j]? = some x) : 0 < x ∧ K.lv xs = K.lv (xs.take j) + 1000000000 ^ j * x ∧ K.lv (xs.take j) < 1000000000 ^ j := by
  have e := lv_take_at hx
  rw [List.take_of_length_le (by omega)] at e
  refine ⟨?_, e, ?_⟩
  · rcases Nat.eq_zero_or_pos x with h | h
    · exfalso
      apply hL.2
      rw [List.getLast?_eq_getElem?, hl, Nat.add_sub_cancel, hx, h]
    · exact h
  · have := K.lv_lt (xs.take j) (fun z hz => hL.1 z (List.mem_of_mem_take hz))
    rwa [List.length_take, Nat.min_eq_left (by omega)] at this
theorem guess_le {s q y jb T P R : Nat} (hq : q * (y + 1) ≤ T) (hP : P ≤ 1000000000 ^ jb * (y + 1)) (hR : 1000000000 ^ (jb + s) * T ≤ R) : 1000000000 ^ s * q * P ≤ R := by
  have h1 : 1000000000 ^ s * q * P ≤ 1000000000 ^ s * q * (1000000000 ^ jb * (y + 1)) := Nat.mul_le_mul_left _ hP
  have h2 : 1000000000 ^ s * q * (1000000000 ^ jb * (y + 1)) = 1000000000 ^ (jb + s) * (q * (y + 1)) := by
    rw [Nat.pow_add]
    simp only [Nat.mul_assoc, Nat.mul_comm, Nat.mul_left_comm]
  have h3 : 1000000000 ^ (jb + s) * (q * (y + 1)) ≤ 1000000000 ^ (jb + s) * T := Nat.mul_le_mul_left _ hq
  omega
theorem rguess_any (va vb : Value) (a b : Nat) (w : World) (ha : RefV w va (a : Int)) (hb : RefV w vb (b : Int)) (la : a ≤ BIG) (h0 : 0 < b) (hba : b ≤ a) :
    Calls Tryz.prog 86 #[va, vb] w (RGuess a b w) := by
  obtain ⟨A, ka, ca, xs, na, rfl, -, hla, hca, hra, hLa, hva⟩ := ha
  obtain ⟨B, kb, cb, ys, nb, rfl, -, hlb, hcb, hrb, hLb, hvb⟩ := hb
  rw [Int.natAbs_natCast] at hva hvb
  have l1 := len_of_big hLa (by omega)
  have l2 := lim_len hLa hLb (by omega)
  have hyne : ys ≠ [] := by intro e; rw [e] at hvb; simp [K.lv] at hvb; omega
  have hypos : 0 < ys.length := List.length_pos_iff.2 hyne
  obtain ⟨jb, rfl⟩ : ∃ jb, kb = jb + 1 := ⟨kb - 1, by omega⟩
  obtain ⟨s, rfl⟩ : ∃ s, ka = jb + s + 1 := ⟨ka - (jb + 1), by omega⟩
  obtain ⟨x, hx⟩ : ∃ x, xs[jb + s]? = some x := ⟨_, List.getElem?_eq_getElem (by omega)⟩
  obtain ⟨y, hy⟩ : ∃ y, ys[jb]? = some y := ⟨_, List.getElem?_eq_getElem (by omega)⟩
  have gx := hLa.1 x (mem_at hx)
  have gy := hLb.1 y (mem_at hy)
  obtain ⟨x0, ex, ex2⟩ := top_pos hLa hla hx
  obtain ⟨y0, ey, ey2⟩ := top_pos hLb hlb hy
  have hP : b ≤ 1000000000 ^ jb * (y + 1) := by rw [Nat.mul_add, ← hvb]; omega
  have hR : 1000000000 ^ (jb + s) * x ≤ a := by rw [← hva]; omega
  by_cases h1 : x ≤ y
  · by_cases h2 : 0 < s
    · obtain ⟨s, rfl⟩ : ∃ t, s = t + 1 := ⟨s - 1, by omega⟩
      obtain ⟨z, hz⟩ : ∃ z, xs[jb + s]? = some z := ⟨_, List.getElem?_eq_getElem (by omega)⟩
      have gz := hLa.1 z (mem_at hz)
      have e3 := lv_take_at hz
      have hR2 : 1000000000 ^ (jb + s) * (x * 1000000000 + z) ≤ a := by
        rw [Nat.mul_add, ← hva, ex]
        rw [show jb + (s + 1) = jb + s + 1 by omega, e3, Nat.pow_succ, Nat.mul_comm x, ← Nat.mul_assoc]
        omega
      have hmax : max ((x * 1000000000 + z) / (y + 1)) 1 = (x * 1000000000 + z) / (y + 1) := by
        refine Nat.max_eq_left ?_
        rw [Nat.le_div_iff_mul_le (by omega)]; omega
      exact rguess_wide A B ca cb jb s z x y _ b a na nb xs ys w hra hrb (by omega) hlb hx hy gx gy (by omega) hz gz h1 rfl (hid (by rw [hmax]; exact guess_le (Nat.div_mul_le_self _ _) hP hR2))
    · have hmax : max (x / (y + 1)) 1 = 1 := by rw [Nat.div_eq_of_lt (by omega)]; rfl
      exact rguess_flat A B ca cb jb s x y _ b a na nb xs ys w hra hrb (by omega) hlb hx hy gx gy (by omega) h1 h2 rfl (hid (by rw [hmax, show s = 0 by omega]; simpa using hba))
  · have hmax : max (x / (y + 1)) 1 = x / (y + 1) := by
      refine Nat.max_eq_left ?_
      rw [Nat.le_div_iff_mul_le (by omega)]; omega
    exact rguess_more A B ca cb jb s x y _ b a na nb xs ys w hra hrb (by omega) hlb hx hy gx gy (by omega) h1 rfl (hid (by rw [hmax]; exact guess_le (Nat.div_mul_le_self _ _) hP hR))
end Go.Proofs.YtflgkijmbpcnfaaGreatDoor
