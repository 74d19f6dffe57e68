/- Joined texts: step.Orbit; step.Falls; step.kin, step.Collatz; the reference's Collatz, Alike, Same; the law's same; the reference's Twin: a copy of a map; step.commonDivisor, step.Regular; the reference's Prime, Regular. -/
import Derived.Test.YtleccblkafcidaaGreatDoorJG10
import Derived.RangeFuncBox
import Derived.Maps.AppendAt
import Derived.Maps.OwnIn
import Derived.Deep.RegionHeld3
import Derived.Deep.RegionLawGrows
import Derived.Deep.Upon
import Derived.Deep.LoopGhost
import Derived.IntWalk
set_option linter.unusedSimpArgs false
set_option linter.unusedVariables false
/- step.Orbit -/
namespace Go.Proofs.YtleccblkafcidaaGreatDoor
open Go.RowKit Go.Proofs
attribute [local go_sem] Oper.semAt_some
theorem infoS : (Tryz.prog.info? 9).map (fun i => (i.zero, i.size, i.bytes)) = some (some (.string ⟨#[]⟩), 1, 16) := by kernel_rfl
/-- texts as values -/
abbrev Txs (l : List (Option Int)) : List Value := l.map fun o => Value.string (strO o)
/-- an orbit's numbers, or ErrSize -/
def OrbPost (s : List (Option Int)) (x : Int) (w : World) (e : Ending) (w' : World) : Prop :=
  (none ∉ s → ∃ A k c, e = .returned (.tuple #[.slice A k c, .int .i64 0]) ∧ k = s.length + 1 ∧ k ≤ c ∧ Rd w' A (Txs (some x :: s))) ∧ (none ∈ s → e = .returned (.tuple #[.slice none 0 0, .int .i64 3])) ∧ Ext w w'
theorem Row.boxed {W : World} {g : Nat} {t : TypeId} {v : Value} (h : Row W g t [v]) : Boxed W g t v := h
theorem Boxed.row {W : World} {g : Nat} {t : TypeId} {v : Value} (h : Boxed W g t v) : Row W g t [v] := h
theorem Row.not_own {W : World} {g : Nat} {t e : TypeId} {vs xs : List Value} {base size k : Nat} {v : Value} (h : Row W g t vs) (hte : t ≠ e) (ho : W.ownsRow base e size v k xs) : v.ownBlock ≠ some g := by
  rcases ho.2 with ⟨rfl, -⟩ | ⟨b, cap, cur, rfl, -, hb, -⟩
  · simp [Value.ownBlock]
  · intro e'
    have e2 : b = g := by simpa [Value.ownBlock] using e'
    subst e2
    have h' : W.heap[b]? = some (.cells vs.toArray t (0, 0)) := h
    rw [hb] at h'
    cases h'
    exact hte rfl
theorem Row.appended {W w1 : World} {g : Nat} {t e : TypeId} {vs xs : List Value} {base size k : Nat} {v : Value} {tmp : Obj} (h : Row W g t vs) (hte : t ≠ e) (ho : W.ownsRow base e size v k xs) (hg : (W.alloc tmp).grownBy w1 v.ownBlock) : Row w1 g t vs :=
  (hg.block g (by have := h.lt; rw [World.size_alloc]; omega) (fun e' => h.not_own hte ho e'.symm)).trans (h.alloc tmp)
theorem Txs_snoc (l : List (Option Int)) (o : Option Int) : Txs (l ++ [o]) = Txs l ++ [.string (strO o)] := by simp [Txs]
set_option maxRecDepth 100000 in
set_option maxHeartbeats 3200000 in
theorem orbit_in (v : Value) (m : Int) (us ad : List Int) (l : List UInt8) (k : Nat) (w : World) (hv : MapV w v m us ad) (hM : Hid (mapP m us ad)) (hl : Hid (K.validL l = true)) (hk : k ≤ 1000) (ht : Tab w) :
    CallsIn Fence.wide 9 Tryz.prog 128 #[v, .string (Str l), .int .i64 (k : Int)] w (OrbPost (seqO m us ad k (K.numL l)) (K.numL l) w) := by
  have HT := hid ht
  obtain ⟨i0, hi, hz0, hz1, hz2⟩ := info_parts infoS
  have HV := hid hv
  have hlen := len_of (valid_len hl.out)
  obtain ⟨A, n, c, B, n2, d, rfl, -⟩ := hv
  have hx3 : Ext w (((w.alloc (.cells #[.int .i64 m, .slice A n c, .slice B n2 d] 24)).alloc (.cells #[.slice none 0 0] 77)).alloc (.cells #[.int .i64 0] 27)) := (((Ext.rfl' w).alloc' _).alloc' _).alloc' _
  have h0 : Row (((w.alloc (.cells #[.int .i64 m, .slice A n c, .slice B n2 d] 24)).alloc (.cells #[.slice none 0 0] 77)).alloc (.cells #[.int .i64 0] 27)) w.heap.size 24 [.int .i64 m, .slice A n c, .slice B n2 d] := ((Row.new w _ _).alloc _).alloc _
  have h1 : Row (((w.alloc (.cells #[.int .i64 m, .slice A n c, .slice B n2 d] 24)).alloc (.cells #[.slice none 0 0] 77)).alloc (.cells #[.int .i64 0] 27)) (w.heap.size + 1) 77 [.slice none 0 0] := by
    have := (Row.new (w.alloc (.cells #[.int .i64 m, .slice A n c, .slice B n2 d] 24)) 77 [.slice none 0 0]).alloc (.cells #[.int .i64 0] 27)
    rwa [World.size_alloc] at this
  have h2 : Row (((w.alloc (.cells #[.int .i64 m, .slice A n c, .slice B n2 d] 24)).alloc (.cells #[.slice none 0 0] 77)).alloc (.cells #[.int .i64 0] 27)) (w.heap.size + 1 + 1) 27 [.int .i64 0] := by
    have := Row.new ((w.alloc (.cells #[.int .i64 m, .slice A n c, .slice B n2 d] 24)).alloc (.cells #[.slice none 0 0] 77)) 27 [.int .i64 0]
    rwa [World.size_alloc, World.size_alloc] at this
  obtain ⟨W3, hW3⟩ : ∃ W3, (((w.alloc (.cells #[.int .i64 m, .slice A n c, .slice B n2 d] 24)).alloc (.cells #[.slice none 0 0] 77)).alloc (.cells #[.int .i64 0] 27)) = W3 := ⟨_, rfl⟩
  rw [hW3] at hx3 h0 h1 h2
  have HW3 := hid hW3
  have HX3 := hid hx3
  have H0 := hid h0
  have H1 := hid h1
  have H2 := hid h2
  clear hW3 hx3 h0 h1 h2
  refine callsIn_of_wp_marks Tryz.func128 rfl trivial ?_ rfl
  simp only [Tryz.ntmps128, List.size_toArray, List.length_cons, List.length_nil, Nat.reduceAdd, Nat.reduceSub, Array.replicate_succ, Array.replicate_zero, List.push_toArray, List.append_toArray, List.nil_append, List.cons_append]
  gi_wp2_with fail
  rw [HW3.out]
  refine ⟨trivial, callsIn_wide.2 ((check_any _ m us ad l (k : Int) 0 1000 W3 (HV.out.ext HX3.out) hlen (hid ((mapB_iff m us ad).2 hM.out)) hl (hid (show (0 : Int) = _ by rw [if_pos (by simp), if_neg (by omega)]))).mono ?_)⟩
  rintro e w4 ⟨rfl, hx4⟩
  have R0 := hid (H0.out.ext hx4)
  have R1 := hid (H1.out.ext hx4)
  have R2 := hid (H2.out.ext hx4)
  have HX4 := hid (HX3.out.step hx4)
  clear hx4
  have hlt4 : w.heap.size + 1 + 1 < w4.heap.size := R2.out.lt
  have R0a := (R0.out.alloc (.cells #[.string (Str l)] 9)).alloc (.cells #[.slice (some ⟨w4.heap.size, 0, none⟩) 1 1] 77)
  have g0 : ((w4.alloc (.cells #[.string (Str l)] 9)).alloc (.cells #[.slice (some ⟨w4.heap.size, 0, none⟩) 1 1] 77)).cell? ⟨w.heap.size, 0, none⟩ = some (.int .i64 m) := by rw [R0a.cell]; rfl
  have g1 : ((w4.alloc (.cells #[.string (Str l)] 9)).alloc (.cells #[.slice (some ⟨w4.heap.size, 0, none⟩) 1 1] 77)).cell? ⟨w.heap.size, 1, none⟩ = some (.slice A n c) := by rw [R0a.cell]; rfl
  have g2 : ((w4.alloc (.cells #[.string (Str l)] 9)).alloc (.cells #[.slice (some ⟨w4.heap.size, 0, none⟩) 1 1] 77)).cell? ⟨w.heap.size, 2, none⟩ = some (.slice B n2 d) := by rw [R0a.cell]; rfl
  clear R0a
  gi_wp2_with fail
  refine ⟨trivial, callsIn_wide.2 ((after_any A n c B n2 d m (Str l) (k : Int) _).mono ?_)⟩
  rintro e w5 ⟨rfl, rfl⟩
  gi_wp2_with fail
  obtain ⟨WA, hWA⟩ : ∃ WA, ((w4.alloc (.cells #[.string (Str l)] 9)).alloc (.cells #[.slice (some ⟨w4.heap.size, 0, none⟩) 1 1] 77)) = WA := ⟨_, rfl⟩
  have hszA : WA.heap.size = w4.heap.size + 1 + 1 := by rw [← hWA]; simp
  have own0 : WA.ownsRow w.heap.size 9 1 (.slice (some ⟨w4.heap.size, 0, none⟩) 1 1) 1 [.string (Str l)] := by
    rw [← hWA]
    exact (World.ownsRow_lit (base := w.heap.size) (e := 9) (size := 1) w4 #[.string (Str l)] 1 (by omega) (by unfold maxLen; omega) rfl).alloc _
  have bx0 : Row WA (w4.heap.size + 1) 77 [.slice (some ⟨w4.heap.size, 0, none⟩) 1 1] := by
    have := Row.new (w4.alloc (.cells #[.string (Str l)] 9)) 77 [.slice (some ⟨w4.heap.size, 0, none⟩) 1 1]
    rw [World.size_alloc] at this
    rwa [← hWA]
  have hxA : Ext w4 WA := by rw [← hWA]; exact ((Ext.rfl' w4).alloc' _).alloc' _
  have L1 : Row (((WA.alloc (.cells #[.int .i64 m, .slice A n c, .slice B n2 d] 24)).alloc (.cells #[.string (Str l)] 9)).alloc (.cells #[.int .i64 (k : Int)] 3)) (w4.heap.size + 1 + 1) 24 [.int .i64 m, .slice A n c, .slice B n2 d] := by
    have := ((Row.new WA 24 [.int .i64 m, .slice A n c, .slice B n2 d]).alloc (.cells #[.string (Str l)] 9)).alloc (.cells #[.int .i64 (k : Int)] 3)
    rwa [hszA] at this
  have L2 : Row (((WA.alloc (.cells #[.int .i64 m, .slice A n c, .slice B n2 d] 24)).alloc (.cells #[.string (Str l)] 9)).alloc (.cells #[.int .i64 (k : Int)] 3)) (w4.heap.size + 1 + 1 + 1) 9 [.string (Str l)] := by
    have := (Row.new (WA.alloc (.cells #[.int .i64 m, .slice A n c, .slice B n2 d] 24)) 9 [.string (Str l)]).alloc (.cells #[.int .i64 (k : Int)] 3)
    rwa [World.size_alloc, hszA] at this
  have L3 : Row (((WA.alloc (.cells #[.int .i64 m, .slice A n c, .slice B n2 d] 24)).alloc (.cells #[.string (Str l)] 9)).alloc (.cells #[.int .i64 (k : Int)] 3)) (w4.heap.size + 1 + 1 + 1 + 1) 3 [.int .i64 (k : Int)] := by
    have := Row.new ((WA.alloc (.cells #[.int .i64 m, .slice A n c, .slice B n2 d] 24)).alloc (.cells #[.string (Str l)] 9)) 3 [.int .i64 (k : Int)]
    rwa [World.size_alloc, World.size_alloc, hszA] at this
  have bx5 := ((bx0.alloc (.cells #[.int .i64 m, .slice A n c, .slice B n2 d] 24)).alloc (.cells #[.string (Str l)] 9)).alloc (.cells #[.int .i64 (k : Int)] 3)
  have own5 := ((own0.alloc (.cells #[.int .i64 m, .slice A n c, .slice B n2 d] 24)).alloc (.cells #[.string (Str l)] 9)).alloc (.cells #[.int .i64 (k : Int)] 3)
  have hx5 : Ext w4 (((WA.alloc (.cells #[.int .i64 m, .slice A n c, .slice B n2 d] 24)).alloc (.cells #[.string (Str l)] 9)).alloc (.cells #[.int .i64 (k : Int)] 3)) := ((hxA.alloc' _).alloc' _).alloc' _
  rw [hWA]
  obtain ⟨W5, hW5⟩ : ∃ W5, (((WA.alloc (.cells #[.int .i64 m, .slice A n c, .slice B n2 d] 24)).alloc (.cells #[.string (Str l)] 9)).alloc (.cells #[.int .i64 (k : Int)] 3)) = W5 := ⟨_, rfl⟩
  rw [hW5] at L1 L2 L3 hx5 bx5 own5
  rw [hW5]
  have HX5 := HX4.out.step hx5
  have R15 := R1.out.ext hx5
  have R25 := R2.out.ext hx5
  have htx : K.txt (K.numL l) = l := (K.txt_numL l hl.out).1
  have hfx : K.fits (K.numL l) := (K.txt_numL l hl.out).2
  obtain ⟨x, hxe⟩ : ∃ x, K.numL l = x := ⟨_, rfl⟩
  rw [hxe] at htx hfx
  clear g0 g1 g2 hW5 own0 bx0 hxA hWA
  refine wpIn_rangeFunc_ownG (F := Fence.wide) rfl (by omega) (gf := 207) (lb := #[.pointer (some ⟨w4.heap.size + 1 + 1 + 1, 0, none⟩), .pointer (some ⟨w4.heap.size + 1 + 1 + 1 + 1, 0, none⟩), .pointer (some ⟨w4.heap.size + 1 + 1, 0, none⟩)]) rfl trivial (enters_of Tryz.func207 (by kernel_rfl) rfl)
    (after_stops 8 (by omega) (w4.heap.size + 1 + 1 + 1) (w4.heap.size + 1 + 1 + 1 + 1) (w4.heap.size + 1 + 1) k x m us ad A n c B n2 d w W5 HV.out hM hfx HT.out (by omega) HX5 (by rw [L2.cell, htx]; rfl) (by rw [L3.cell]; rfl) L1 L2.lt L3.lt)
    KeptM.t (fun W l o o' h1 h2 h3 h4 => ⟨belowK_b (w := W5) HX5.size W l o o' h1 h2 h3 h4, (grownBy_putObj' W l o').block _ (by have := L1.lt; have := (Array.getElem?_eq_some_iff.1 h2).1; omega) (by intro e; have := L1.lt; cases e; omega)⟩) (Below.refl _ _) (fun _ => rfl)
    (fun pre W => (∀ t ∈ pre, t.1 ≠ none) ∧ (∃ v, Boxed W (w4.heap.size + 1) 77 v ∧ W.ownsRow w.heap.size 9 1 v (pre.length + 1) (Txs (some x :: pre.map (·.1)))) ∧ Row W (w4.heap.size + 1 + 1) 24 [.int .i64 m, .slice A n c, .slice B n2 d] ∧ Row W (w.heap.size + 1) 77 [.slice none 0 0] ∧ Row W (w.heap.size + 1 + 1) 27 [.int .i64 0] ∧ Ext w W)
    (fun c pre W => c = .ret ∧ (∃ t ∈ pre, t.1 = none) ∧ Row W (w.heap.size + 1) 77 [.slice none 0 0] ∧ Row W (w.heap.size + 1 + 1) 27 [.int .i64 3] ∧ Ext w W)
    (fun s W W' row hs hg hr => ⟨hs.1, by
      obtain ⟨v, b, o⟩ := hs.2.1
      exact ⟨v, Row.boxed (Row.grown (Boxed.row b) hg hr), o.kept hg (by
        rcases o.2 with ⟨rfl, -⟩ | ⟨g, cap, cur, rfl, -, hb, -⟩
        · exact .inl rfl
        · refine .inr (fun e => ?_)
          obtain ⟨-, ob, h1, h2⟩ := hr g e.symm
          rw [hb] at h1
          cases h1
          simp [Obj.isCells] at h2)⟩, hs.2.2.1.grown hg hr, hs.2.2.2.1.grown hg hr, hs.2.2.2.2.1.grown hg hr, ext_grown hs.2.2.2.2.2 HX5.size hg hr⟩)
    (fun c s W W' row hs hg hr => ⟨hs.1, hs.2.1, hs.2.2.1.grown hg hr, hs.2.2.2.1.grown hg hr, ext_grown hs.2.2.2.2 HX5.size hg hr⟩)
    ⟨by simp, ⟨_, Row.boxed bx5, by rw [show Txs (some x :: List.map (fun (x : Item) => x.1) []) = [.string (Str (K.txt x))] from rfl, htx]; exact own5⟩, L1, R15, R25, HX5⟩
    (fun t => { tmps := #[.agg #[.int .i64 m, .slice A n c, .slice B n2 d], .string (Str l), .int .i64 (k : Int), .pointer (some ⟨w.heap.size, 0, none⟩), undef, undef, .pointer (some ⟨w.heap.size + 1, 0, none⟩), .pointer (some ⟨w.heap.size + 1 + 1, 0, none⟩), .int .i64 0, .pointer (some ⟨w4.heap.size + 1, 0, none⟩), .string (strO t.1), .int .i64 (codeO t.1), .agg #[.int .i64 m, .slice A n c, .slice B n2 d], .string (Str l), .int .i64 (k : Int), .int .i64 0, .int .i64 0, .bool false, undef, .string (Str l), .slice (some ⟨w4.heap.size, 0, none⟩) 1 1, .agg #[.int .i64 m, .slice A n c, .slice B n2 d], .string (Str l), .int .i64 (k : Int), .func (.func 207) #[] #[.pointer (some ⟨w4.heap.size + 1 + 1 + 1, 0, none⟩), .pointer (some ⟨w4.heap.size + 1 + 1 + 1 + 1, 0, none⟩), .pointer (some ⟨w4.heap.size + 1 + 1, 0, none⟩)], .string (strO t.1), .int .i64 (codeO t.1), undef, undef, undef, undef, undef, undef, undef, undef], defers := [] }) ?assign ?body ?done ?stop
  case assign =>
    intro l x W K hK
    dsimp only [encI]
    gi_wp2
    exact hK
  case body =>
    rintro lp pre t W ⟨hno, ⟨v, hv, hrow⟩, rm, rs, re, hex⟩ hlt
    have cs : W.cell? ⟨w.heap.size + 1, 0, none⟩ = some _ := rs.cell 0
    have fs := rs.free 0
    have ce : W.cell? ⟨w.heap.size + 1 + 1, 0, none⟩ = some _ := re.cell 0
    have fe := re.free 0
    have HNO := hid hno
    have RM := hid rm
    have RS := hid rs
    have RE := hid re
    have HEX := hid hex
    have HX5' := HX5.size
    have HWS := hex.size
    clear hno rm rs re hex
    rcases h : t.1 with _ | y
    · rw [show strO none = ⟨#[]⟩ from rfl, show codeO none = 3 from rfl]
      have HT1 := hid h
      clear h hv hrow
      gi_wp2
      refine ⟨((KeepsOthers.setCell _ _ _).trans (KeepsOthers.setCell _ _ _)).from _, rfl, ⟨t, by simp, HT1.out⟩, ?_, ?_, ?_⟩
      · exact Row.far (RS.out.set 0 _) (by show w.heap.size + 1 ≠ w.heap.size + 1 + 1; omega) _
      · exact (RE.out.far (by show w.heap.size + 1 + 1 ≠ w.heap.size + 1; omega) _).set 0 _
      · exact (HEX.out.set' (by show w.heap.size ≤ w.heap.size + 1; omega) _).set' (by show w.heap.size ≤ w.heap.size + 1 + 1; omega) _
    · rw [show strO (some y) = Str (K.txt y) from rfl, show codeO (some y) = 0 from rfl]
      have HT1 := hid h
      clear h
      have hc := hv.cell
      have HROW := hid hrow
      have HVB := hid hv
      clear hrow
      have hpl : pre.length < 1000 := by omega
      gi_wp2_with (gi_at_builtin; refine wpListIn_append_own _ rfl _ _ 77 rfl w.heap.size 9 i0 (.string ⟨#[]⟩) 1 16 Tryz.underlying77 hi hz0 hz1 hz2 rfl (by decide) _ _ _ rfl (HROW.out.alloc _) ⟨W.heap.size, 0, none⟩ 1 1 [.string (Str (K.txt y))] rfl rfl (cell_one_new _ _ _) (by simp [Value.oneCell']) (by unfold maxLen; omega) (by omega) (by simp; omega) ?_; intro v' w1 hown' hgrow _; have HG := hid hgrow; have HO := hid hown'; obtain ⟨g', cap', rfl⟩ := ownsRow_succ hown'; obtain ⟨hv1, hv2, hr2, hk2, hb2⟩ := HVB.out.appended (by decide) HROW.out HWS (by omega) hown' hgrow; have hc1 := hv1.cell; have hf1 := hv1.frozen; have HV2 := hid hv2; have HR2 := hid hr2; have HK2 := hid hk2; have HB2 := hid hb2; clear hown' hgrow hv1 hv2 hr2 hk2 hb2)
      have rm' := (RM.out.appended (by decide) HROW.out HG.out).far (p := ⟨w4.heap.size + 1, 0, none⟩) (by show w4.heap.size + 1 + 1 ≠ w4.heap.size + 1; omega) (.slice (some ⟨g', 0, none⟩) (pre.length + 1 + 1) cap')
      have rs' := (RS.out.appended (by decide) HROW.out HG.out).far (p := ⟨w4.heap.size + 1, 0, none⟩) (by show w.heap.size + 1 ≠ w4.heap.size + 1; omega) (.slice (some ⟨g', 0, none⟩) (pre.length + 1 + 1) cap')
      have re' := (RE.out.appended (by decide) HROW.out HG.out).far (p := ⟨w4.heap.size + 1, 0, none⟩) (by show w.heap.size + 1 + 1 ≠ w4.heap.size + 1; omega) (.slice (some ⟨g', 0, none⟩) (pre.length + 1 + 1) cap')
      refine ⟨HK2.out.from _, ⟨HB2.out, ?_⟩, ?_, ⟨_, HV2.out, ?_⟩, rm', rs', re', HEX.out.trans HB2.out⟩
      · have e1 : W.heap[w4.heap.size + 1 + 1]? = _ := RM.out
        exact Eq.trans rm' e1.symm
      · intro u hu
        rcases List.mem_append.1 hu with h | h
        · exact HNO.out u h
        · rw [List.mem_singleton.1 h, HT1.out]; simp
      · have h := HR2.out
        rw [List.length_append, List.length_singleton, List.map_append, List.map_singleton, HT1.out, ← List.cons_append, Txs_snoc]
        exact h
  case done =>
    rintro D xs W hD hS ⟨hno, ⟨v, hv, hrow⟩, rm, rs, re, hex⟩ hK
    have hno2 : none ∉ seqO m us ad k x := by
      rw [← hS]
      intro h
      obtain ⟨t, ht, e⟩ := List.mem_map.1 h
      exact hno t ht e
    obtain ⟨g', cap', rfl⟩ := ownsRow_succ hrow
    have hlenS : (seqO m us ad k x).length = xs.length := by rw [← hS, List.length_map]
    have hc := hv.cell
    have cs : W.cell? ⟨w.heap.size + 1, 0, none⟩ = some (.slice none 0 0) := rs.cell 0
    have fs := rs.free 0
    have ce : W.cell? ⟨w.heap.size + 1 + 1, 0, none⟩ = some (.int .i64 0) := re.cell 0
    have fe := re.free 0
    rw [hS] at hrow
    have HNO2 := hid hno2
    have HROW := hid hrow
    have HLS := hid hlenS
    have RS := hid rs
    have RE := hid re
    have HEX := hid hex
    have HXS := HX5.size
    clear hno hno2 hrow rm rs re hex hS hlenS hv
    gi_wp2
    have hK' := ((KeepsOthers.setCell W ⟨w.heap.size + 1, 0, none⟩ (.slice (some ⟨g', 0, none⟩) (xs.length + 1) cap')).trans (KeepsOthers.setCell _ ⟨w.heap.size + 1 + 1, 0, none⟩ (.int .i64 0))).same D _ hK rfl
    have r1 : Row ((W.setCell ⟨w.heap.size + 1, 0, none⟩ (.slice (some ⟨g', 0, none⟩) (xs.length + 1) cap')).setCell ⟨w.heap.size + 1 + 1, 0, none⟩ (.int .i64 0)) (w.heap.size + 1) 77 [.slice (some ⟨g', 0, none⟩) (xs.length + 1) cap'] := Row.far (RS.out.set 0 _) (by show w.heap.size + 1 ≠ w.heap.size + 1 + 1; omega) _
    have r2 : Row ((W.setCell ⟨w.heap.size + 1, 0, none⟩ (.slice (some ⟨g', 0, none⟩) (xs.length + 1) cap')).setCell ⟨w.heap.size + 1 + 1, 0, none⟩ (.int .i64 0)) (w.heap.size + 1 + 1) 27 [.int .i64 0] := (RE.out.far (by show w.heap.size + 1 + 1 ≠ w.heap.size + 1; omega) _).set 0 _
    have o1 := HROW.out.kept (grownBy_setCell' W (w.heap.size + 1) (.slice (some ⟨g', 0, none⟩) (xs.length + 1) cap')) (.inr (RS.out.not_own (by decide) HROW.out))
    have o2 := o1.kept (grownBy_setCell' _ (w.heap.size + 1 + 1) (.int .i64 0)) (.inr (Row.not_own (RE.out.far (p := ⟨w.heap.size + 1, 0, none⟩) (by show w.heap.size + 1 + 1 ≠ w.heap.size + 1; omega) _) (by decide) o1))
    have o3 := ownsRow_putObj o2 (.deferred none) hK' rfl
    refine ⟨by simp, .inl ⟨_, _, rfl, run_takeDeferred hK', ?_⟩⟩
    have hc1 := cell_kept (r1.cell 0) (grownBy_putObj' _ D (.deferred none)) (fun r e => by cases e; exact ⟨_, hK', rfl⟩)
    have hc2 := cell_kept (r2.cell 0) (grownBy_putObj' _ D (.deferred none)) (fun r e => by cases e; exact ⟨_, hK', rfl⟩)
    refine ⟨.tuple #[.slice (some ⟨g', 0, none⟩) (xs.length + 1) cap', .int .i64 0], ?_, ?_⟩
    · simp [results, Tryz.f128, go_sem, hc1, hc2]
    · rw [hxe]
      refine ⟨fun _ => ⟨_, _, _, rfl, by rw [HLS.out], ?_, Rd.of_own o3⟩, fun h => absurd h HNO2.out, ?_⟩
      · rcases o3.2 with ⟨h, -⟩ | ⟨gg, cap2, cur, h, -, -, h2, -⟩
        · cases h
        · injection h with _ _ h3; omega
      · exact ((HEX.out.set' (by show w.heap.size ≤ w.heap.size + 1; omega) _).set' (by show w.heap.size ≤ w.heap.size + 1 + 1; omega) _).trans (belowK_b (w := W5) HXS _ D _ _ hD hK' rfl rfl)
  case stop =>
    rintro D c pre W hD hS ⟨rfl, ⟨t, htm, hte⟩, rs, re, hex⟩ hK
    have hin : none ∈ seqO m us ad k x := hS.subset (by rw [← hte]; exact List.mem_map_of_mem htm)
    have HIN := hid hin
    have cs : W.cell? ⟨w.heap.size + 1, 0, none⟩ = some (.slice none 0 0) := rs.cell 0
    have ce : W.cell? ⟨w.heap.size + 1 + 1, 0, none⟩ = some (.int .i64 3) := re.cell 0
    have HEX := hid hex
    have HXS := HX5.size
    clear hin hte htm hS rs re hex
    gi_wp2
    refine ⟨by simp, .inl ⟨_, _, rfl, run_takeDeferred hK, ?_⟩⟩
    have hc1 := cell_kept cs (grownBy_putObj' _ D (.deferred none)) (fun r e => by cases e; exact ⟨_, hK, rfl⟩)
    have hc2 := cell_kept ce (grownBy_putObj' _ D (.deferred none)) (fun r e => by cases e; exact ⟨_, hK, rfl⟩)
    refine ⟨.tuple #[.slice none 0 0, .int .i64 3], ?_, ?_⟩
    · simp [results, Tryz.f128, go_sem, hc1, hc2]
    · rw [hxe]
      exact ⟨fun h => absurd HIN.out h, fun _ => rfl, HEX.out.trans (belowK_b (w := W5) HXS _ D _ _ hD hK rfl rfl)⟩
theorem orbit_ok (v : Value) (m : Int) (us ad : List Int) (l : List UInt8) (k : Nat) (w : World) (hv : MapV w v m us ad) (hM : Hid (mapP m us ad)) (hl : Hid (K.validL l = true)) (hk : k ≤ 1000) (ht : Tab w) :
    Calls Tryz.prog 128 #[v, .string (Str l), .int .i64 (k : Int)] w (OrbPost (seqO m us ad k (K.numL l)) (K.numL l) w) :=
  callsIn_wide.1 (orbit_in v m us ad l k w hv hM hl hk ht)
end Go.Proofs.YtleccblkafcidaaGreatDoor
/- step.Falls -/
namespace Go.Proofs.YtleccblkafcidaaGreatDoor
open Go.RowKit Go.Proofs
attribute [local go_sem] Oper.semAt_some
/-- the first fall among the numbers that follow -/
def fallL (x : Int) : Nat → List (Option Int) → Int × ByteArray × Int
  | _, [] => (0, ⟨#[]⟩, 4)
  | _, none :: _ => (0, ⟨#[]⟩, 3)
  | i, some y :: r => if y < x then ((i : Int) + 1, Str (K.txt y), 0) else fallL x (i + 1) r
theorem keeps_ext {W W' : World} (e : Ext W W') : KeepsOthers W W' := KeepsOthers.of_grownBy (grown_of_ext e) (fun j o ej _ => by cases ej)
theorem sgnI_lt {a b : Int} (h : a < b) : sgnI a b = -1 := by unfold sgnI; rw [if_pos h]
theorem sgnI_ge {a b : Int} (h : ¬ a < b) : 0 ≤ sgnI a b := by unfold sgnI; rw [if_neg h]; split <;> omega
def FallPost (r : Int × ByteArray × Int) (w : World) (e : Ending) (w' : World) : Prop := e = .returned (.tuple #[.int .i64 r.1, .string r.2.1, .int .i64 r.2.2]) ∧ Ext w w'
end Go.Proofs.YtleccblkafcidaaGreatDoor
/- step.kin, step.Collatz; the reference's Collatz, Alike, Same; the law's same -/
namespace Go.Proofs.YtleccblkafcidaaGreatDoor
open Go.RowKit
/-- a map in new memory -/
def MapNew (m : Int) (us ad : List Int) (b : Nat) (v : Value) (w' : World) : Prop :=
  ∃ g1 g2 k, v = .agg #[.int .i64 m, .slice (some ⟨g1, 0, none⟩) k k, .slice (some ⟨g2, 0, none⟩) k k] ∧ Row w' g1 3 (Is us) ∧ Row w' g2 3 (Is ad) ∧ b ≤ g1 ∧ b ≤ g2 ∧ us.length = k ∧ ad.length = k ∧ k ≤ 12
def MapPost (m : Int) (us ad : List Int) (w : World) (e : Ending) (w' : World) : Prop := ∃ v, e = .returned v ∧ MapNew m us ad w.heap.size v w' ∧ Ext w w'
/-- a map whose lists lie in two new blocks -/
theorem MapV.fresh {W : World} {g1 g2 : Nat} {t : TypeId} {m : Int} {us ad : List Int} {k : Nat} (h1 : Row W g1 t (Is us)) (h2 : Row W g2 t (Is ad)) (e1 : us.length = k) (e2 : ad.length = k) (hk : k ≤ 12) :
    MapV W (.agg #[.int .i64 m, .slice (some ⟨g1, 0, none⟩) k k, .slice (some ⟨g2, 0, none⟩) k k]) m us ad :=
  ⟨_, k, k, _, k, k, rfl, e1, Nat.le_refl _, e2, Nat.le_refl _, h1.rd0, h2.rd0, by omega, by omega⟩
theorem Row.set3 {W : World} {H g : Nat} {t : TypeId} {vs : List Value} {a b c : Value} (h : Row W g t vs) (hne : g ≠ H) : Row (((W.setCell ⟨H, 0, none⟩ a).setCell ⟨H, 1, none⟩ b).setCell ⟨H, 2, none⟩ c) g t vs :=
  ((h.far (by show g ≠ H; exact hne) _).far (by show g ≠ H; exact hne) _).far (by show g ≠ H; exact hne) _
theorem Row.put3 {W : World} {H : Nat} {t : TypeId} {x y z a b c : Value} (h : Row W H t [x, y, z]) : Row (((W.setCell ⟨H, 0, none⟩ a).setCell ⟨H, 1, none⟩ b).setCell ⟨H, 2, none⟩ c) H t [a, b, c] :=
  ((h.set 0 a).set 1 b).set 2 c
theorem Ext.set3 {w W : World} {H : Nat} {a b c : Value} (h : Ext w W) (hH : w.heap.size ≤ H) : Ext w (((W.setCell ⟨H, 0, none⟩ a).setCell ⟨H, 1, none⟩ b).setCell ⟨H, 2, none⟩ c) :=
  ((h.set' (by show _ ≤ H; exact hH) _).set' (by show _ ≤ H; exact hH) _).set' (by show _ ≤ H; exact hH) _
theorem row_facts3 {w : World} {g : Nat} {t : TypeId} {a b c : Value} (h : Row w g t [a, b, c]) : w.cell? ⟨g, 0, none⟩ = some a ∧ w.cell? ⟨g, 1, none⟩ = some b ∧ w.cell? ⟨g, 2, none⟩ = some c ∧ w.frozen? ⟨g, 0, none⟩ = false ∧ w.frozen? ⟨g, 1, none⟩ = false ∧ w.frozen? ⟨g, 2, none⟩ = false :=
  ⟨by rw [h.cell]; rfl, by rw [h.cell]; rfl, by rw [h.cell]; rfl, h.free 0, h.free 1, h.free 2⟩
set_option maxRecDepth 100000 in
set_option maxHeartbeats 800000 in
theorem kin_any (q c : Int) (w : World) : Calls Tryz.prog 136 #[.int .i64 q, .int .i64 c] w (MapPost 2 [1, q] [0, c] w) := by
  have h1 : Row (((w.alloc (.cells #[.int .i64 2, .slice (some ⟨w.heap.size + 1, 0, none⟩) 2 2, .slice (some ⟨w.heap.size + 1 + 1, 0, none⟩) 2 2] 24)).alloc (.cells #[.int .i64 1, .int .i64 q] 3)).alloc (.cells #[.int .i64 0, .int .i64 c] 3)) (w.heap.size + 1) 3 (Is [1, q]) := by
    have := (Row.new (w.alloc (.cells #[.int .i64 2, .slice (some ⟨w.heap.size + 1, 0, none⟩) 2 2, .slice (some ⟨w.heap.size + 1 + 1, 0, none⟩) 2 2] 24)) 3 [.int .i64 1, .int .i64 q]).alloc (.cells #[.int .i64 0, .int .i64 c] 3)
    rwa [World.size_alloc] at this
  have h2 : Row (((w.alloc (.cells #[.int .i64 2, .slice (some ⟨w.heap.size + 1, 0, none⟩) 2 2, .slice (some ⟨w.heap.size + 1 + 1, 0, none⟩) 2 2] 24)).alloc (.cells #[.int .i64 1, .int .i64 q] 3)).alloc (.cells #[.int .i64 0, .int .i64 c] 3)) (w.heap.size + 1 + 1) 3 (Is [0, c]) := by
    have := Row.new ((w.alloc (.cells #[.int .i64 2, .slice (some ⟨w.heap.size + 1, 0, none⟩) 2 2, .slice (some ⟨w.heap.size + 1 + 1, 0, none⟩) 2 2] 24)).alloc (.cells #[.int .i64 1, .int .i64 q] 3)) 3 [.int .i64 0, .int .i64 c]
    rwa [World.size_alloc, World.size_alloc] at this
  have hfin : MapPost 2 [1, q] [0, c] w (.returned (.agg #[.int .i64 2, .slice (some ⟨w.heap.size + 1, 0, none⟩) 2 2, .slice (some ⟨w.heap.size + 1 + 1, 0, none⟩) 2 2])) (((w.alloc (.cells #[.int .i64 2, .slice (some ⟨w.heap.size + 1, 0, none⟩) 2 2, .slice (some ⟨w.heap.size + 1 + 1, 0, none⟩) 2 2] 24)).alloc (.cells #[.int .i64 1, .int .i64 q] 3)).alloc (.cells #[.int .i64 0, .int .i64 c] 3)) :=
    ⟨_, rfl, ⟨_, _, _, rfl, h1, h2, by omega, by omega, rfl, rfl, by omega⟩, (((Ext.rfl' w).alloc' _).alloc' _).alloc' _⟩
  have HF := hid hfin
  clear hfin h1 h2
  go_enter Tryz.func136, Tryz.ntmps136
  go_wp2
  refine bodyPost_ret (v := .agg #[.int .i64 2, .slice (some ⟨w.heap.size + 1, 0, none⟩) 2 2, .slice (some ⟨w.heap.size + 1 + 1, 0, none⟩) 2 2]) (by simp [results, Tryz.results136, go_sem]) rfl HF.out
set_option maxRecDepth 100000 in
set_option maxHeartbeats 800000 in
theorem refCollatz_any (w : World) : Calls Tryz.prog 75 #[] w (MapPost 2 [1, 3] [0, 1] w) := by
  have h1 : Row (((w.alloc (.cells #[.int .i64 2, .slice (some ⟨w.heap.size + 1, 0, none⟩) 2 2, .slice (some ⟨w.heap.size + 1 + 1, 0, none⟩) 2 2] 24)).alloc (.cells #[.int .i64 1, .int .i64 3] 3)).alloc (.cells #[.int .i64 0, .int .i64 1] 3)) (w.heap.size + 1) 3 (Is [1, 3]) := by
    have := (Row.new (w.alloc (.cells #[.int .i64 2, .slice (some ⟨w.heap.size + 1, 0, none⟩) 2 2, .slice (some ⟨w.heap.size + 1 + 1, 0, none⟩) 2 2] 24)) 3 [.int .i64 1, .int .i64 3]).alloc (.cells #[.int .i64 0, .int .i64 1] 3)
    rwa [World.size_alloc] at this
  have h2 : Row (((w.alloc (.cells #[.int .i64 2, .slice (some ⟨w.heap.size + 1, 0, none⟩) 2 2, .slice (some ⟨w.heap.size + 1 + 1, 0, none⟩) 2 2] 24)).alloc (.cells #[.int .i64 1, .int .i64 3] 3)).alloc (.cells #[.int .i64 0, .int .i64 1] 3)) (w.heap.size + 1 + 1) 3 (Is [0, 1]) := by
    have := Row.new ((w.alloc (.cells #[.int .i64 2, .slice (some ⟨w.heap.size + 1, 0, none⟩) 2 2, .slice (some ⟨w.heap.size + 1 + 1, 0, none⟩) 2 2] 24)).alloc (.cells #[.int .i64 1, .int .i64 3] 3)) 3 [.int .i64 0, .int .i64 1]
    rwa [World.size_alloc, World.size_alloc] at this
  have hfin : MapPost 2 [1, 3] [0, 1] w (.returned (.agg #[.int .i64 2, .slice (some ⟨w.heap.size + 1, 0, none⟩) 2 2, .slice (some ⟨w.heap.size + 1 + 1, 0, none⟩) 2 2])) (((w.alloc (.cells #[.int .i64 2, .slice (some ⟨w.heap.size + 1, 0, none⟩) 2 2, .slice (some ⟨w.heap.size + 1 + 1, 0, none⟩) 2 2] 24)).alloc (.cells #[.int .i64 1, .int .i64 3] 3)).alloc (.cells #[.int .i64 0, .int .i64 1] 3)) :=
    ⟨_, rfl, ⟨_, _, _, rfl, h1, h2, by omega, by omega, rfl, rfl, by omega⟩, (((Ext.rfl' w).alloc' _).alloc' _).alloc' _⟩
  have HF := hid hfin
  clear hfin h1 h2
  go_enter Tryz.func75, Tryz.ntmps75
  go_wp2
  refine bodyPost_ret (v := .agg #[.int .i64 2, .slice (some ⟨w.heap.size + 1, 0, none⟩) 2 2, .slice (some ⟨w.heap.size + 1 + 1, 0, none⟩) 2 2]) (by simp [results, Tryz.results75, go_sem]) rfl HF.out
theorem MapNew.ext {m : Int} {us ad : List Int} {b : Nat} {v : Value} {w w' : World} (h : MapNew m us ad b v w) (e : Ext w w') : MapNew m us ad b v w' := by
  obtain ⟨g1, g2, k, h1, h2, h3, h4⟩ := h
  exact ⟨g1, g2, k, h1, h2.ext e, h3.ext e, h4⟩
theorem MapNew.mapV {m : Int} {us ad : List Int} {b : Nat} {v : Value} {w : World} (h : MapNew m us ad b v w) : MapV w v m us ad := by
  obtain ⟨g1, g2, k, rfl, h2, h3, -, -, h6, h7, h8⟩ := h
  exact MapV.fresh h2 h3 h6 h7 h8
/-- a new map stored into an older box -/
theorem MapNew.stored {m : Int} {us ad : List Int} {b H : Nat} {v x y z : Value} {w : World} (h : MapNew m us ad b v w) (hH : H < b) : MapNew m us ad b v (((w.setCell ⟨H, 0, none⟩ x).setCell ⟨H, 1, none⟩ y).setCell ⟨H, 2, none⟩ z) := by
  obtain ⟨g1, g2, k, h1, h2, h3, h4, h5, h6⟩ := h
  exact ⟨g1, g2, k, h1, h2.set3 (by omega), h3.set3 (by omega), h4, h5, h6⟩
theorem MapNew.mono {m : Int} {us ad : List Int} {b c : Nat} {v : Value} {w : World} (h : MapNew m us ad b v w) (hc : c ≤ b) : MapNew m us ad c v w := by
  obtain ⟨g1, g2, k, h1, h2, h3, h4, h5, h6⟩ := h
  exact ⟨g1, g2, k, h1, h2, h3, by omega, by omega, h6⟩
set_option maxRecDepth 100000 in
set_option maxHeartbeats 800000 in
theorem stepCollatz_any (w : World) : Calls Tryz.prog 103 #[] w (MapPost 2 [1, 3] [0, 1] w) := by
  have hx : Ext w (w.alloc (.cells #[.int .i64 0, .slice none 0 0, .slice none 0 0] 24)) := (Ext.rfl' w).alloc' _
  have h0 := Row.new w 24 [.int .i64 0, .slice none 0 0, .slice none 0 0]
  have HX := hid hx
  have H0 := hid h0
  clear hx h0
  go_enter Tryz.func103, Tryz.ntmps103
  go_wp2_with fail
  refine (kin_any 3 1 _).mono ?_
  rintro e w2 ⟨v, rfl, hn, hx2⟩
  rw [World.size_alloc] at hn
  have hr := H0.out.ext hx2
  have hn2 := hn
  obtain ⟨g1, g2, k, rfl, -⟩ := hn
  have hfin : MapPost 2 [1, 3] [0, 1] w (.returned (.agg #[.int .i64 2, .slice (some ⟨g1, 0, none⟩) k k, .slice (some ⟨g2, 0, none⟩) k k])) (((w2.setCell ⟨w.heap.size, 0, none⟩ (.int .i64 2)).setCell ⟨w.heap.size, 1, none⟩ (.slice (some ⟨g1, 0, none⟩) k k)).setCell ⟨w.heap.size, 2, none⟩ (.slice (some ⟨g2, 0, none⟩) k k)) :=
    ⟨_, rfl, (hn2.stored (by omega)).mono (by omega), (HX.out.step hx2).set3 (Nat.le_refl _)⟩
  have HF := hid hfin
  obtain ⟨f0, f1, f2, f3, f4, f5⟩ := row_facts3 hr
  clear hfin hn2 hr hx2
  go_wp2
  refine bodyPost_ret (v := .agg #[.int .i64 2, .slice (some ⟨g1, 0, none⟩) k k, .slice (some ⟨g2, 0, none⟩) k k]) (by simp [results, Tryz.results103, go_sem, f0, f1, f2]) rfl HF.out
/-- the pair that Kin returns -/
def MapErr (m : Int) (us ad : List Int) (w : World) (e : Ending) (w' : World) : Prop := ∃ v, e = .returned (.tuple #[v, .int .i64 0]) ∧ MapNew m us ad w.heap.size v w' ∧ Ext w w'
set_option maxRecDepth 100000 in
set_option maxHeartbeats 800000 in
theorem ralike_eq (A B : Option Addr) (n c d : Nat) (xs : List Int) (w : World) (ra : Rd w A (Is xs)) (rb : Rd w B (Is xs)) (hn : xs.length = n) (hb : n ≤ 140737488351232) :
    Calls Tryz.prog 21 #[.slice A n c, .slice B n d] w (fun e w' => e = .returned (.bool true) ∧ Ext w w') := by
  have HN := hid hn
  have HA := hid ra
  have HB := hid rb
  have hb2 : n ≤ 9223372036854775807 := by omega
  clear hn ra rb
  go_enter Tryz.func21, Tryz.ntmps21
  go_wp2_with fail
  go_loopw [5] (fun iz wr => ∃ j : Nat, j ≤ n ∧ iz = .int .i64 (j : Int) ∧ Ext w wr) (fun iz _ => n - (intOf iz).toNat)
  case atStart => exact ⟨0, by omega, rfl, Ext.rfl' _⟩
  case round =>
    obtain ⟨j, hj, rfl, hex⟩ := hrel
    by_cases hlt : j < n
    · obtain ⟨b1, o1, e1, -, hc1⟩ := (HA.out.ext hex).atI (k := j) (by rw [HN.out]; exact hlt)
      obtain ⟨b2, o2, e2, -, hc2⟩ := (HB.out.ext hex).atI (k := j) (by rw [HN.out]; exact hlt)
      subst e1 e2
      obtain ⟨u, hu⟩ : ∃ u, xs.getD j 0 = u := ⟨_, rfl⟩
      rw [hu] at hc1 hc2
      clear hu
      go_wp2_with fail
      go_quiet (fail)
      have hex2 := hex.drewN nq
      go_wp2
      go_roundw
      case rel => exact ⟨j + 1, by omega, by simp, hex2⟩
      case measure => simp [intOf]; omega
    · have HX := hid hex
      go_wp2
      go_ret
      exact ⟨rfl, HX.out⟩
set_option maxRecDepth 100000 in
set_option maxHeartbeats 1600000 in
theorem rsame_eq (va vb : Value) (m : Int) (us ad : List Int) (w : World) (ha : MapV w va m us ad) (hb : MapV w vb m us ad) :
    Calls Tryz.prog 16 #[va, vb] w (fun e w' => e = .returned (.bool true) ∧ Ext w w') := by
  obtain ⟨A, n, c, B, n2, d, rfl, h1, h2, h3, h4, h5, h6, h7, h8⟩ := ha
  obtain ⟨C, n', c', D, n2', d', rfl, k1, k2, k3, k4, k5, k6, k7, k8⟩ := hb
  obtain rfl : n' = n := by omega
  obtain rfl : n2' = n2 := by omega
  have hx : Ext w ((w.alloc (.cells #[.int .i64 m, .slice A n' c, .slice B n2' d] 24)).alloc (.cells #[.int .i64 m, .slice C n' c', .slice D n2' d'] 24)) := ((Ext.rfl' w).alloc' _).alloc' _
  have q0 : Row ((w.alloc (.cells #[.int .i64 m, .slice A n' c, .slice B n2' d] 24)).alloc (.cells #[.int .i64 m, .slice C n' c', .slice D n2' d'] 24)) w.heap.size 24 [.int .i64 m, .slice A n' c, .slice B n2' d] := (Row.new w _ _).alloc _
  have q1 : Row ((w.alloc (.cells #[.int .i64 m, .slice A n' c, .slice B n2' d] 24)).alloc (.cells #[.int .i64 m, .slice C n' c', .slice D n2' d'] 24)) (w.heap.size + 1) 24 [.int .i64 m, .slice C n' c', .slice D n2' d'] := by
    have := Row.new (w.alloc (.cells #[.int .i64 m, .slice A n' c, .slice B n2' d] 24)) 24 [.int .i64 m, .slice C n' c', .slice D n2' d']
    rwa [World.size_alloc] at this
  obtain ⟨W2, hW2⟩ : ∃ W2, ((w.alloc (.cells #[.int .i64 m, .slice A n' c, .slice B n2' d] 24)).alloc (.cells #[.int .i64 m, .slice C n' c', .slice D n2' d'] 24)) = W2 := ⟨_, rfl⟩
  rw [hW2] at hx q0 q1
  have HW2 := hid hW2
  have HX := hid hx
  have Q0 := hid q0
  have Q1 := hid q1
  have HA := hid h5
  have HB := hid h6
  have HC := hid k5
  have HD := hid k6
  have H1 := hid h1
  have H3 := hid h3
  obtain ⟨f0, f1, f2, -, -, -⟩ := row_facts3 q0
  obtain ⟨e0, e1, e2, -, -, -⟩ := row_facts3 q1
  have hmm : (m == m) = true := by simp
  clear hW2 hx q0 q1 h5 h6 k5 k6 h1 h3 k1 k3
  go_enter Tryz.func16, Tryz.ntmps16
  go_upto_region 1 with fail
  rw [HW2.out]
  go_wp2_with fail
  refine (ralike_eq A C n' c c' us W2 (HA.out.ext HX.out) (HC.out.ext HX.out) H1.out h7).mono ?_
  rintro e w3 ⟨rfl, hx3⟩
  clear f0 f1 f2 e0 e1 e2
  obtain ⟨f0, f1, f2, -, -, -⟩ := row_facts3 (Q0.out.ext hx3)
  obtain ⟨e0, e1, e2, -, -, -⟩ := row_facts3 (Q1.out.ext hx3)
  have H2 := hid (HX.out.step hx3)
  clear hx3
  go_wp2_with fail
  refine (ralike_eq B D n2' d d' ad w3 (HB.out.ext H2.out) (HD.out.ext H2.out) H3.out h8).mono ?_
  rintro e w4 ⟨rfl, hx4⟩
  have HZ := hid (H2.out.step hx4)
  clear f0 f1 f2 e0 e1 e2 hx4
  go_wp2
  go_ret
  exact ⟨rfl, HZ.out⟩
end Go.Proofs.YtleccblkafcidaaGreatDoor
/- the reference's Twin: a copy of a map -/
namespace Go.Proofs.YtleccblkafcidaaGreatDoor
open Go.RowKit
/-- the slice reads as the values, out of a block from B on -/
def RdN (B : Nat) (w : World) (A : Option Addr) (vs : List Value) : Prop :=
  vs = [] ∨ ∃ b o, A = some ⟨b, o, none⟩ ∧ B ≤ b ∧ b < w.heap.size ∧ ∀ j u, vs[j]? = some u → w.cell? ⟨b, o + j, none⟩ = some u
theorem RdN.rd {B : Nat} {w : World} {A : Option Addr} {vs : List Value} (h : RdN B w A vs) : Rd w A vs := by
  rcases h with h | ⟨b, o, ha, -, hb, hc⟩
  · exact .inl h
  · exact .inr ⟨b, o, ha, hb, hc⟩
theorem RdN.ext {B : Nat} {w w' : World} {A : Option Addr} {vs : List Value} (h : RdN B w A vs) (e : Ext w w') : RdN B w' A vs := by
  rcases h with h | ⟨b, o, ha, hB, hb, hc⟩
  · exact .inl h
  · exact .inr ⟨b, o, ha, hB, Nat.lt_of_lt_of_le hb e.size, fun j u hu => (e.cell (p := ⟨b, o + j, none⟩) hb).trans (hc j u hu)⟩
theorem RdN.far {B : Nat} {w : World} {A : Option Addr} {vs : List Value} (h : RdN B w A vs) {p : Addr} (hp : p.block < B) (u : Value) : RdN B (w.setCell p u) A vs := by
  rcases h with h | ⟨b, o, ha, hB, hb, hc⟩
  · exact .inl h
  · refine .inr ⟨b, o, ha, hB, by rw [World.size_setCell]; exact hb, fun j v hv => ?_⟩
    rw [World.cell?_of_block (Below.heap_setCell w p u b (by omega))]
    exact hc j v hv
/-- a list appended to an empty one, as one step of a region that draws -/
theorem step_twin {P : Program} {ops : Array Oper} {o : Oper} {a : Act} {w : World} {K : Act → World → Prop} {Q : Exit → Act → World → Prop} {E : Prop}
    (hg : o.guard = none) (s x : Operand) (t : TypeId) (hop : o.op = Op.call { callee := Callee.builtin Builtin.append, args := #[s, x], argTypes := #[t, t] })
    (e : TypeId) (i : TypeInfo) (h1 : P.underlying t = some (.slice e)) (h2 : P.info? e = some i) (h3 : i.zero = some (.int .i64 0)) (h4 : i.size = 1) (h5 : i.bytes = 8)
    (b : Addr) (hs : a.eval s = .slice (some b) 0 0) (A : Option Addr) (k c : Nat) (hx : a.eval x = .slice A k c) (us : List Int) (hl : us.length = k) (hr : Rd w A (Is us)) (hb : k * 8 ≤ 140737488355328)
    (B0 : Nat) (hB0 : B0 ≤ w.heap.size)
    (hK : ∀ A' c' w', k ≤ c' → RdN B0 w' A' (Is us) → Ext w w' → K (a.put o.dst (.slice A' k c')) w') :
    if Region.wanted o (yielded ops a.tmps) = true then Oper.wp P o a w K Q else E := by
  rcases Nat.eq_zero_or_pos k with h0 | h0
  · subst h0
    have hw : Region.wanted o (yielded ops a.tmps) = true := by simp [Region.wanted, hg]
    rw [if_pos hw]
    have hsrc : Src P i.size t (.slice A 0 c) 0 [] w := by
      cases A with
      | none => exact Src.ofNil w h1 c
      | some ad => exact Src.ofSlice w h1 ad 0 c [] (by simp) (by simp) (by simp)
    have hrun := run_append_nothing (P := P) w t t o.type e i h1 h2 (some b) 0 0 (Nat.le_refl _) (.slice A 0 c) hsrc
    unfold Oper.wp
    simp [execOp, hop, resolve, invoke, builtin, hs, hx, hrun, Result.andThen]
    exact hK (some b) 0 w (Nat.le_refl _) (by rw [List.eq_nil_of_length_eq_zero hl]; exact .inl rfl) (Ext.rfl' w)
  · rcases hr with hn | ⟨g, off, rfl, hlt, hc⟩
    · rw [List.map_eq_nil_iff] at hn; subst hn; simp at hl; omega
    · refine step_append_grows hg s x t hop e i (.int .i64 0) 1 8 h1 h2 h3 h4 h5 rfl (by decide) (some b) 0 0 [] hs (fun h => by cases h) (by simp) (fun b' _ j u hu => by simp at hu) ⟨g, off, none⟩ k c (Is us) hx (by simp [hl]) (fun j u hu => ?_) (fun u hu => ?_) (by omega) (by unfold maxLen; omega) (by omega) ?_
      · have : (⟨g, off, none⟩ : Addr).add j = ⟨g, off + j, none⟩ := by unfold Addr.add; split <;> simp_all
        rw [this]; exact hc j u hu
      · obtain ⟨y, _, rfl⟩ := List.mem_map.1 hu; rfl
      · intro v' w' hown hgrow
        rw [Nat.zero_add, List.nil_append] at hown
        obtain ⟨g', cap, sp, rfl, hge, hcap, -⟩ := own_form hown (by omega)
        refine hK _ _ w' hcap ?_ ⟨hgrow.os, hgrow.tape, hgrow.output, hgrow.size, fun j hj => hgrow.block j hj (by simp)⟩
        rcases Rd.of_own hown with h | ⟨b1, o1, e1, hb1, hc1⟩
        · exact .inl h
        · refine .inr ⟨b1, o1, e1, ?_, hb1, hc1⟩
          cases e1
          omega
theorem infoI2 : (Tryz.prog.info? 3).map (fun i => (i.zero, i.size, i.bytes)) = some (some (.int .i64 0), 1, 8) := by kernel_rfl
set_option maxRecDepth 100000 in
set_option maxHeartbeats 3200000 in
theorem twin_any (v : Value) (m : Int) (us ad : List Int) (w : World) (hv : MapV w v m us ad) (h8 : Fit8 v) :
    Calls Tryz.prog 14 #[v] w (fun e w' => ∃ v2, e = .returned v2 ∧ MapV w' v2 m us ad ∧ Ext w w') := by
  obtain ⟨i0, hi, hz0, hz1, hz2⟩ := info_parts infoI2
  obtain ⟨A, n, cc, B, n2, d, rfl, h1, h2, h3, h4, h5, h6, h7, h9⟩ := hv
  obtain ⟨h8a, h8b⟩ := h8 _ _ _ _ _ _ _ rfl
  have hx : Ext w ((w.alloc (.cells #[.int .i64 m, .slice A n cc, .slice B n2 d] 24)).alloc (.cells #[.int .i64 0, .slice none 0 0, .slice none 0 0] 24)) := ((Ext.rfl' w).alloc' _).alloc' _
  have r1 : Row ((w.alloc (.cells #[.int .i64 m, .slice A n cc, .slice B n2 d] 24)).alloc (.cells #[.int .i64 0, .slice none 0 0, .slice none 0 0] 24)) w.heap.size 24 [.int .i64 m, .slice A n cc, .slice B n2 d] := (Row.new w _ _).alloc _
  have r2 : Row ((w.alloc (.cells #[.int .i64 m, .slice A n cc, .slice B n2 d] 24)).alloc (.cells #[.int .i64 0, .slice none 0 0, .slice none 0 0] 24)) (w.heap.size + 1) 24 [.int .i64 0, .slice none 0 0, .slice none 0 0] := by
    have := Row.new (w.alloc (.cells #[.int .i64 m, .slice A n cc, .slice B n2 d] 24)) 24 [.int .i64 0, .slice none 0 0, .slice none 0 0]
    rwa [World.size_alloc] at this
  obtain ⟨W2, hW2⟩ : ∃ W2, ((w.alloc (.cells #[.int .i64 m, .slice A n cc, .slice B n2 d] 24)).alloc (.cells #[.int .i64 0, .slice none 0 0, .slice none 0 0] 24)) = W2 := ⟨_, rfl⟩
  rw [hW2] at hx r1 r2
  have HW2 := hid hW2
  have HX := hid hx
  have R1 := hid r1
  have R2 := hid r2
  have HA := hid (h5.ext hx)
  have HB := hid (h6.ext hx)
  have H1 := hid h1
  have H3 := hid h3
  obtain ⟨f0, f1, f2, -, -, -⟩ := row_facts3 r1
  have hcur : Ext W2 W2 := Ext.rfl' _
  clear hW2 hx r1 r2 h5 h6 h1 h3 h8
  go_enter Tryz.func14, Tryz.ntmps14
  go_upto_region 1 with fail
  rw [HW2.out]
  go_wp2_with fail
  have HS : Hid (∀ W', Ext W2 W' → W'.cell? ⟨w.heap.size, 0, none⟩ = some (.int .i64 m) ∧ W'.cell? ⟨w.heap.size, 1, none⟩ = some (.slice A n cc) ∧ W'.cell? ⟨w.heap.size, 2, none⟩ = some (.slice B n2 d)) := hid (by
    intro W' e
    obtain ⟨p0, p1, p2, -, -, -⟩ := row_facts3 (R1.out.ext e)
    exact ⟨p0, p1, p2⟩)
  go_region_held3 (fun W' => W'.cell? ⟨w.heap.size, 0, none⟩ = some (.int .i64 m) ∧ W'.cell? ⟨w.heap.size, 1, none⟩ = some (.slice A n cc) ∧ W'.cell? ⟨w.heap.size, 2, none⟩ = some (.slice B n2 d))
    (first | exact HS.out _ hcur | exact HS.out _ hcur.drew' | exact HS.out _ (hcur.alloc' _) | exact HS.out _ (hcur.drew'.alloc' _) | exact HS.out _ ((hcur.alloc' _).alloc' _) | exact HS.out _ ((hcur.drew'.alloc' _).alloc' _) | go_keep)
    (first
      | (refine step_twin rfl (.tmp 5) (.tmp 7) 22 rfl 3 i0 Tryz.underlying22 hi hz0 hz1 hz2 _ (by simp only [Act.eval]; rfl) A n cc (by simp only [Act.eval]; rfl) us H1.out (HA.out.ext ?_) h8a W2.heap.size ?_ ?_; (first | exact hcur | exact hcur.drew' | exact hcur.alloc' _ | exact hcur.drew'.alloc' _ | exact (hcur.alloc' _).drew' | exact (hcur.alloc' _).alloc' _ | exact (hcur.drew'.alloc' _).alloc' _); (first | exact hcur.size | exact (hcur.alloc' _).size | exact (hcur.drew'.alloc' _).size | exact ((hcur.alloc' _).alloc' _).size | exact ((hcur.drew'.alloc' _).alloc' _).size); intro A5 c5 w5 hc5 hr5 hx; (first | have HR6 := hid (HR6.out.ext (by first | exact hx | exact Ext.undrew hx | exact Ext.step ((Ext.rfl' _).alloc' _) hx | exact Ext.step ((Ext.rfl' _).drew'.alloc' _) hx)) | skip); have HR5 := hid hr5; have hcur := Ext.step hcur (by first | exact hx | exact Ext.undrew hx | exact Ext.step ((Ext.rfl' _).alloc' _) hx | exact Ext.step ((Ext.rfl' _).drew'.alloc' _) hx | exact Ext.step (((Ext.rfl' _).alloc' _).alloc' _) hx | exact Ext.step (((Ext.rfl' _).drew'.alloc' _).alloc' _) hx); obtain ⟨z0, z1, z2, z3, z4, z5⟩ := row_facts3 (R2.out.ext hcur))
      | (refine step_twin rfl (.tmp 9) (.tmp 11) 22 rfl 3 i0 Tryz.underlying22 hi hz0 hz1 hz2 _ (by simp only [Act.eval]; rfl) B n2 d (by simp only [Act.eval]; rfl) ad H3.out (HB.out.ext ?_) h8b W2.heap.size ?_ ?_; (first | exact hcur | exact hcur.drew' | exact hcur.alloc' _ | exact hcur.drew'.alloc' _ | exact (hcur.alloc' _).drew' | exact (hcur.alloc' _).alloc' _ | exact (hcur.drew'.alloc' _).alloc' _); (first | exact hcur.size | exact (hcur.alloc' _).size | exact (hcur.drew'.alloc' _).size | exact ((hcur.alloc' _).alloc' _).size | exact ((hcur.drew'.alloc' _).alloc' _).size); intro A6 c6 w6 hc6 hr6 hx; (first | have HR5 := hid (HR5.out.ext (by first | exact hx | exact Ext.undrew hx | exact Ext.step ((Ext.rfl' _).alloc' _) hx | exact Ext.step ((Ext.rfl' _).drew'.alloc' _) hx)) | skip); have HR6 := hid hr6; have hcur := Ext.step hcur (by first | exact hx | exact Ext.undrew hx | exact Ext.step ((Ext.rfl' _).alloc' _) hx | exact Ext.step ((Ext.rfl' _).drew'.alloc' _) hx | exact Ext.step (((Ext.rfl' _).alloc' _).alloc' _) hx | exact Ext.step (((Ext.rfl' _).drew'.alloc' _).alloc' _) hx); obtain ⟨z0, z1, z2, z3, z4, z5⟩ := row_facts3 (R2.out.ext hcur)))
  all_goals
    have hfin : MapV _ (.agg #[.int .i64 m, .slice A5 n c5, .slice A6 n2 c6]) m us ad := ⟨A5, n, c5, A6, n2, c6, rfl, H1.out, hc5, H3.out, hc6, (((HR5.out.far (p := ⟨w.heap.size + 1, 0, none⟩) (by show w.heap.size + 1 < W2.heap.size; exact R2.out.lt) (.int .i64 m)).far (p := ⟨w.heap.size + 1, 1, none⟩) (by show w.heap.size + 1 < W2.heap.size; exact R2.out.lt) (.slice A5 n c5)).far (p := ⟨w.heap.size + 1, 2, none⟩) (by show w.heap.size + 1 < W2.heap.size; exact R2.out.lt) (.slice A6 n2 c6)).rd, (((HR6.out.far (p := ⟨w.heap.size + 1, 0, none⟩) (by show w.heap.size + 1 < W2.heap.size; exact R2.out.lt) (.int .i64 m)).far (p := ⟨w.heap.size + 1, 1, none⟩) (by show w.heap.size + 1 < W2.heap.size; exact R2.out.lt) (.slice A5 n c5)).far (p := ⟨w.heap.size + 1, 2, none⟩) (by show w.heap.size + 1 < W2.heap.size; exact R2.out.lt) (.slice A6 n2 c6)).rd, h7, h9⟩
    have hext := (HX.out.step hcur).set3 (H := w.heap.size + 1) (a := .int .i64 m) (b := .slice A5 n c5) (c := .slice A6 n2 c6) (by omega)
    have HF := hid hfin
    have HE := hid hext
    clear hfin hext
    go_wp2
    refine bodyPost_ret (v := .agg #[.int .i64 m, .slice A5 n c5, .slice A6 n2 c6]) (by simp [results, Tryz.results14, go_sem, z0, z1, z2]) rfl ⟨_, rfl, HF.out, HE.out⟩
end Go.Proofs.YtleccblkafcidaaGreatDoor
/- step.commonDivisor, step.Regular; the reference's Prime, Regular -/
namespace Go.Proofs.YtleccblkafcidaaGreatDoor
open Go.RowKit
/-- a regular map -/
def regB (m : Int) (us : List Int) : Bool := us.all fun u => decide (Nat.gcd u.natAbs m.natAbs ≤ 1)
theorem tmod_nat (x y : Nat) : (x : Int).tmod (y : Int) = ((x % y : Nat) : Int) := by rw [Int.tmod_eq_emod_of_nonneg (by omega)]; rfl
set_option maxRecDepth 100000 in
set_option maxHeartbeats 1600000 in
theorem commonDivisor_any (a b : Nat) (w : World) (ha : a ≤ 1000000) (hb : b ≤ 1000000) :
    Calls Tryz.prog 137 #[.int .i64 (a : Int), .int .i64 (b : Int)] w (fun e w' => e = .returned (.int .i64 ((Nat.gcd a b : Nat) : Int)) ∧ Ext w w') := by
  go_enter Tryz.func137, Tryz.ntmps137
  go_wp2_with fail
  go_loopg [0, 1] b (fun g av bv wr => ∃ x y : Nat, y = g ∧ x ≤ 1000000 ∧ y ≤ 1000000 ∧ av = .int .i64 (x : Int) ∧ bv = .int .i64 (y : Int) ∧ Hid (Nat.gcd x y = Nat.gcd a b) ∧ Ext w wr)
  case atStart => exact ⟨a, b, rfl, ha, hb, rfl, rfl, hid rfl, Ext.rfl' _⟩
  case round =>
    obtain ⟨x, y, rfl, hx, hy, rfl, rfl, HG, hex⟩ := hrel
    have HEX := hid hex
    clear hex
    by_cases hy0 : y = 0
    · subst hy0
      have HGX : Hid (x = Nat.gcd a b) := hid (by rw [← HG.out, Nat.gcd_zero_right])
      go_wp2
      go_ret
      exact ⟨by rw [← HGX.out]; rfl, HEX.out⟩
    · have hyp : (0 : Int) < (y : Int) := by omega
      have hyne : (y : Int) ≠ 0 := by omega
      have hyb : ((y : Int) == 0) = false := by rw [beq_eq_false_iff_ne]; exact hyne
      have HMD := hid (tmod_nat x y)
      have HLT : Hid (x % y < y) := hid (Nat.mod_lt _ (by omega))
      have HNX : Hid (Nat.gcd y (x % y) = Nat.gcd a b) := hid (by rw [← HG.out, Nat.gcd_comm y, Nat.gcd_comm x y]; exact (Nat.gcd_rec y x).symm)
      go_wp2_with fail
      first | (go_quiet (fail)) | (go_region)
      all_goals
        have HE2 := hid (HEX.out.drewN nq)
        go_wp2
        go_roundg (x % y)
        case measure => exact HLT.out
        case rel => exact ⟨y, x % y, rfl, hy, by have := HLT.out; omega, rfl, by rw [Int.natCast_emod], HNX, HE2.out⟩
set_option maxRecDepth 100000 in
set_option maxHeartbeats 1600000 in
theorem prime_any (a b : Nat) (w : World) (ha : a ≤ 1000000) (hb : b ≤ 1000000) (ha0 : 0 < a) (hb0 : 0 < b) :
    Calls Tryz.prog 100 #[.int .i64 (a : Int), .int .i64 (b : Int)] w (fun e w' => e = .returned (.bool (decide (Nat.gcd a b ≤ 1))) ∧ Ext w w') := by
  have hfin : ∀ dd : Nat, 2 ≤ dd → (∀ e, 2 ≤ e → e < dd → ¬ (a % e = 0 ∧ b % e = 0)) → (a < dd ∨ b < dd) → decide (Nat.gcd a b ≤ 1) = true := fun dd h2 hall hend => decide_eq_true (by
    rcases Nat.lt_or_ge 1 (Nat.gcd a b) with h | h
    · exfalso
      have h3 := Nat.gcd_dvd_left a b
      have h4 := Nat.gcd_dvd_right a b
      have h5 := Nat.le_of_dvd ha0 h3
      have h6 := Nat.le_of_dvd hb0 h4
      exact hall _ (by omega) (by omega) ⟨Nat.mod_eq_zero_of_dvd h3, Nat.mod_eq_zero_of_dvd h4⟩
    · exact h)
  have hno : ∀ dd : Nat, 2 ≤ dd → a % dd = 0 → b % dd = 0 → decide (Nat.gcd a b ≤ 1) = false := fun dd h2 h3 h4 => decide_eq_false (by
    have h5 := Nat.dvd_gcd (Nat.dvd_of_mod_eq_zero h3) (Nat.dvd_of_mod_eq_zero h4)
    have h6 := Nat.le_of_dvd (Nat.gcd_pos_of_pos_left b ha0) h5
    omega)
  have HFIN := hid hfin
  have HNO := hid hno
  clear hfin hno
  obtain ⟨r, hr⟩ : ∃ r, decide (Nat.gcd a b ≤ 1) = r := ⟨_, rfl⟩
  rw [hr]
  have HR := hid hr
  clear hr
  go_enter Tryz.func100, Tryz.ntmps100
  go_wp2_with fail
  go_loopg [5] (a + 1 - 2) (fun g dv wr => ∃ dd : Nat, 2 ≤ dd ∧ dd ≤ 1000001 ∧ g = a + 1 - dd ∧ dv = .int .i64 (dd : Int) ∧ Hid (∀ e, 2 ≤ e → e < dd → ¬ (a % e = 0 ∧ b % e = 0)) ∧ Ext w wr)
  case atStart => exact ⟨2, by omega, by omega, by omega, rfl, hid (fun e h1 h2 => by omega), Ext.rfl' _⟩
  case round =>
    obtain ⟨dd, h2, hdb, rfl, rfl, HALL, hex⟩ := hrel
    have HEX := hid hex
    clear hex
    have hd0 : ((dd : Int) == 0) = false := by rw [beq_eq_false_iff_ne]; omega
    have hd1 : (dd : Int) ≠ 0 := by omega
    have m1 := tmod_nat a dd
    have m2 := tmod_nat b dd
    by_cases ha1 : dd ≤ a
    · by_cases hb1 : dd ≤ b
      · have ha2 : (dd : Int) ≤ (a : Int) := by omega
        have hb2 : (dd : Int) ≤ (b : Int) := by omega
        have hw : IntKind.i64.wrap ((dd : Int) + 1) = (dd : Int) + 1 := IntWalk.i64_in _ (by omega)
        by_cases ea : a % dd = 0
        · have ea1 : ((a : Int) % (dd : Int) == 0) = true := by rw [beq_iff_eq, ← Int.natCast_emod, ea]; rfl
          by_cases eb : b % dd = 0
          · have eb1 : ((b : Int) % (dd : Int) == 0) = true := by rw [beq_iff_eq, ← Int.natCast_emod, eb]; rfl
            have HF : Hid (r = false) := hid (by rw [← HR.out]; exact HNO.out dd h2 ea eb)
            clear m1 m2 ea eb
            go_wp2
            go_ret
            exact ⟨by rw [HF.out]; rfl, HEX.out⟩
          · have eb1 : ((b : Int) % (dd : Int) == 0) = false := by rw [beq_eq_false_iff_ne, ← Int.natCast_emod]; omega
            have HNX : Hid (∀ e, 2 ≤ e → e < dd + 1 → ¬ (a % e = 0 ∧ b % e = 0)) := hid (fun e h1 h3 h4 => by
              rcases Nat.lt_or_ge e dd with h | h
              · exact HALL.out e h1 h h4
              · obtain rfl : e = dd := by omega
                exact eb h4.2)
            clear m1 m2 ea eb
            go_wp2
            go_roundg (a + 1 - (dd + 1))
            case measure => omega
            case rel => exact ⟨dd + 1, by omega, by omega, by omega, by simp, HNX, HEX.out⟩
        · have ea1 : ((a : Int) % (dd : Int) == 0) = false := by rw [beq_eq_false_iff_ne, ← Int.natCast_emod]; omega
          have HNX : Hid (∀ e, 2 ≤ e → e < dd + 1 → ¬ (a % e = 0 ∧ b % e = 0)) := hid (fun e h1 h3 h4 => by
            rcases Nat.lt_or_ge e dd with h | h
            · exact HALL.out e h1 h h4
            · obtain rfl : e = dd := by omega
              exact ea h4.1)
          clear m1 m2 ea
          go_wp2
          go_roundg (a + 1 - (dd + 1))
          case measure => omega
          case rel => exact ⟨dd + 1, by omega, by omega, by omega, by simp, HNX, HEX.out⟩
      · have HF : Hid (r = true) := hid (by rw [← HR.out]; exact HFIN.out dd h2 HALL.out (.inr (by omega)))
        have ha2 : (dd : Int) ≤ (a : Int) := by omega
        have hb2 : ¬ (dd : Int) ≤ (b : Int) := by omega
        go_wp2
        go_ret
        exact ⟨by rw [HF.out]; rfl, HEX.out⟩
    · have HF : Hid (r = true) := hid (by rw [← HR.out]; exact HFIN.out dd h2 HALL.out (.inl (by omega)))
      have ha2 : ¬ (dd : Int) ≤ (a : Int) := by omega
      go_wp2
      go_ret
      exact ⟨by rw [HF.out]; rfl, HEX.out⟩
theorem commonDivisor_int (a b : Int) (w : World) (ha : 0 ≤ a) (ha2 : a ≤ 1000000) (hb : 0 ≤ b) (hb2 : b ≤ 1000000) :
    Calls Tryz.prog 137 #[.int .i64 a, .int .i64 b] w (fun e w' => e = .returned (.int .i64 ((Nat.gcd a.natAbs b.natAbs : Nat) : Int)) ∧ Ext w w') := by
  obtain ⟨x, rfl⟩ : ∃ x : Nat, a = (x : Int) := ⟨a.toNat, by omega⟩
  obtain ⟨y, rfl⟩ : ∃ y : Nat, b = (y : Int) := ⟨b.toNat, by omega⟩
  exact commonDivisor_any x y w (by omega) (by omega)
theorem prime_int (a b : Int) (w : World) (ha : 0 < a) (ha2 : a ≤ 1000000) (hb : 0 < b) (hb2 : b ≤ 1000000) :
    Calls Tryz.prog 100 #[.int .i64 a, .int .i64 b] w (fun e w' => e = .returned (.bool (decide (Nat.gcd a.natAbs b.natAbs ≤ 1))) ∧ Ext w w') := by
  obtain ⟨x, rfl⟩ : ∃ x : Nat, a = (x : Int) := ⟨a.toNat, by omega⟩
  obtain ⟨y, rfl⟩ : ∃ y : Nat, b = (y : Int) := ⟨b.toNat, by omega⟩
  exact prime_any x y w (by omega) (by omega) (by omega) (by omega)
theorem regB_no {m : Int} {us : List Int} {j : Nat} (hj : j < us.length) (h : ¬ Nat.gcd (us.getD j 0).natAbs m.natAbs ≤ 1) : regB m us = false := by
  unfold regB
  rw [List.all_eq_false]
  refine ⟨us.getD j 0, ?_, by simpa using h⟩
  rw [List.getD_eq_getElem?_getD, List.getElem?_eq_getElem hj]
  exact List.getElem_mem hj
theorem regB_yes {m : Int} {us : List Int} (h : ∀ j, j < us.length → Nat.gcd (us.getD j 0).natAbs m.natAbs ≤ 1) : regB m us = true := by
  unfold regB
  rw [List.all_eq_true]
  intro u hu
  obtain ⟨j, hj, rfl⟩ := List.getElem_of_mem hu
  have := h j hj
  rw [List.getD_eq_getElem?_getD, List.getElem?_eq_getElem hj] at this
  simpa using this
set_option maxRecDepth 100000 in
set_option maxHeartbeats 3200000 in
theorem regular_ok (v : Value) (m : Int) (us ad : List Int) (w : World) (hv : MapV w v m us ad) (hM : Hid (mapP m us ad)) :
    Calls Tryz.prog 107 #[v] w (fun e w' => e = .returned (.tuple #[.bool (regB m us), .int .i64 0]) ∧ Ext w w') := by
  have HV := hid hv
  obtain ⟨A, n, cc, B, n2, d, rfl, h1, h2, h3, h4, h5, h6, h7, h9⟩ := hv
  obtain ⟨dm, hdm⟩ : ∃ dm : Nat, m = (dm : Int) := ⟨m.toNat, by have := hM.out.1; omega⟩
  have HDM := hid hdm
  have HMB := hid (show 2 ≤ m ∧ m ≤ 12 from ⟨hM.out.1, hM.out.2.1⟩)
  have HNM : Hid ((n : Int) = m) := hid (by have := hM.out.2.2.1; omega)
  obtain ⟨r, hr⟩ : ∃ r, regB m us = r := ⟨_, rfl⟩
  rw [hr]
  have HRB := hid hr
  have hx : Ext w (w.alloc (.cells #[.int .i64 m, .slice A n cc, .slice B n2 d] 24)) := (Ext.rfl' w).alloc' _
  have hrw : Row (w.alloc (.cells #[.int .i64 m, .slice A n cc, .slice B n2 d] 24)) w.heap.size 24 [.int .i64 m, .slice A n cc, .slice B n2 d] := Row.new w _ _
  obtain ⟨W1, hW1⟩ : ∃ W1, (w.alloc (.cells #[.int .i64 m, .slice A n cc, .slice B n2 d] 24)) = W1 := ⟨_, rfl⟩
  rw [hW1] at hx hrw
  have HX := hid hx
  have HR := hid hrw
  have HW1 := hid hW1
  have HA := hid (h5.ext hx)
  have HL := hid h1
  obtain ⟨f0, f1, f2, -, -, -⟩ := row_facts3 hrw
  clear hW1 hx hrw h5 h6 h1 h3 hdm hr
  go_enter Tryz.func107, Tryz.ntmps107
  go_upto_region 1 with fail
  rw [HW1.out]
  go_wp2_with fail
  refine (stepvalid_any _ m us ad W1 (HV.out.ext HX.out) (hid ((mapB_iff m us ad).2 hM.out))).mono ?_
  rintro e w2 ⟨rfl, hx2⟩
  have HX2 := hid hx2
  clear f0 f1 f2 hx2
  obtain ⟨f0, f1, f2, -, -, -⟩ := row_facts3 (HR.out.ext HX2.out)
  go_wp2_with fail
  go_loopw [12] (fun iz wr => ∃ j : Nat, j ≤ n ∧ iz = .int .i64 (j : Int) ∧ Hid (∀ i, i < j → Nat.gcd (us.getD i 0).natAbs m.natAbs ≤ 1) ∧ Ext w2 wr) (fun iz _ => n - (intOf iz).toNat)
  case atStart => exact ⟨0, by omega, rfl, hid (fun i hi => by omega), Ext.rfl' _⟩
  case round =>
    obtain ⟨j, hj, rfl, HALL, hex⟩ := hrel
    have HEX := hid hex
    have HEW := hid (HX.out.step (HX2.out.step hex))
    clear f0 f1 f2
    obtain ⟨f0, f1, f2, -, -, -⟩ := row_facts3 (HR.out.ext (HX2.out.step HEX.out))
    clear hex
    by_cases hlt : j < n
    · obtain ⟨b1, o1, e1, -, hc1⟩ := (HA.out.ext (HX2.out.step HEX.out)).atI (k := j) (by rw [HL.out]; exact hlt)
      subst e1
      have hrule := hM.out.2.2.2.2 j (by rw [HL.out]; exact hlt)
      obtain ⟨u, hu⟩ : ∃ u, us.getD j 0 = u := ⟨_, rfl⟩
      rw [hu] at hc1 hrule
      have HU := hid hu
      have HRU := hid (show 1 ≤ u ∧ u ≤ 999 from ⟨hrule.1, hrule.2.1⟩)
      obtain ⟨gg, hgg⟩ : ∃ gg : Nat, Nat.gcd u.natAbs m.natAbs = gg := ⟨_, rfl⟩
      have HGG := hid hgg
      clear hu hrule hgg
      have hjn : (j : Int) < (n : Int) := by omega
      go_wp2_with fail
      refine (commonDivisor_int u m wr (by have := HRU.out; omega) (by have := HRU.out; omega) (by have := HMB.out; omega) (by have := HMB.out; omega)).mono ?_
      rintro e w5 ⟨rfl, hx5⟩
      rw [HGG.out]
      have HX5 := hid (HEX.out.step hx5)
      have HW5 := hid (HEW.out.step hx5)
      clear f0 f1 f2 hc1 hx5
      by_cases hg : gg ≤ 1
      · have hgi : ¬ (1 : Int) < (gg : Int) := by omega
        have HNX : Hid (∀ i, i < j + 1 → Nat.gcd (us.getD i 0).natAbs m.natAbs ≤ 1) := hid (fun i hi => by
          rcases Nat.lt_or_ge i j with h | h
          · exact HALL.out i h
          · obtain rfl : i = j := by omega
            rw [HU.out, HGG.out]; exact hg)
        go_wp2
        go_roundw
        case rel => exact ⟨j + 1, by omega, by simp, HNX, HX5.out⟩
        case measure => first | (simp [intOf]; done) | (simp [intOf]; omega)
      · have hgi : (1 : Int) < (gg : Int) := by omega
        have HF : Hid (r = false) := hid (by rw [← HRB.out]; exact regB_no (j := j) (by rw [HL.out]; exact hlt) (by rw [HU.out, HGG.out]; exact hg))
        go_wp2
        go_ret2
        exact ⟨by rw [HF.out]; rfl, HW5.out⟩
    · obtain rfl : j = n := by omega
      have HF : Hid (r = true) := hid (by rw [← HRB.out]; exact regB_yes (fun i hi => HALL.out i (by rw [HL.out] at hi; exact hi)))
      go_wp2
      go_ret2
      exact ⟨by rw [HF.out]; rfl, HEW.out⟩
set_option maxRecDepth 100000 in
set_option maxHeartbeats 1600000 in
theorem regular_bad (v : Value) (m : Int) (us ad : List Int) (w : World) (hv : MapV w v m us ad) (hM : Hid (mapB m us ad = false)) :
    Calls Tryz.prog 107 #[v] w (fun e w' => e = .returned (.tuple #[.bool false, .int .i64 1]) ∧ Ext w w') := by
  have HV := hid hv
  obtain ⟨A, n, cc, B, n2, d, rfl, -⟩ := hv
  have hx : Ext w (w.alloc (.cells #[.int .i64 m, .slice A n cc, .slice B n2 d] 24)) := (Ext.rfl' w).alloc' _
  obtain ⟨f0, f1, f2, -⟩ := three_facts (Ext.rfl' (w.alloc (.cells #[.int .i64 m, .slice A n cc, .slice B n2 d] 24))) rfl
  obtain ⟨W1, hW1⟩ : ∃ W1, (w.alloc (.cells #[.int .i64 m, .slice A n cc, .slice B n2 d] 24)) = W1 := ⟨_, rfl⟩
  rw [hW1] at hx f0 f1 f2
  have HX := hid hx
  have HW1 := hid hW1
  clear hW1 hx
  go_enter Tryz.func107, Tryz.ntmps107
  go_upto_region 1 with fail
  rw [HW1.out]
  go_wp2_with fail
  refine (stepvalid_any _ m us ad W1 (HV.out.ext HX.out) hM).mono ?_
  rintro e w2 ⟨rfl, hx2⟩
  have HY := hid (HX.out.step hx2)
  clear f0 f1 f2 hx2
  go_wp2
  go_ret2
  exact ⟨rfl, HY.out⟩
set_option maxRecDepth 100000 in
set_option maxHeartbeats 3200000 in
theorem rregular_any (v : Value) (m : Int) (us ad : List Int) (w : World) (hv : MapV w v m us ad) (hM : Hid (mapP m us ad)) :
    Calls Tryz.prog 43 #[v] w (fun e w' => e = .returned (.bool (regB m us)) ∧ Ext w w') := by
  obtain ⟨A, n, cc, B, n2, d, rfl, h1, h2, h3, h4, h5, h6, h7, h9⟩ := hv
  have HMB := hid (show 2 ≤ m ∧ m ≤ 12 from ⟨hM.out.1, hM.out.2.1⟩)
  have HNM : Hid ((n : Int) = m) := hid (by have := hM.out.2.2.1; omega)
  obtain ⟨r, hr⟩ : ∃ r, regB m us = r := ⟨_, rfl⟩
  rw [hr]
  have HRB := hid hr
  have hx : Ext w (w.alloc (.cells #[.int .i64 m, .slice A n cc, .slice B n2 d] 24)) := (Ext.rfl' w).alloc' _
  have hrw : Row (w.alloc (.cells #[.int .i64 m, .slice A n cc, .slice B n2 d] 24)) w.heap.size 24 [.int .i64 m, .slice A n cc, .slice B n2 d] := Row.new w _ _
  obtain ⟨W1, hW1⟩ : ∃ W1, (w.alloc (.cells #[.int .i64 m, .slice A n cc, .slice B n2 d] 24)) = W1 := ⟨_, rfl⟩
  rw [hW1] at hx hrw
  have HX := hid hx
  have HR := hid hrw
  have HW1 := hid hW1
  have HA := hid (h5.ext hx)
  have HL := hid h1
  clear hW1 hx hrw h5 h6 h1 h3 hr
  go_enter Tryz.func43, Tryz.ntmps43
  go_upto_region 1 with fail
  rw [HW1.out]
  go_wp2_with fail
  go_loopw [3] (fun iz wr => ∃ j : Nat, j ≤ n ∧ iz = .int .i64 (j : Int) ∧ Hid (∀ i, i < j → Nat.gcd (us.getD i 0).natAbs m.natAbs ≤ 1) ∧ Ext W1 wr) (fun iz _ => n - (intOf iz).toNat)
  case atStart => exact ⟨0, by omega, rfl, hid (fun i hi => by omega), Ext.rfl' _⟩
  case round =>
    obtain ⟨j, hj, rfl, HALL, hex⟩ := hrel
    have HEX := hid hex
    have HEW := hid (HX.out.step hex)
    obtain ⟨f0, f1, f2, -, -, -⟩ := row_facts3 (HR.out.ext HEX.out)
    clear hex
    by_cases hlt : j < n
    · obtain ⟨b1, o1, e1, -, hc1⟩ := (HA.out.ext HEX.out).atI (k := j) (by rw [HL.out]; exact hlt)
      subst e1
      have hrule := hM.out.2.2.2.2 j (by rw [HL.out]; exact hlt)
      obtain ⟨u, hu⟩ : ∃ u, us.getD j 0 = u := ⟨_, rfl⟩
      rw [hu] at hc1 hrule
      have HU := hid hu
      have HRU := hid (show 1 ≤ u ∧ u ≤ 999 from ⟨hrule.1, hrule.2.1⟩)
      have HCELL : Hid (∀ W', Ext wr W' → W'.cell? ⟨w.heap.size, 0, none⟩ = some (.int .i64 m) ∧ W'.cell? ⟨w.heap.size, 1, none⟩ = some (.slice (some ⟨b1, o1, none⟩) n cc) ∧ W'.cell? ⟨b1, o1 + j, none⟩ = some (.int .i64 u)) := hid (fun W' e => by
        obtain ⟨p0, p1, -, -, -, -⟩ := row_facts3 (HR.out.ext (HEX.out.step e))
        obtain ⟨b2, o2, e2, -, hc2⟩ := (HA.out.ext (HEX.out.step e)).atI (k := j) (by rw [HL.out]; exact hlt)
        cases e2
        rw [HU.out] at hc2
        exact ⟨p0, p1, hc2⟩)
      have hcur : Ext wr wr := Ext.rfl' _
      clear hu hrule hc1
      have hjn : (j : Int) < (n : Int) := by omega
      have hjm : (j : Int) < m := by have := HNM.out; omega
      have hj0 : (0 : Int) ≤ (j : Int) := by omega
      obtain ⟨gb, hgb⟩ : ∃ gb, decide (Nat.gcd u.natAbs m.natAbs ≤ 1) = gb := ⟨_, rfl⟩
      have HGB := hid hgb
      clear hgb
      go_wp2_with fail
      go_region_held3 (fun W' => W'.cell? ⟨w.heap.size, 0, none⟩ = some (.int .i64 m) ∧ W'.cell? ⟨w.heap.size, 1, none⟩ = some (.slice (some ⟨b1, o1, none⟩) n cc) ∧ W'.cell? ⟨b1, o1 + j, none⟩ = some (.int .i64 u))
        (first | exact HCELL.out _ hcur | exact HCELL.out _ hcur.drew' | exact HCELL.out _ (hcur.alloc' _) | exact HCELL.out _ (hcur.drew'.alloc' _) | exact HCELL.out _ ((hcur.set' HB2.out.1 _).set' HB2.out.1 _) | go_keep)
        (first
          | (go_at_call 100; refine (prime_int u m _ (by have := HRU.out; omega) (by have := HRU.out; omega) (by have := HMB.out; omega) (by have := HMB.out; omega)).mono ?_; rintro e w5 ⟨rfl, hx⟩; rw [HGB.out]; have hcur := Ext.step hcur (by first | exact hx | exact Ext.undrew hx | exact Ext.step ((Ext.rfl' _).alloc' _) hx | exact Ext.step ((Ext.rfl' _).drew'.alloc' _) hx)))
      all_goals
        have HX5 := hid (HEX.out.step hcur)
        have HW5 := hid (HEW.out.step hcur)
        clear f0 f1 f2 hcur
        cases gb with
        | true =>
          have HNX : Hid (∀ i, i < j + 1 → Nat.gcd (us.getD i 0).natAbs m.natAbs ≤ 1) := hid (fun i hi => by
            rcases Nat.lt_or_ge i j with h | h
            · exact HALL.out i h
            · obtain rfl : i = j := by omega
              rw [HU.out]; exact of_decide_eq_true HGB.out)
          go_wp2
          go_roundw
          case rel => exact ⟨j + 1, by omega, by simp, HNX, HX5.out⟩
          case measure => first | (simp [intOf]; done) | (simp [intOf]; omega)
        | false =>
          have HF : Hid (r = false) := hid (by rw [← HRB.out]; exact regB_no (j := j) (by rw [HL.out]; exact hlt) (by rw [HU.out]; exact of_decide_eq_false HGB.out))
          go_wp2
          go_ret
          exact ⟨by rw [HF.out]; rfl, HW5.out⟩
    · obtain rfl : j = n := by omega
      have hjm : ¬ (j : Int) < m := by have := HNM.out; omega
      have HF : Hid (r = true) := hid (by rw [← HRB.out]; exact regB_yes (fun i hi => HALL.out i (by rw [HL.out] at hi; exact hi)))
      go_wp2
      go_ret
      exact ⟨by rw [HF.out]; rfl, HEW.out⟩
end Go.Proofs.YtleccblkafcidaaGreatDoor
