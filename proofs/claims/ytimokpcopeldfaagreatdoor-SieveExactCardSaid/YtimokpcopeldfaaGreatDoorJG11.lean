/- Joined texts: step.Run, step.Step; step.Orbit; step.Falls; step.kin, step.Collatz; the reference's Collatz, Alike, Same; the law's same. -/
import Derived.Test.YtimokpcopeldfaaGreatDoorJG10
import Derived.RangeFuncBox
import Derived.Maps.AppendAt
import Derived.Maps.OwnIn
import Derived.Deep.RegionHeld3
set_option linter.unusedSimpArgs false
set_option linter.unusedVariables false
/- step.Run, step.Step -/
namespace Go.Proofs.YtimokpcopeldfaaGreatDoor
open Go.RowKit Go.Proofs
attribute [local go_sem] Oper.semAt_some
def lastO (x : Int) (l : List (Option Int)) : Int := l.foldl (fun a o => o.getD a) x
theorem seq_run (m : Int) (us ad : List Int) : ∀ (k : Nat) (x : Int), (none ∉ seqO m us ad k x → runO m us ad k x = some (lastO x (seqO m us ad k x))) ∧ (none ∈ seqO m us ad k x → runO m us ad k x = none)
  | 0, x => ⟨fun _ => rfl, fun h => by simp [seqO] at h⟩
  | k + 1, x => by
    have ih := seq_run m us ad k (stepI m us ad x)
    rw [seqO, runO_succ]
    by_cases hf : fitsB (stepI m us ad x) = true
    · rw [if_pos hf, if_pos hf]
      refine ⟨fun h => ?_, fun h => ?_⟩
      · rw [ih.1 (fun h2 => h (List.mem_cons_of_mem _ h2))]; rfl
      · exact ih.2 (by simpa using h)
    · rw [if_neg hf, if_neg hf]
      exact ⟨fun h => absurd (List.mem_singleton.2 rfl) h, fun _ => rfl⟩
theorem lastO_snoc (x : Int) (l : List (Option Int)) (y : Int) : lastO x (l ++ [some y]) = y := by simp [lastO]
/-- a result, or ErrSize -/
def OptPost (o : Option Int) (w : World) (e : Ending) (w' : World) : Prop := e = .returned (.tuple #[.string (strO o), .int .i64 (codeO o)]) ∧ Ext w w'
theorem one_facts {W w' : World} {a : Value} {t : TypeId} {H : Nat} (e : Ext (W.alloc (.cells #[a] t)) w') (hH : W.heap.size = H) : Row w' H t [a] := by
  subst hH; exact (Row.new W t [a]).ext e
theorem Row.grown {W W' : World} {B g : Nat} {t : TypeId} {vs : List Value} {row : Option Nat} (h : Row W g t vs) (hg : W.grownBy W' row) (hr : ∀ r, row = some r → B ≤ r ∧ ∃ o : Obj, W.heap[r]? = some o ∧ o.isCells = false) : Row W' g t vs := by
  refine (hg.block g h.lt ?_).trans h
  intro e
  obtain ⟨-, o, ho, hc⟩ := hr g e.symm
  have h' : W.heap[g]? = some (.cells vs.toArray t (0, 0)) := h
  rw [h'] at ho
  cases ho
  simp [Obj.isCells] at hc
theorem ext_grown {w W W' : World} {B : Nat} {row : Option Nat} (h : Ext w W) (hB : w.heap.size ≤ B) (hg : W.grownBy W' row) (hr : ∀ r, row = some r → B ≤ r ∧ ∃ o : Obj, W.heap[r]? = some o ∧ o.isCells = false) : Ext w W' :=
  h.grown hg h.size (fun k e => Nat.le_trans hB (hr k e).1)
set_option maxRecDepth 100000 in
set_option maxHeartbeats 3200000 in
theorem runIn_ok (v : Value) (m : Int) (us ad : List Int) (l : List UInt8) (k : Nat) (w : World) (hv : MapV w v m us ad) (hM : Hid (mapP m us ad)) (hl : Hid (K.validL l = true)) (hk : k ≤ 20000) (ht : Tab w) :
    CallsIn Fence.wide 9 Tryz.prog 24 #[v, .string (Str l), .int .i64 (k : Int)] w (OptPost (runO m us ad k (K.numL l)) w) := by
  have HT := hid ht
  have HV := hid hv
  have hlen := len_of (valid_len hl.out)
  obtain ⟨A, n, c, B, n2, d, rfl, -⟩ := hv
  have hx3 : Ext w (((w.alloc (.cells #[.int .i64 m, .slice A n c, .slice B n2 d] 24)).alloc (.cells #[.string ⟨#[]⟩] 9)).alloc (.cells #[.int .i64 0] 27)) := (((Ext.rfl' w).alloc' _).alloc' _).alloc' _
  have h0 : Row (((w.alloc (.cells #[.int .i64 m, .slice A n c, .slice B n2 d] 24)).alloc (.cells #[.string ⟨#[]⟩] 9)).alloc (.cells #[.int .i64 0] 27)) w.heap.size 24 [.int .i64 m, .slice A n c, .slice B n2 d] := ((Row.new w _ _).alloc _).alloc _
  have h1 : Row (((w.alloc (.cells #[.int .i64 m, .slice A n c, .slice B n2 d] 24)).alloc (.cells #[.string ⟨#[]⟩] 9)).alloc (.cells #[.int .i64 0] 27)) (w.heap.size + 1) 9 [.string ⟨#[]⟩] := by
    have := (Row.new (w.alloc (.cells #[.int .i64 m, .slice A n c, .slice B n2 d] 24)) 9 [.string ⟨#[]⟩]).alloc (.cells #[.int .i64 0] 27)
    rwa [World.size_alloc] at this
  have h2 : Row (((w.alloc (.cells #[.int .i64 m, .slice A n c, .slice B n2 d] 24)).alloc (.cells #[.string ⟨#[]⟩] 9)).alloc (.cells #[.int .i64 0] 27)) (w.heap.size + 1 + 1) 27 [.int .i64 0] := by
    have := Row.new ((w.alloc (.cells #[.int .i64 m, .slice A n c, .slice B n2 d] 24)).alloc (.cells #[.string ⟨#[]⟩] 9)) 27 [.int .i64 0]
    rwa [World.size_alloc, World.size_alloc] at this
  obtain ⟨W3, hW3⟩ : ∃ W3, (((w.alloc (.cells #[.int .i64 m, .slice A n c, .slice B n2 d] 24)).alloc (.cells #[.string ⟨#[]⟩] 9)).alloc (.cells #[.int .i64 0] 27)) = W3 := ⟨_, rfl⟩
  rw [hW3] at hx3 h0 h1 h2
  have HW3 := hid hW3
  have HX3 := hid hx3
  have H0 := hid h0
  have H1 := hid h1
  have H2 := hid h2
  clear hW3 hx3 h0 h1 h2
  refine callsIn_of_wp_marks Tryz.func24 rfl trivial ?_ rfl
  simp only [Tryz.ntmps24, List.size_toArray, List.length_cons, List.length_nil, Nat.reduceAdd, Nat.reduceSub, Array.replicate_succ, Array.replicate_zero, List.push_toArray, List.append_toArray, List.nil_append, List.cons_append]
  gi_wp2_with fail
  rw [HW3.out]
  refine ⟨trivial, callsIn_wide.2 ((check_any _ m us ad l (k : Int) 0 20000 W3 (HV.out.ext HX3.out) hlen (hid ((mapB_iff m us ad).2 hM.out)) hl (hid (show (0 : Int) = _ by rw [if_pos (by simp), if_neg (by omega)]))).mono ?_)⟩
  rintro e w4 ⟨rfl, hx4⟩
  have R0 := hid (H0.out.ext hx4)
  have R1 := hid (H1.out.ext hx4)
  have R2 := hid (H2.out.ext hx4)
  have HX4 := hid (HX3.out.step hx4)
  clear hx4
  have f0 : w4.cell? ⟨w.heap.size, 0, none⟩ = some (.int .i64 m) := by rw [R0.out.cell]; rfl
  have f1 : w4.cell? ⟨w.heap.size, 1, none⟩ = some (.slice A n c) := by rw [R0.out.cell]; rfl
  have f2 : w4.cell? ⟨w.heap.size, 2, none⟩ = some (.slice B n2 d) := by rw [R0.out.cell]; rfl
  have hlt4 : w.heap.size + 1 + 1 < w4.heap.size := R2.out.lt
  have R0a := R0.out.alloc (.cells #[.string (Str l)] 9)
  have g0 : (w4.alloc (.cells #[.string (Str l)] 9)).cell? ⟨w.heap.size, 0, none⟩ = some (.int .i64 m) := by rw [R0a.cell]; rfl
  have g1 : (w4.alloc (.cells #[.string (Str l)] 9)).cell? ⟨w.heap.size, 1, none⟩ = some (.slice A n c) := by rw [R0a.cell]; rfl
  have g2 : (w4.alloc (.cells #[.string (Str l)] 9)).cell? ⟨w.heap.size, 2, none⟩ = some (.slice B n2 d) := by rw [R0a.cell]; rfl
  clear R0a f0 f1 f2
  gi_wp2_with fail
  refine ⟨trivial, callsIn_wide.2 ((after_any A n c B n2 d m (Str l) (k : Int) _).mono ?_)⟩
  rintro e w5 ⟨rfl, rfl⟩
  gi_wp2_with fail
  have L0 : Row ((((w4.alloc (.cells #[.string (Str l)] 9)).alloc (.cells #[.int .i64 m, .slice A n c, .slice B n2 d] 24)).alloc (.cells #[.string (Str l)] 9)).alloc (.cells #[.int .i64 (k : Int)] 3)) w4.heap.size 9 [.string (Str l)] := (((Row.new w4 _ _).alloc _).alloc _).alloc _
  have L1 : Row ((((w4.alloc (.cells #[.string (Str l)] 9)).alloc (.cells #[.int .i64 m, .slice A n c, .slice B n2 d] 24)).alloc (.cells #[.string (Str l)] 9)).alloc (.cells #[.int .i64 (k : Int)] 3)) (w4.heap.size + 1) 24 [.int .i64 m, .slice A n c, .slice B n2 d] := by
    have := ((Row.new (w4.alloc (.cells #[.string (Str l)] 9)) 24 [.int .i64 m, .slice A n c, .slice B n2 d]).alloc (.cells #[.string (Str l)] 9)).alloc (.cells #[.int .i64 (k : Int)] 3)
    rwa [World.size_alloc] at this
  have L2 : Row ((((w4.alloc (.cells #[.string (Str l)] 9)).alloc (.cells #[.int .i64 m, .slice A n c, .slice B n2 d] 24)).alloc (.cells #[.string (Str l)] 9)).alloc (.cells #[.int .i64 (k : Int)] 3)) (w4.heap.size + 1 + 1) 9 [.string (Str l)] := by
    have := (Row.new ((w4.alloc (.cells #[.string (Str l)] 9)).alloc (.cells #[.int .i64 m, .slice A n c, .slice B n2 d] 24)) 9 [.string (Str l)]).alloc (.cells #[.int .i64 (k : Int)] 3)
    rwa [World.size_alloc, World.size_alloc] at this
  have L3 : Row ((((w4.alloc (.cells #[.string (Str l)] 9)).alloc (.cells #[.int .i64 m, .slice A n c, .slice B n2 d] 24)).alloc (.cells #[.string (Str l)] 9)).alloc (.cells #[.int .i64 (k : Int)] 3)) (w4.heap.size + 1 + 1 + 1) 3 [.int .i64 (k : Int)] := by
    have := Row.new (((w4.alloc (.cells #[.string (Str l)] 9)).alloc (.cells #[.int .i64 m, .slice A n c, .slice B n2 d] 24)).alloc (.cells #[.string (Str l)] 9)) 3 [.int .i64 (k : Int)]
    rwa [World.size_alloc, World.size_alloc, World.size_alloc] at this
  have hx5 : Ext w4 ((((w4.alloc (.cells #[.string (Str l)] 9)).alloc (.cells #[.int .i64 m, .slice A n c, .slice B n2 d] 24)).alloc (.cells #[.string (Str l)] 9)).alloc (.cells #[.int .i64 (k : Int)] 3)) := ((((Ext.rfl' w4).alloc' _).alloc' _).alloc' _).alloc' _
  obtain ⟨W5, hW5⟩ : ∃ W5, ((((w4.alloc (.cells #[.string (Str l)] 9)).alloc (.cells #[.int .i64 m, .slice A n c, .slice B n2 d] 24)).alloc (.cells #[.string (Str l)] 9)).alloc (.cells #[.int .i64 (k : Int)] 3)) = W5 := ⟨_, rfl⟩
  have hsz5 : W5.heap.size = w4.heap.size + 1 + 1 + 1 + 1 := by rw [← hW5]; simp
  rw [hW5] at L0 L1 L2 L3 hx5
  rw [hW5]
  have HX5 := HX4.out.step hx5
  have R15 := R1.out.ext hx5
  have R25 := R2.out.ext hx5
  have htx : K.txt (K.numL l) = l := (K.txt_numL l hl.out).1
  have hfx : K.fits (K.numL l) := (K.txt_numL l hl.out).2
  obtain ⟨x, hxe⟩ : ∃ x, K.numL l = x := ⟨_, rfl⟩
  rw [hxe] at htx hfx
  clear g0 g1 g2 hW5
  refine wpIn_rangeFunc_ownF (F := Fence.wide) rfl (by omega) (gf := 108) (lb := #[.pointer (some ⟨w4.heap.size + 1 + 1, 0, none⟩), .pointer (some ⟨w4.heap.size + 1 + 1 + 1, 0, none⟩), .pointer (some ⟨w4.heap.size + 1, 0, none⟩)]) rfl trivial (enters_of Tryz.func108 (by kernel_rfl) rfl)
    (after_stops 8 (by omega) (w4.heap.size + 1 + 1) (w4.heap.size + 1 + 1 + 1) (w4.heap.size + 1) k x m us ad A n c B n2 d w W5 HV.out hM hfx HT.out hk HX5 (by rw [L2.cell, htx]; rfl) (by rw [L3.cell]; rfl) L1 L2.lt L3.lt)
    KeptM.t (fun W l o o' h1 h2 h3 h4 => ⟨belowK_b (w := W5) HX5.size W l o o' h1 h2 h3 h4, (grownBy_putObj' W l o').block _ (by have := HX5.size; have := (Array.getElem?_eq_some_iff.1 h2).1; omega) (by intro e; cases e; omega)⟩) (Below.refl _ _) (fun _ => rfl)
    (fun pre W => (∀ t ∈ pre, t.1 ≠ none) ∧ Row W w4.heap.size 9 [.string (Str (K.txt (lastO x (pre.map (·.1)))))] ∧ Row W (w.heap.size + 1) 9 [.string ⟨#[]⟩] ∧ Row W (w.heap.size + 1 + 1) 27 [.int .i64 0] ∧ Ext w W)
    (fun c pre W => c = .ret ∧ (∃ t ∈ pre, t.1 = none) ∧ Row W (w.heap.size + 1) 9 [.string ⟨#[]⟩] ∧ Row W (w.heap.size + 1 + 1) 27 [.int .i64 3] ∧ Ext w W)
    (fun s W W' row hs hg hr => ⟨hs.1, hs.2.1.grown hg hr, hs.2.2.1.grown hg hr, hs.2.2.2.1.grown hg hr, ext_grown hs.2.2.2.2 HX5.size hg hr⟩)
    (fun c s W W' row hs hg hr => ⟨hs.1, hs.2.1, hs.2.2.1.grown hg hr, hs.2.2.2.1.grown hg hr, ext_grown hs.2.2.2.2 HX5.size hg hr⟩)
    ⟨by simp, by rw [show lastO x (List.map (fun (x : Item) => x.1) []) = x from rfl, htx]; exact L0, R15, R25, HX5⟩
    (fun t => { tmps := #[.agg #[.int .i64 m, .slice A n c, .slice B n2 d], .string (Str l), .int .i64 (k : Int), .pointer (some ⟨w.heap.size, 0, none⟩), undef, undef, .pointer (some ⟨w.heap.size + 1, 0, none⟩), .pointer (some ⟨w.heap.size + 1 + 1, 0, none⟩), .int .i64 0, .pointer (some ⟨w4.heap.size, 0, none⟩), .string (strO t.1), .int .i64 (codeO t.1), .agg #[.int .i64 m, .slice A n c, .slice B n2 d], .string (Str l), .int .i64 (k : Int), .int .i64 0, .int .i64 0, .bool false, undef, .string (Str l), .agg #[.int .i64 m, .slice A n c, .slice B n2 d], .string (Str l), .int .i64 (k : Int), .func (.func 108) #[] #[.pointer (some ⟨w4.heap.size + 1 + 1, 0, none⟩), .pointer (some ⟨w4.heap.size + 1 + 1 + 1, 0, none⟩), .pointer (some ⟨w4.heap.size + 1, 0, none⟩)], .string (strO t.1), .int .i64 (codeO t.1), undef, undef, undef, undef, undef], defers := [] }) ?assign ?body ?done ?stop
  case assign =>
    intro l x W K hK
    dsimp only [encI]
    gi_wp2
    exact hK
  case body =>
    rintro lp pre t W ⟨hno, rL, rs, re, hex⟩ _
    have cL : W.cell? ⟨w4.heap.size, 0, none⟩ = some _ := rL.cell 0
    have fL := rL.free 0
    have cs : W.cell? ⟨w.heap.size + 1, 0, none⟩ = some _ := rs.cell 0
    have fs := rs.free 0
    have ce : W.cell? ⟨w.heap.size + 1 + 1, 0, none⟩ = some _ := re.cell 0
    have fe := re.free 0
    have HNO := hid hno
    have RL := hid rL
    have RS := hid rs
    have RE := hid re
    have HEX := hid hex
    have HX5' := HX5.size
    clear hno rL rs re hex
    rcases h : t.1 with _ | y
    · rw [show strO none = ⟨#[]⟩ from rfl, show codeO none = 3 from rfl]
      have HT1 := hid h
      clear h
      gi_wp2
      refine ⟨(KeepsOthers.setCell _ _ _).trans (KeepsOthers.setCell _ _ _), rfl, ⟨t, by simp, HT1.out⟩, ?_, ?_, ?_⟩
      · exact Row.far (RS.out.set 0 _) (by show w.heap.size + 1 ≠ w.heap.size + 1 + 1; omega) _
      · exact (RE.out.far (by show w.heap.size + 1 + 1 ≠ w.heap.size + 1; omega) _).set 0 _
      · exact (HEX.out.set' (by show w.heap.size ≤ w.heap.size + 1; omega) _).set' (by show w.heap.size ≤ w.heap.size + 1 + 1; omega) _
    · rw [show strO (some y) = Str (K.txt y) from rfl, show codeO (some y) = 0 from rfl]
      have HT1 := hid h
      clear h
      gi_wp2
      refine ⟨KeepsOthers.setCell _ _ _, ⟨(Below.refl w.heap.size W).setCell (p := ⟨w4.heap.size, 0, none⟩) (by show w.heap.size ≤ w4.heap.size; omega) _, ?_⟩, ?_, ?_, ?_, ?_, ?_⟩
      · exact Below.heap_setCell W ⟨w4.heap.size, 0, none⟩ _ _ (by show w4.heap.size + 1 ≠ w4.heap.size; omega)
      · intro u hu
        rcases List.mem_append.1 hu with h | h
        · exact HNO.out u h
        · rw [List.mem_singleton.1 h, HT1.out]; simp
      · rw [List.map_append]
        show Row _ _ _ [.string (Str (K.txt (lastO x (List.map (fun (x : Item) => x.1) pre ++ [t.1]))))]
        rw [HT1.out, lastO_snoc]
        exact RL.out.set 0 _
      · exact RS.out.far (by show w.heap.size + 1 ≠ w4.heap.size; omega) _
      · exact RE.out.far (by show w.heap.size + 1 + 1 ≠ w4.heap.size; omega) _
      · exact HEX.out.set' (by show w.heap.size ≤ w4.heap.size; omega) _
  case done =>
    rintro D xs W hD hS ⟨hno, rL, rs, re, hex⟩ hK
    have hno2 : none ∉ seqO m us ad k x := by
      rw [← hS]
      intro h
      obtain ⟨t, ht, e⟩ := List.mem_map.1 h
      exact hno t ht e
    have hrun := (seq_run m us ad k x).1 hno2
    rw [← hS] at hrun
    obtain ⟨z, hz⟩ : ∃ z, lastO x (xs.map (·.1)) = z := ⟨_, rfl⟩
    rw [hz] at hrun rL
    have HRUN := hid hrun
    have cL : W.cell? ⟨w4.heap.size, 0, none⟩ = some (.string (Str (K.txt z))) := rL.cell 0
    have cs : W.cell? ⟨w.heap.size + 1, 0, none⟩ = some (.string ⟨#[]⟩) := rs.cell 0
    have fs := rs.free 0
    have ce : W.cell? ⟨w.heap.size + 1 + 1, 0, none⟩ = some (.int .i64 0) := re.cell 0
    have fe := re.free 0
    have RS := hid rs
    have RE := hid re
    have HEX := hid hex
    have HXS := HX5.size
    clear hno hno2 rL rs re hex hrun hz hS
    gi_wp2
    have hK' := ((KeepsOthers.setCell W ⟨w.heap.size + 1, 0, none⟩ (.string (Str (K.txt z)))).trans (KeepsOthers.setCell _ ⟨w.heap.size + 1 + 1, 0, none⟩ (.int .i64 0))).same D _ hK rfl
    have r1 : Row ((W.setCell ⟨w.heap.size + 1, 0, none⟩ (.string (Str (K.txt z)))).setCell ⟨w.heap.size + 1 + 1, 0, none⟩ (.int .i64 0)) (w.heap.size + 1) 9 [.string (Str (K.txt z))] := Row.far (RS.out.set 0 _) (by show w.heap.size + 1 ≠ w.heap.size + 1 + 1; omega) _
    have r2 : Row ((W.setCell ⟨w.heap.size + 1, 0, none⟩ (.string (Str (K.txt z)))).setCell ⟨w.heap.size + 1 + 1, 0, none⟩ (.int .i64 0)) (w.heap.size + 1 + 1) 27 [.int .i64 0] := (RE.out.far (by show w.heap.size + 1 + 1 ≠ w.heap.size + 1; omega) _).set 0 _
    refine ⟨by simp, .inl ⟨_, _, rfl, run_takeDeferred hK', ?_⟩⟩
    have hc1 := cell_kept (r1.cell 0) (grownBy_putObj' _ D (.deferred none)) (fun r e => by cases e; exact ⟨_, hK', rfl⟩)
    have hc2 := cell_kept (r2.cell 0) (grownBy_putObj' _ D (.deferred none)) (fun r e => by cases e; exact ⟨_, hK', rfl⟩)
    refine ⟨.tuple #[.string (Str (K.txt z)), .int .i64 0], ?_, ?_, ?_⟩
    · simp [results, Tryz.f24, go_sem, hc1, hc2]
    · rw [hxe, HRUN.out]; rfl
    · exact ((HEX.out.set' (by show w.heap.size ≤ w.heap.size + 1; omega) _).set' (by show w.heap.size ≤ w.heap.size + 1 + 1; omega) _).trans (belowK_b (w := W5) HXS _ D _ _ hD hK' rfl rfl)
  case stop =>
    rintro D c pre W hD hS ⟨rfl, ⟨t, htm, hte⟩, rs, re, hex⟩ hK
    have hin : none ∈ seqO m us ad k x := hS.subset (by rw [← hte]; exact List.mem_map_of_mem htm)
    have hrun := (seq_run m us ad k x).2 hin
    have HRUN := hid hrun
    have cs : W.cell? ⟨w.heap.size + 1, 0, none⟩ = some (.string ⟨#[]⟩) := rs.cell 0
    have ce : W.cell? ⟨w.heap.size + 1 + 1, 0, none⟩ = some (.int .i64 3) := re.cell 0
    have HEX := hid hex
    have HXS := HX5.size
    clear hrun hin hte htm hS rs re hex
    gi_wp2
    refine ⟨by simp, .inl ⟨_, _, rfl, run_takeDeferred hK, ?_⟩⟩
    have hc1 := cell_kept cs (grownBy_putObj' _ D (.deferred none)) (fun r e => by cases e; exact ⟨_, hK, rfl⟩)
    have hc2 := cell_kept ce (grownBy_putObj' _ D (.deferred none)) (fun r e => by cases e; exact ⟨_, hK, rfl⟩)
    refine ⟨.tuple #[.string ⟨#[]⟩, .int .i64 3], ?_, ?_, ?_⟩
    · simp [results, Tryz.f24, go_sem, hc1, hc2]
    · rw [hxe, HRUN.out]; rfl
    · exact HEX.out.trans (belowK_b (w := W5) HXS _ D _ _ hD hK rfl rfl)
theorem run_ok (v : Value) (m : Int) (us ad : List Int) (l : List UInt8) (k : Nat) (w : World) (hv : MapV w v m us ad) (hM : Hid (mapP m us ad)) (hl : Hid (K.validL l = true)) (hk : k ≤ 20000) (ht : Tab w) :
    Calls Tryz.prog 24 #[v, .string (Str l), .int .i64 (k : Int)] w (OptPost (runO m us ad k (K.numL l)) w) :=
  callsIn_wide.1 (runIn_ok v m us ad l k w hv hM hl hk ht)
set_option maxRecDepth 100000 in
set_option maxHeartbeats 1600000 in
theorem run_bad (v : Value) (m : Int) (us ad : List Int) (l : List UInt8) (k : Int) (w : World) (hv : MapV w v m us ad) (hlen : l.length ≤ 140737488351232) {b1 b2 : Bool} (hb1 : Hid (mapB m us ad = b1)) (hb2 : Hid (K.validL l = b2))
    {c : Int} (hc : Hid (c = if b1 = true ∧ b2 = true then (if k < 0 ∨ 20000 < k then 2 else 0) else 1)) (hc0 : (c == 0) = false) :
    Calls Tryz.prog 24 #[v, .string (Str l), .int .i64 k] w (fun e w' => e = .returned (.tuple #[.string ⟨#[]⟩, .int .i64 c]) ∧ Ext w w') := by
  have HV := hid hv
  obtain ⟨A, n, c', B, n2, d, rfl, -⟩ := hv
  have hx3 : Ext w (((w.alloc (.cells #[.int .i64 m, .slice A n c', .slice B n2 d] 24)).alloc (.cells #[.string ⟨#[]⟩] 9)).alloc (.cells #[.int .i64 0] 27)) := (((Ext.rfl' w).alloc' _).alloc' _).alloc' _
  have h0 : Row (((w.alloc (.cells #[.int .i64 m, .slice A n c', .slice B n2 d] 24)).alloc (.cells #[.string ⟨#[]⟩] 9)).alloc (.cells #[.int .i64 0] 27)) w.heap.size 24 [.int .i64 m, .slice A n c', .slice B n2 d] := ((Row.new w _ _).alloc _).alloc _
  have h1 : Row (((w.alloc (.cells #[.int .i64 m, .slice A n c', .slice B n2 d] 24)).alloc (.cells #[.string ⟨#[]⟩] 9)).alloc (.cells #[.int .i64 0] 27)) (w.heap.size + 1) 9 [.string ⟨#[]⟩] := by
    have := (Row.new (w.alloc (.cells #[.int .i64 m, .slice A n c', .slice B n2 d] 24)) 9 [.string ⟨#[]⟩]).alloc (.cells #[.int .i64 0] 27)
    rwa [World.size_alloc] at this
  have h2 : Row (((w.alloc (.cells #[.int .i64 m, .slice A n c', .slice B n2 d] 24)).alloc (.cells #[.string ⟨#[]⟩] 9)).alloc (.cells #[.int .i64 0] 27)) (w.heap.size + 1 + 1) 27 [.int .i64 0] := by
    have := Row.new ((w.alloc (.cells #[.int .i64 m, .slice A n c', .slice B n2 d] 24)).alloc (.cells #[.string ⟨#[]⟩] 9)) 27 [.int .i64 0]
    rwa [World.size_alloc, World.size_alloc] at this
  obtain ⟨W3, hW3⟩ : ∃ W3, (((w.alloc (.cells #[.int .i64 m, .slice A n c', .slice B n2 d] 24)).alloc (.cells #[.string ⟨#[]⟩] 9)).alloc (.cells #[.int .i64 0] 27)) = W3 := ⟨_, rfl⟩
  rw [hW3] at hx3 h0 h1 h2
  have HW3 := hid hW3
  have HX3 := hid hx3
  have H1 := hid h1
  have H2 := hid h2
  have f0 : W3.cell? ⟨w.heap.size, 0, none⟩ = some (.int .i64 m) := by rw [h0.cell]; rfl
  have f1 : W3.cell? ⟨w.heap.size, 1, none⟩ = some (.slice A n c') := by rw [h0.cell]; rfl
  have f2 : W3.cell? ⟨w.heap.size, 2, none⟩ = some (.slice B n2 d) := by rw [h0.cell]; rfl
  clear hW3 hx3 h0 h1 h2
  have hcn : (c != 0) = true := by rw [bne_iff_ne]; exact beq_eq_false_iff_ne.1 hc0
  go_enter Tryz.func24, Tryz.ntmps24
  go_upto_region 1 with fail
  rw [HW3.out]
  go_wp2_with fail
  refine (check_any _ m us ad l k 0 20000 W3 (HV.out.ext HX3.out) hlen hb1 hb2 hc).mono ?_
  rintro e w4 ⟨rfl, hx4⟩
  have R1 := hid (H1.out.ext hx4)
  have R2 := hid (H2.out.ext hx4)
  have HX4 := hid (HX3.out.step hx4)
  clear hx4 f0 f1 f2
  have cs : w4.cell? ⟨w.heap.size + 1, 0, none⟩ = some (.string ⟨#[]⟩) := R1.out.cell 0
  have fs := R1.out.free 0
  have ce : w4.cell? ⟨w.heap.size + 1 + 1, 0, none⟩ = some (.int .i64 0) := R2.out.cell 0
  have fe := R2.out.free 0
  have hfin : Hid (Ext w ((w4.setCell ⟨w.heap.size + 1, 0, none⟩ (.string ⟨#[]⟩)).setCell ⟨w.heap.size + 1 + 1, 0, none⟩ (.int .i64 c))) := hid ((HX4.out.set' (by show w.heap.size ≤ w.heap.size + 1; omega) _).set' (by show w.heap.size ≤ w.heap.size + 1 + 1; omega) _)
  go_wp2
  refine bodyPost_ret (v := .tuple #[.string ⟨#[]⟩, .int .i64 c]) (by simp [results, Tryz.results24, go_sem, cs, ce]) rfl ⟨rfl, hfin.out⟩
set_option maxRecDepth 100000 in
set_option maxHeartbeats 800000 in
theorem step_ok (v : Value) (m : Int) (us ad : List Int) (l : List UInt8) (w : World) (hv : MapV w v m us ad) (hM : Hid (mapP m us ad)) (hl : Hid (K.validL l = true)) (ht : Tab w) :
    Calls Tryz.prog 124 #[v, .string (Str l)] w (OptPost (runO m us ad 1 (K.numL l)) w) := by
  have HV := hid hv
  obtain ⟨A, n, cc, B, n2, d, rfl, -⟩ := hv
  have hx : Ext w (w.alloc (.cells #[.int .i64 m, .slice A n cc, .slice B n2 d] 24)) := (Ext.rfl' w).alloc' _
  obtain ⟨f0, f1, f2, -⟩ := three_facts (Ext.rfl' (w.alloc (.cells #[.int .i64 m, .slice A n cc, .slice B n2 d] 24))) rfl
  obtain ⟨W1, hW1⟩ : ∃ W1, w.alloc (.cells #[.int .i64 m, .slice A n cc, .slice B n2 d] 24) = W1 := ⟨_, rfl⟩
  rw [hW1] at hx f0 f1 f2
  have HX := hid hx
  have HW1 := hid hW1
  have hr := run_ok _ m us ad l 1 W1 (HV.out.ext hx) hM hl (by omega) (ht.ext hx)
  obtain ⟨o, ho⟩ : ∃ o, runO m us ad 1 (K.numL l) = o := ⟨_, rfl⟩
  rw [ho] at hr ⊢
  have HR := hid hr
  clear hW1 hx hr ho
  go_enter Tryz.func124, Tryz.ntmps124
  go_upto_region 1 with fail
  rw [HW1.out]
  go_wp2_with fail
  refine HR.out.mono ?_
  rintro e w2 ⟨rfl, hx2⟩
  have HY := hid (HX.out.step hx2)
  clear hx2
  go_wp2
  go_ret2
  exact ⟨rfl, HY.out⟩
end Go.Proofs.YtimokpcopeldfaaGreatDoor
/- step.Orbit -/
namespace Go.Proofs.YtimokpcopeldfaaGreatDoor
open Go.RowKit Go.Proofs
attribute [local go_sem] Oper.semAt_some
theorem infoS : (Tryz.prog.info? 9).map (fun i => (i.zero, i.size, i.bytes)) = some (some (.string ⟨#[]⟩), 1, 16) := by kernel_rfl
/-- texts as values -/
abbrev Txs (l : List (Option Int)) : List Value := l.map fun o => Value.string (strO o)
/-- an orbit's numbers, or ErrSize -/
def OrbPost (s : List (Option Int)) (x : Int) (w : World) (e : Ending) (w' : World) : Prop :=
  (none ∉ s → ∃ A k c, e = .returned (.tuple #[.slice A k c, .int .i64 0]) ∧ k = s.length + 1 ∧ k ≤ c ∧ Rd w' A (Txs (some x :: s))) ∧ (none ∈ s → e = .returned (.tuple #[.slice none 0 0, .int .i64 3])) ∧ Ext w w'
theorem Row.boxed {W : World} {g : Nat} {t : TypeId} {v : Value} (h : Row W g t [v]) : Boxed W g t v := h
theorem Boxed.row {W : World} {g : Nat} {t : TypeId} {v : Value} (h : Boxed W g t v) : Row W g t [v] := h
theorem Row.not_own {W : World} {g : Nat} {t e : TypeId} {vs xs : List Value} {base size k : Nat} {v : Value} (h : Row W g t vs) (hte : t ≠ e) (ho : W.ownsRow base e size v k xs) : v.ownBlock ≠ some g := by
  rcases ho.2 with ⟨rfl, -⟩ | ⟨b, cap, cur, rfl, -, hb, -⟩
  · simp [Value.ownBlock]
  · intro e'
    have e2 : b = g := by simpa [Value.ownBlock] using e'
    subst e2
    have h' : W.heap[b]? = some (.cells vs.toArray t (0, 0)) := h
    rw [hb] at h'
    cases h'
    exact hte rfl
theorem Row.appended {W w1 : World} {g : Nat} {t e : TypeId} {vs xs : List Value} {base size k : Nat} {v : Value} {tmp : Obj} (h : Row W g t vs) (hte : t ≠ e) (ho : W.ownsRow base e size v k xs) (hg : (W.alloc tmp).grownBy w1 v.ownBlock) : Row w1 g t vs :=
  (hg.block g (by have := h.lt; rw [World.size_alloc]; omega) (fun e' => h.not_own hte ho e'.symm)).trans (h.alloc tmp)
theorem Txs_snoc (l : List (Option Int)) (o : Option Int) : Txs (l ++ [o]) = Txs l ++ [.string (strO o)] := by simp [Txs]
set_option maxRecDepth 100000 in
set_option maxHeartbeats 3200000 in
theorem orbit_in (v : Value) (m : Int) (us ad : List Int) (l : List UInt8) (k : Nat) (w : World) (hv : MapV w v m us ad) (hM : Hid (mapP m us ad)) (hl : Hid (K.validL l = true)) (hk : k ≤ 1000) (ht : Tab w) :
    CallsIn Fence.wide 9 Tryz.prog 84 #[v, .string (Str l), .int .i64 (k : Int)] w (OrbPost (seqO m us ad k (K.numL l)) (K.numL l) w) := by
  have HT := hid ht
  obtain ⟨i0, hi, hz0, hz1, hz2⟩ := info_parts infoS
  have HV := hid hv
  have hlen := len_of (valid_len hl.out)
  obtain ⟨A, n, c, B, n2, d, rfl, -⟩ := hv
  have hx3 : Ext w (((w.alloc (.cells #[.int .i64 m, .slice A n c, .slice B n2 d] 24)).alloc (.cells #[.slice none 0 0] 66)).alloc (.cells #[.int .i64 0] 27)) := (((Ext.rfl' w).alloc' _).alloc' _).alloc' _
  have h0 : Row (((w.alloc (.cells #[.int .i64 m, .slice A n c, .slice B n2 d] 24)).alloc (.cells #[.slice none 0 0] 66)).alloc (.cells #[.int .i64 0] 27)) w.heap.size 24 [.int .i64 m, .slice A n c, .slice B n2 d] := ((Row.new w _ _).alloc _).alloc _
  have h1 : Row (((w.alloc (.cells #[.int .i64 m, .slice A n c, .slice B n2 d] 24)).alloc (.cells #[.slice none 0 0] 66)).alloc (.cells #[.int .i64 0] 27)) (w.heap.size + 1) 66 [.slice none 0 0] := by
    have := (Row.new (w.alloc (.cells #[.int .i64 m, .slice A n c, .slice B n2 d] 24)) 66 [.slice none 0 0]).alloc (.cells #[.int .i64 0] 27)
    rwa [World.size_alloc] at this
  have h2 : Row (((w.alloc (.cells #[.int .i64 m, .slice A n c, .slice B n2 d] 24)).alloc (.cells #[.slice none 0 0] 66)).alloc (.cells #[.int .i64 0] 27)) (w.heap.size + 1 + 1) 27 [.int .i64 0] := by
    have := Row.new ((w.alloc (.cells #[.int .i64 m, .slice A n c, .slice B n2 d] 24)).alloc (.cells #[.slice none 0 0] 66)) 27 [.int .i64 0]
    rwa [World.size_alloc, World.size_alloc] at this
  obtain ⟨W3, hW3⟩ : ∃ W3, (((w.alloc (.cells #[.int .i64 m, .slice A n c, .slice B n2 d] 24)).alloc (.cells #[.slice none 0 0] 66)).alloc (.cells #[.int .i64 0] 27)) = W3 := ⟨_, rfl⟩
  rw [hW3] at hx3 h0 h1 h2
  have HW3 := hid hW3
  have HX3 := hid hx3
  have H0 := hid h0
  have H1 := hid h1
  have H2 := hid h2
  clear hW3 hx3 h0 h1 h2
  refine callsIn_of_wp_marks Tryz.func84 rfl trivial ?_ rfl
  simp only [Tryz.ntmps84, List.size_toArray, List.length_cons, List.length_nil, Nat.reduceAdd, Nat.reduceSub, Array.replicate_succ, Array.replicate_zero, List.push_toArray, List.append_toArray, List.nil_append, List.cons_append]
  gi_wp2_with fail
  rw [HW3.out]
  refine ⟨trivial, callsIn_wide.2 ((check_any _ m us ad l (k : Int) 0 1000 W3 (HV.out.ext HX3.out) hlen (hid ((mapB_iff m us ad).2 hM.out)) hl (hid (show (0 : Int) = _ by rw [if_pos (by simp), if_neg (by omega)]))).mono ?_)⟩
  rintro e w4 ⟨rfl, hx4⟩
  have R0 := hid (H0.out.ext hx4)
  have R1 := hid (H1.out.ext hx4)
  have R2 := hid (H2.out.ext hx4)
  have HX4 := hid (HX3.out.step hx4)
  clear hx4
  have hlt4 : w.heap.size + 1 + 1 < w4.heap.size := R2.out.lt
  have R0a := (R0.out.alloc (.cells #[.string (Str l)] 9)).alloc (.cells #[.slice (some ⟨w4.heap.size, 0, none⟩) 1 1] 66)
  have g0 : ((w4.alloc (.cells #[.string (Str l)] 9)).alloc (.cells #[.slice (some ⟨w4.heap.size, 0, none⟩) 1 1] 66)).cell? ⟨w.heap.size, 0, none⟩ = some (.int .i64 m) := by rw [R0a.cell]; rfl
  have g1 : ((w4.alloc (.cells #[.string (Str l)] 9)).alloc (.cells #[.slice (some ⟨w4.heap.size, 0, none⟩) 1 1] 66)).cell? ⟨w.heap.size, 1, none⟩ = some (.slice A n c) := by rw [R0a.cell]; rfl
  have g2 : ((w4.alloc (.cells #[.string (Str l)] 9)).alloc (.cells #[.slice (some ⟨w4.heap.size, 0, none⟩) 1 1] 66)).cell? ⟨w.heap.size, 2, none⟩ = some (.slice B n2 d) := by rw [R0a.cell]; rfl
  clear R0a
  gi_wp2_with fail
  refine ⟨trivial, callsIn_wide.2 ((after_any A n c B n2 d m (Str l) (k : Int) _).mono ?_)⟩
  rintro e w5 ⟨rfl, rfl⟩
  gi_wp2_with fail
  obtain ⟨WA, hWA⟩ : ∃ WA, ((w4.alloc (.cells #[.string (Str l)] 9)).alloc (.cells #[.slice (some ⟨w4.heap.size, 0, none⟩) 1 1] 66)) = WA := ⟨_, rfl⟩
  have hszA : WA.heap.size = w4.heap.size + 1 + 1 := by rw [← hWA]; simp
  have own0 : WA.ownsRow w.heap.size 9 1 (.slice (some ⟨w4.heap.size, 0, none⟩) 1 1) 1 [.string (Str l)] := by
    rw [← hWA]
    exact (World.ownsRow_lit (base := w.heap.size) (e := 9) (size := 1) w4 #[.string (Str l)] 1 (by omega) (by unfold maxLen; omega) rfl).alloc _
  have bx0 : Row WA (w4.heap.size + 1) 66 [.slice (some ⟨w4.heap.size, 0, none⟩) 1 1] := by
    have := Row.new (w4.alloc (.cells #[.string (Str l)] 9)) 66 [.slice (some ⟨w4.heap.size, 0, none⟩) 1 1]
    rw [World.size_alloc] at this
    rwa [← hWA]
  have hxA : Ext w4 WA := by rw [← hWA]; exact ((Ext.rfl' w4).alloc' _).alloc' _
  have L1 : Row (((WA.alloc (.cells #[.int .i64 m, .slice A n c, .slice B n2 d] 24)).alloc (.cells #[.string (Str l)] 9)).alloc (.cells #[.int .i64 (k : Int)] 3)) (w4.heap.size + 1 + 1) 24 [.int .i64 m, .slice A n c, .slice B n2 d] := by
    have := ((Row.new WA 24 [.int .i64 m, .slice A n c, .slice B n2 d]).alloc (.cells #[.string (Str l)] 9)).alloc (.cells #[.int .i64 (k : Int)] 3)
    rwa [hszA] at this
  have L2 : Row (((WA.alloc (.cells #[.int .i64 m, .slice A n c, .slice B n2 d] 24)).alloc (.cells #[.string (Str l)] 9)).alloc (.cells #[.int .i64 (k : Int)] 3)) (w4.heap.size + 1 + 1 + 1) 9 [.string (Str l)] := by
    have := (Row.new (WA.alloc (.cells #[.int .i64 m, .slice A n c, .slice B n2 d] 24)) 9 [.string (Str l)]).alloc (.cells #[.int .i64 (k : Int)] 3)
    rwa [World.size_alloc, hszA] at this
  have L3 : Row (((WA.alloc (.cells #[.int .i64 m, .slice A n c, .slice B n2 d] 24)).alloc (.cells #[.string (Str l)] 9)).alloc (.cells #[.int .i64 (k : Int)] 3)) (w4.heap.size + 1 + 1 + 1 + 1) 3 [.int .i64 (k : Int)] := by
    have := Row.new ((WA.alloc (.cells #[.int .i64 m, .slice A n c, .slice B n2 d] 24)).alloc (.cells #[.string (Str l)] 9)) 3 [.int .i64 (k : Int)]
    rwa [World.size_alloc, World.size_alloc, hszA] at this
  have bx5 := ((bx0.alloc (.cells #[.int .i64 m, .slice A n c, .slice B n2 d] 24)).alloc (.cells #[.string (Str l)] 9)).alloc (.cells #[.int .i64 (k : Int)] 3)
  have own5 := ((own0.alloc (.cells #[.int .i64 m, .slice A n c, .slice B n2 d] 24)).alloc (.cells #[.string (Str l)] 9)).alloc (.cells #[.int .i64 (k : Int)] 3)
  have hx5 : Ext w4 (((WA.alloc (.cells #[.int .i64 m, .slice A n c, .slice B n2 d] 24)).alloc (.cells #[.string (Str l)] 9)).alloc (.cells #[.int .i64 (k : Int)] 3)) := ((hxA.alloc' _).alloc' _).alloc' _
  rw [hWA]
  obtain ⟨W5, hW5⟩ : ∃ W5, (((WA.alloc (.cells #[.int .i64 m, .slice A n c, .slice B n2 d] 24)).alloc (.cells #[.string (Str l)] 9)).alloc (.cells #[.int .i64 (k : Int)] 3)) = W5 := ⟨_, rfl⟩
  rw [hW5] at L1 L2 L3 hx5 bx5 own5
  rw [hW5]
  have HX5 := HX4.out.step hx5
  have R15 := R1.out.ext hx5
  have R25 := R2.out.ext hx5
  have htx : K.txt (K.numL l) = l := (K.txt_numL l hl.out).1
  have hfx : K.fits (K.numL l) := (K.txt_numL l hl.out).2
  obtain ⟨x, hxe⟩ : ∃ x, K.numL l = x := ⟨_, rfl⟩
  rw [hxe] at htx hfx
  clear g0 g1 g2 hW5 own0 bx0 hxA hWA
  refine wpIn_rangeFunc_ownG (F := Fence.wide) rfl (by omega) (gf := 108) (lb := #[.pointer (some ⟨w4.heap.size + 1 + 1 + 1, 0, none⟩), .pointer (some ⟨w4.heap.size + 1 + 1 + 1 + 1, 0, none⟩), .pointer (some ⟨w4.heap.size + 1 + 1, 0, none⟩)]) rfl trivial (enters_of Tryz.func108 (by kernel_rfl) rfl)
    (after_stops 8 (by omega) (w4.heap.size + 1 + 1 + 1) (w4.heap.size + 1 + 1 + 1 + 1) (w4.heap.size + 1 + 1) k x m us ad A n c B n2 d w W5 HV.out hM hfx HT.out (by omega) HX5 (by rw [L2.cell, htx]; rfl) (by rw [L3.cell]; rfl) L1 L2.lt L3.lt)
    KeptM.t (fun W l o o' h1 h2 h3 h4 => ⟨belowK_b (w := W5) HX5.size W l o o' h1 h2 h3 h4, (grownBy_putObj' W l o').block _ (by have := L1.lt; have := (Array.getElem?_eq_some_iff.1 h2).1; omega) (by intro e; have := L1.lt; cases e; omega)⟩) (Below.refl _ _) (fun _ => rfl)
    (fun pre W => (∀ t ∈ pre, t.1 ≠ none) ∧ (∃ v, Boxed W (w4.heap.size + 1) 66 v ∧ W.ownsRow w.heap.size 9 1 v (pre.length + 1) (Txs (some x :: pre.map (·.1)))) ∧ Row W (w4.heap.size + 1 + 1) 24 [.int .i64 m, .slice A n c, .slice B n2 d] ∧ Row W (w.heap.size + 1) 66 [.slice none 0 0] ∧ Row W (w.heap.size + 1 + 1) 27 [.int .i64 0] ∧ Ext w W)
    (fun c pre W => c = .ret ∧ (∃ t ∈ pre, t.1 = none) ∧ Row W (w.heap.size + 1) 66 [.slice none 0 0] ∧ Row W (w.heap.size + 1 + 1) 27 [.int .i64 3] ∧ Ext w W)
    (fun s W W' row hs hg hr => ⟨hs.1, by
      obtain ⟨v, b, o⟩ := hs.2.1
      exact ⟨v, Row.boxed (Row.grown (Boxed.row b) hg hr), o.kept hg (by
        rcases o.2 with ⟨rfl, -⟩ | ⟨g, cap, cur, rfl, -, hb, -⟩
        · exact .inl rfl
        · refine .inr (fun e => ?_)
          obtain ⟨-, ob, h1, h2⟩ := hr g e.symm
          rw [hb] at h1
          cases h1
          simp [Obj.isCells] at h2)⟩, hs.2.2.1.grown hg hr, hs.2.2.2.1.grown hg hr, hs.2.2.2.2.1.grown hg hr, ext_grown hs.2.2.2.2.2 HX5.size hg hr⟩)
    (fun c s W W' row hs hg hr => ⟨hs.1, hs.2.1, hs.2.2.1.grown hg hr, hs.2.2.2.1.grown hg hr, ext_grown hs.2.2.2.2 HX5.size hg hr⟩)
    ⟨by simp, ⟨_, Row.boxed bx5, by rw [show Txs (some x :: List.map (fun (x : Item) => x.1) []) = [.string (Str (K.txt x))] from rfl, htx]; exact own5⟩, L1, R15, R25, HX5⟩
    (fun t => { tmps := #[.agg #[.int .i64 m, .slice A n c, .slice B n2 d], .string (Str l), .int .i64 (k : Int), .pointer (some ⟨w.heap.size, 0, none⟩), undef, undef, .pointer (some ⟨w.heap.size + 1, 0, none⟩), .pointer (some ⟨w.heap.size + 1 + 1, 0, none⟩), .int .i64 0, .pointer (some ⟨w4.heap.size + 1, 0, none⟩), .string (strO t.1), .int .i64 (codeO t.1), .agg #[.int .i64 m, .slice A n c, .slice B n2 d], .string (Str l), .int .i64 (k : Int), .int .i64 0, .int .i64 0, .bool false, undef, .string (Str l), .slice (some ⟨w4.heap.size, 0, none⟩) 1 1, .agg #[.int .i64 m, .slice A n c, .slice B n2 d], .string (Str l), .int .i64 (k : Int), .func (.func 108) #[] #[.pointer (some ⟨w4.heap.size + 1 + 1 + 1, 0, none⟩), .pointer (some ⟨w4.heap.size + 1 + 1 + 1 + 1, 0, none⟩), .pointer (some ⟨w4.heap.size + 1 + 1, 0, none⟩)], .string (strO t.1), .int .i64 (codeO t.1), undef, undef, undef, undef, undef, undef, undef, undef], defers := [] }) ?assign ?body ?done ?stop
  case assign =>
    intro l x W K hK
    dsimp only [encI]
    gi_wp2
    exact hK
  case body =>
    rintro lp pre t W ⟨hno, ⟨v, hv, hrow⟩, rm, rs, re, hex⟩ hlt
    have cs : W.cell? ⟨w.heap.size + 1, 0, none⟩ = some _ := rs.cell 0
    have fs := rs.free 0
    have ce : W.cell? ⟨w.heap.size + 1 + 1, 0, none⟩ = some _ := re.cell 0
    have fe := re.free 0
    have HNO := hid hno
    have RM := hid rm
    have RS := hid rs
    have RE := hid re
    have HEX := hid hex
    have HX5' := HX5.size
    have HWS := hex.size
    clear hno rm rs re hex
    rcases h : t.1 with _ | y
    · rw [show strO none = ⟨#[]⟩ from rfl, show codeO none = 3 from rfl]
      have HT1 := hid h
      clear h hv hrow
      gi_wp2
      refine ⟨((KeepsOthers.setCell _ _ _).trans (KeepsOthers.setCell _ _ _)).from _, rfl, ⟨t, by simp, HT1.out⟩, ?_, ?_, ?_⟩
      · exact Row.far (RS.out.set 0 _) (by show w.heap.size + 1 ≠ w.heap.size + 1 + 1; omega) _
      · exact (RE.out.far (by show w.heap.size + 1 + 1 ≠ w.heap.size + 1; omega) _).set 0 _
      · exact (HEX.out.set' (by show w.heap.size ≤ w.heap.size + 1; omega) _).set' (by show w.heap.size ≤ w.heap.size + 1 + 1; omega) _
    · rw [show strO (some y) = Str (K.txt y) from rfl, show codeO (some y) = 0 from rfl]
      have HT1 := hid h
      clear h
      have hc := hv.cell
      have HROW := hid hrow
      have HVB := hid hv
      clear hrow
      have hpl : pre.length < 1000 := by omega
      gi_wp2_with (gi_at_builtin; refine wpListIn_append_own _ rfl _ _ 66 rfl w.heap.size 9 i0 (.string ⟨#[]⟩) 1 16 Tryz.underlying66 hi hz0 hz1 hz2 rfl (by decide) _ _ _ rfl (HROW.out.alloc _) ⟨W.heap.size, 0, none⟩ 1 1 [.string (Str (K.txt y))] rfl rfl (cell_one_new _ _ _) (by simp [Value.oneCell']) (by unfold maxLen; omega) (by omega) (by simp; omega) ?_; intro v' w1 hown' hgrow _; have HG := hid hgrow; have HO := hid hown'; obtain ⟨g', cap', rfl⟩ := ownsRow_succ hown'; obtain ⟨hv1, hv2, hr2, hk2, hb2⟩ := HVB.out.appended (by decide) HROW.out HWS (by omega) hown' hgrow; have hc1 := hv1.cell; have hf1 := hv1.frozen; have HV2 := hid hv2; have HR2 := hid hr2; have HK2 := hid hk2; have HB2 := hid hb2; clear hown' hgrow hv1 hv2 hr2 hk2 hb2)
      have rm' := (RM.out.appended (by decide) HROW.out HG.out).far (p := ⟨w4.heap.size + 1, 0, none⟩) (by show w4.heap.size + 1 + 1 ≠ w4.heap.size + 1; omega) (.slice (some ⟨g', 0, none⟩) (pre.length + 1 + 1) cap')
      have rs' := (RS.out.appended (by decide) HROW.out HG.out).far (p := ⟨w4.heap.size + 1, 0, none⟩) (by show w.heap.size + 1 ≠ w4.heap.size + 1; omega) (.slice (some ⟨g', 0, none⟩) (pre.length + 1 + 1) cap')
      have re' := (RE.out.appended (by decide) HROW.out HG.out).far (p := ⟨w4.heap.size + 1, 0, none⟩) (by show w.heap.size + 1 + 1 ≠ w4.heap.size + 1; omega) (.slice (some ⟨g', 0, none⟩) (pre.length + 1 + 1) cap')
      refine ⟨HK2.out.from _, ⟨HB2.out, ?_⟩, ?_, ⟨_, HV2.out, ?_⟩, rm', rs', re', HEX.out.trans HB2.out⟩
      · have e1 : W.heap[w4.heap.size + 1 + 1]? = _ := RM.out
        exact Eq.trans rm' e1.symm
      · intro u hu
        rcases List.mem_append.1 hu with h | h
        · exact HNO.out u h
        · rw [List.mem_singleton.1 h, HT1.out]; simp
      · have h := HR2.out
        rw [List.length_append, List.length_singleton, List.map_append, List.map_singleton, HT1.out, ← List.cons_append, Txs_snoc]
        exact h
  case done =>
    rintro D xs W hD hS ⟨hno, ⟨v, hv, hrow⟩, rm, rs, re, hex⟩ hK
    have hno2 : none ∉ seqO m us ad k x := by
      rw [← hS]
      intro h
      obtain ⟨t, ht, e⟩ := List.mem_map.1 h
      exact hno t ht e
    obtain ⟨g', cap', rfl⟩ := ownsRow_succ hrow
    have hlenS : (seqO m us ad k x).length = xs.length := by rw [← hS, List.length_map]
    have hc := hv.cell
    have cs : W.cell? ⟨w.heap.size + 1, 0, none⟩ = some (.slice none 0 0) := rs.cell 0
    have fs := rs.free 0
    have ce : W.cell? ⟨w.heap.size + 1 + 1, 0, none⟩ = some (.int .i64 0) := re.cell 0
    have fe := re.free 0
    rw [hS] at hrow
    have HNO2 := hid hno2
    have HROW := hid hrow
    have HLS := hid hlenS
    have RS := hid rs
    have RE := hid re
    have HEX := hid hex
    have HXS := HX5.size
    clear hno hno2 hrow rm rs re hex hS hlenS hv
    gi_wp2
    have hK' := ((KeepsOthers.setCell W ⟨w.heap.size + 1, 0, none⟩ (.slice (some ⟨g', 0, none⟩) (xs.length + 1) cap')).trans (KeepsOthers.setCell _ ⟨w.heap.size + 1 + 1, 0, none⟩ (.int .i64 0))).same D _ hK rfl
    have r1 : Row ((W.setCell ⟨w.heap.size + 1, 0, none⟩ (.slice (some ⟨g', 0, none⟩) (xs.length + 1) cap')).setCell ⟨w.heap.size + 1 + 1, 0, none⟩ (.int .i64 0)) (w.heap.size + 1) 66 [.slice (some ⟨g', 0, none⟩) (xs.length + 1) cap'] := Row.far (RS.out.set 0 _) (by show w.heap.size + 1 ≠ w.heap.size + 1 + 1; omega) _
    have r2 : Row ((W.setCell ⟨w.heap.size + 1, 0, none⟩ (.slice (some ⟨g', 0, none⟩) (xs.length + 1) cap')).setCell ⟨w.heap.size + 1 + 1, 0, none⟩ (.int .i64 0)) (w.heap.size + 1 + 1) 27 [.int .i64 0] := (RE.out.far (by show w.heap.size + 1 + 1 ≠ w.heap.size + 1; omega) _).set 0 _
    have o1 := HROW.out.kept (grownBy_setCell' W (w.heap.size + 1) (.slice (some ⟨g', 0, none⟩) (xs.length + 1) cap')) (.inr (RS.out.not_own (by decide) HROW.out))
    have o2 := o1.kept (grownBy_setCell' _ (w.heap.size + 1 + 1) (.int .i64 0)) (.inr (Row.not_own (RE.out.far (p := ⟨w.heap.size + 1, 0, none⟩) (by show w.heap.size + 1 + 1 ≠ w.heap.size + 1; omega) _) (by decide) o1))
    have o3 := ownsRow_putObj o2 (.deferred none) hK' rfl
    refine ⟨by simp, .inl ⟨_, _, rfl, run_takeDeferred hK', ?_⟩⟩
    have hc1 := cell_kept (r1.cell 0) (grownBy_putObj' _ D (.deferred none)) (fun r e => by cases e; exact ⟨_, hK', rfl⟩)
    have hc2 := cell_kept (r2.cell 0) (grownBy_putObj' _ D (.deferred none)) (fun r e => by cases e; exact ⟨_, hK', rfl⟩)
    refine ⟨.tuple #[.slice (some ⟨g', 0, none⟩) (xs.length + 1) cap', .int .i64 0], ?_, ?_⟩
    · simp [results, Tryz.f84, go_sem, hc1, hc2]
    · rw [hxe]
      refine ⟨fun _ => ⟨_, _, _, rfl, by rw [HLS.out], ?_, Rd.of_own o3⟩, fun h => absurd h HNO2.out, ?_⟩
      · rcases o3.2 with ⟨h, -⟩ | ⟨gg, cap2, cur, h, -, -, h2, -⟩
        · cases h
        · injection h with _ _ h3; omega
      · exact ((HEX.out.set' (by show w.heap.size ≤ w.heap.size + 1; omega) _).set' (by show w.heap.size ≤ w.heap.size + 1 + 1; omega) _).trans (belowK_b (w := W5) HXS _ D _ _ hD hK' rfl rfl)
  case stop =>
    rintro D c pre W hD hS ⟨rfl, ⟨t, htm, hte⟩, rs, re, hex⟩ hK
    have hin : none ∈ seqO m us ad k x := hS.subset (by rw [← hte]; exact List.mem_map_of_mem htm)
    have HIN := hid hin
    have cs : W.cell? ⟨w.heap.size + 1, 0, none⟩ = some (.slice none 0 0) := rs.cell 0
    have ce : W.cell? ⟨w.heap.size + 1 + 1, 0, none⟩ = some (.int .i64 3) := re.cell 0
    have HEX := hid hex
    have HXS := HX5.size
    clear hin hte htm hS rs re hex
    gi_wp2
    refine ⟨by simp, .inl ⟨_, _, rfl, run_takeDeferred hK, ?_⟩⟩
    have hc1 := cell_kept cs (grownBy_putObj' _ D (.deferred none)) (fun r e => by cases e; exact ⟨_, hK, rfl⟩)
    have hc2 := cell_kept ce (grownBy_putObj' _ D (.deferred none)) (fun r e => by cases e; exact ⟨_, hK, rfl⟩)
    refine ⟨.tuple #[.slice none 0 0, .int .i64 3], ?_, ?_⟩
    · simp [results, Tryz.f84, go_sem, hc1, hc2]
    · rw [hxe]
      exact ⟨fun h => absurd HIN.out h, fun _ => rfl, HEX.out.trans (belowK_b (w := W5) HXS _ D _ _ hD hK rfl rfl)⟩
theorem orbit_ok (v : Value) (m : Int) (us ad : List Int) (l : List UInt8) (k : Nat) (w : World) (hv : MapV w v m us ad) (hM : Hid (mapP m us ad)) (hl : Hid (K.validL l = true)) (hk : k ≤ 1000) (ht : Tab w) :
    Calls Tryz.prog 84 #[v, .string (Str l), .int .i64 (k : Int)] w (OrbPost (seqO m us ad k (K.numL l)) (K.numL l) w) :=
  callsIn_wide.1 (orbit_in v m us ad l k w hv hM hl hk ht)
end Go.Proofs.YtimokpcopeldfaaGreatDoor
/- step.Falls -/
namespace Go.Proofs.YtimokpcopeldfaaGreatDoor
open Go.RowKit Go.Proofs
attribute [local go_sem] Oper.semAt_some
/-- the first fall among the numbers that follow -/
def fallL (x : Int) : Nat → List (Option Int) → Int × ByteArray × Int
  | _, [] => (0, ⟨#[]⟩, 4)
  | _, none :: _ => (0, ⟨#[]⟩, 3)
  | i, some y :: r => if y < x then ((i : Int) + 1, Str (K.txt y), 0) else fallL x (i + 1) r
theorem keeps_ext {W W' : World} (e : Ext W W') : KeepsOthers W W' := KeepsOthers.of_grownBy (grown_of_ext e) (fun j o ej _ => by cases ej)
theorem sgnI_lt {a b : Int} (h : a < b) : sgnI a b = -1 := by unfold sgnI; rw [if_pos h]
theorem sgnI_ge {a b : Int} (h : ¬ a < b) : 0 ≤ sgnI a b := by unfold sgnI; rw [if_neg h]; split <;> omega
def FallPost (r : Int × ByteArray × Int) (w : World) (e : Ending) (w' : World) : Prop := e = .returned (.tuple #[.int .i64 r.1, .string r.2.1, .int .i64 r.2.2]) ∧ Ext w w'
end Go.Proofs.YtimokpcopeldfaaGreatDoor
/- step.kin, step.Collatz; the reference's Collatz, Alike, Same; the law's same -/
namespace Go.Proofs.YtimokpcopeldfaaGreatDoor
open Go.RowKit
/-- a map in new memory -/
def MapNew (m : Int) (us ad : List Int) (b : Nat) (v : Value) (w' : World) : Prop :=
  ∃ g1 g2 k, v = .agg #[.int .i64 m, .slice (some ⟨g1, 0, none⟩) k k, .slice (some ⟨g2, 0, none⟩) k k] ∧ Row w' g1 3 (Is us) ∧ Row w' g2 3 (Is ad) ∧ b ≤ g1 ∧ b ≤ g2 ∧ us.length = k ∧ ad.length = k ∧ k ≤ 12
def MapPost (m : Int) (us ad : List Int) (w : World) (e : Ending) (w' : World) : Prop := ∃ v, e = .returned v ∧ MapNew m us ad w.heap.size v w' ∧ Ext w w'
/-- a map whose lists lie in two new blocks -/
theorem MapV.fresh {W : World} {g1 g2 : Nat} {t : TypeId} {m : Int} {us ad : List Int} {k : Nat} (h1 : Row W g1 t (Is us)) (h2 : Row W g2 t (Is ad)) (e1 : us.length = k) (e2 : ad.length = k) (hk : k ≤ 12) :
    MapV W (.agg #[.int .i64 m, .slice (some ⟨g1, 0, none⟩) k k, .slice (some ⟨g2, 0, none⟩) k k]) m us ad :=
  ⟨_, k, k, _, k, k, rfl, e1, Nat.le_refl _, e2, Nat.le_refl _, h1.rd0, h2.rd0, by omega, by omega⟩
theorem Row.set3 {W : World} {H g : Nat} {t : TypeId} {vs : List Value} {a b c : Value} (h : Row W g t vs) (hne : g ≠ H) : Row (((W.setCell ⟨H, 0, none⟩ a).setCell ⟨H, 1, none⟩ b).setCell ⟨H, 2, none⟩ c) g t vs :=
  ((h.far (by show g ≠ H; exact hne) _).far (by show g ≠ H; exact hne) _).far (by show g ≠ H; exact hne) _
theorem Row.put3 {W : World} {H : Nat} {t : TypeId} {x y z a b c : Value} (h : Row W H t [x, y, z]) : Row (((W.setCell ⟨H, 0, none⟩ a).setCell ⟨H, 1, none⟩ b).setCell ⟨H, 2, none⟩ c) H t [a, b, c] :=
  ((h.set 0 a).set 1 b).set 2 c
theorem Ext.set3 {w W : World} {H : Nat} {a b c : Value} (h : Ext w W) (hH : w.heap.size ≤ H) : Ext w (((W.setCell ⟨H, 0, none⟩ a).setCell ⟨H, 1, none⟩ b).setCell ⟨H, 2, none⟩ c) :=
  ((h.set' (by show _ ≤ H; exact hH) _).set' (by show _ ≤ H; exact hH) _).set' (by show _ ≤ H; exact hH) _
theorem row_facts3 {w : World} {g : Nat} {t : TypeId} {a b c : Value} (h : Row w g t [a, b, c]) : w.cell? ⟨g, 0, none⟩ = some a ∧ w.cell? ⟨g, 1, none⟩ = some b ∧ w.cell? ⟨g, 2, none⟩ = some c ∧ w.frozen? ⟨g, 0, none⟩ = false ∧ w.frozen? ⟨g, 1, none⟩ = false ∧ w.frozen? ⟨g, 2, none⟩ = false :=
  ⟨by rw [h.cell]; rfl, by rw [h.cell]; rfl, by rw [h.cell]; rfl, h.free 0, h.free 1, h.free 2⟩
set_option maxRecDepth 100000 in
set_option maxHeartbeats 800000 in
theorem kin_any (q c : Int) (w : World) : Calls Tryz.prog 117 #[.int .i64 q, .int .i64 c] w (MapPost 2 [1, q] [0, c] w) := by
  have h1 : Row (((w.alloc (.cells #[.int .i64 2, .slice (some ⟨w.heap.size + 1, 0, none⟩) 2 2, .slice (some ⟨w.heap.size + 1 + 1, 0, none⟩) 2 2] 24)).alloc (.cells #[.int .i64 1, .int .i64 q] 3)).alloc (.cells #[.int .i64 0, .int .i64 c] 3)) (w.heap.size + 1) 3 (Is [1, q]) := by
    have := (Row.new (w.alloc (.cells #[.int .i64 2, .slice (some ⟨w.heap.size + 1, 0, none⟩) 2 2, .slice (some ⟨w.heap.size + 1 + 1, 0, none⟩) 2 2] 24)) 3 [.int .i64 1, .int .i64 q]).alloc (.cells #[.int .i64 0, .int .i64 c] 3)
    rwa [World.size_alloc] at this
  have h2 : Row (((w.alloc (.cells #[.int .i64 2, .slice (some ⟨w.heap.size + 1, 0, none⟩) 2 2, .slice (some ⟨w.heap.size + 1 + 1, 0, none⟩) 2 2] 24)).alloc (.cells #[.int .i64 1, .int .i64 q] 3)).alloc (.cells #[.int .i64 0, .int .i64 c] 3)) (w.heap.size + 1 + 1) 3 (Is [0, c]) := by
    have := Row.new ((w.alloc (.cells #[.int .i64 2, .slice (some ⟨w.heap.size + 1, 0, none⟩) 2 2, .slice (some ⟨w.heap.size + 1 + 1, 0, none⟩) 2 2] 24)).alloc (.cells #[.int .i64 1, .int .i64 q] 3)) 3 [.int .i64 0, .int .i64 c]
    rwa [World.size_alloc, World.size_alloc] at this
  have hfin : MapPost 2 [1, q] [0, c] w (.returned (.agg #[.int .i64 2, .slice (some ⟨w.heap.size + 1, 0, none⟩) 2 2, .slice (some ⟨w.heap.size + 1 + 1, 0, none⟩) 2 2])) (((w.alloc (.cells #[.int .i64 2, .slice (some ⟨w.heap.size + 1, 0, none⟩) 2 2, .slice (some ⟨w.heap.size + 1 + 1, 0, none⟩) 2 2] 24)).alloc (.cells #[.int .i64 1, .int .i64 q] 3)).alloc (.cells #[.int .i64 0, .int .i64 c] 3)) :=
    ⟨_, rfl, ⟨_, _, _, rfl, h1, h2, by omega, by omega, rfl, rfl, by omega⟩, (((Ext.rfl' w).alloc' _).alloc' _).alloc' _⟩
  have HF := hid hfin
  clear hfin h1 h2
  go_enter Tryz.func117, Tryz.ntmps117
  go_wp2
  refine bodyPost_ret (v := .agg #[.int .i64 2, .slice (some ⟨w.heap.size + 1, 0, none⟩) 2 2, .slice (some ⟨w.heap.size + 1 + 1, 0, none⟩) 2 2]) (by simp [results, Tryz.results117, go_sem]) rfl HF.out
set_option maxRecDepth 100000 in
set_option maxHeartbeats 800000 in
theorem refCollatz_any (w : World) : Calls Tryz.prog 67 #[] w (MapPost 2 [1, 3] [0, 1] w) := by
  have h1 : Row (((w.alloc (.cells #[.int .i64 2, .slice (some ⟨w.heap.size + 1, 0, none⟩) 2 2, .slice (some ⟨w.heap.size + 1 + 1, 0, none⟩) 2 2] 24)).alloc (.cells #[.int .i64 1, .int .i64 3] 3)).alloc (.cells #[.int .i64 0, .int .i64 1] 3)) (w.heap.size + 1) 3 (Is [1, 3]) := by
    have := (Row.new (w.alloc (.cells #[.int .i64 2, .slice (some ⟨w.heap.size + 1, 0, none⟩) 2 2, .slice (some ⟨w.heap.size + 1 + 1, 0, none⟩) 2 2] 24)) 3 [.int .i64 1, .int .i64 3]).alloc (.cells #[.int .i64 0, .int .i64 1] 3)
    rwa [World.size_alloc] at this
  have h2 : Row (((w.alloc (.cells #[.int .i64 2, .slice (some ⟨w.heap.size + 1, 0, none⟩) 2 2, .slice (some ⟨w.heap.size + 1 + 1, 0, none⟩) 2 2] 24)).alloc (.cells #[.int .i64 1, .int .i64 3] 3)).alloc (.cells #[.int .i64 0, .int .i64 1] 3)) (w.heap.size + 1 + 1) 3 (Is [0, 1]) := by
    have := Row.new ((w.alloc (.cells #[.int .i64 2, .slice (some ⟨w.heap.size + 1, 0, none⟩) 2 2, .slice (some ⟨w.heap.size + 1 + 1, 0, none⟩) 2 2] 24)).alloc (.cells #[.int .i64 1, .int .i64 3] 3)) 3 [.int .i64 0, .int .i64 1]
    rwa [World.size_alloc, World.size_alloc] at this
  have hfin : MapPost 2 [1, 3] [0, 1] w (.returned (.agg #[.int .i64 2, .slice (some ⟨w.heap.size + 1, 0, none⟩) 2 2, .slice (some ⟨w.heap.size + 1 + 1, 0, none⟩) 2 2])) (((w.alloc (.cells #[.int .i64 2, .slice (some ⟨w.heap.size + 1, 0, none⟩) 2 2, .slice (some ⟨w.heap.size + 1 + 1, 0, none⟩) 2 2] 24)).alloc (.cells #[.int .i64 1, .int .i64 3] 3)).alloc (.cells #[.int .i64 0, .int .i64 1] 3)) :=
    ⟨_, rfl, ⟨_, _, _, rfl, h1, h2, by omega, by omega, rfl, rfl, by omega⟩, (((Ext.rfl' w).alloc' _).alloc' _).alloc' _⟩
  have HF := hid hfin
  clear hfin h1 h2
  go_enter Tryz.func67, Tryz.ntmps67
  go_wp2
  refine bodyPost_ret (v := .agg #[.int .i64 2, .slice (some ⟨w.heap.size + 1, 0, none⟩) 2 2, .slice (some ⟨w.heap.size + 1 + 1, 0, none⟩) 2 2]) (by simp [results, Tryz.results67, go_sem]) rfl HF.out
theorem MapNew.ext {m : Int} {us ad : List Int} {b : Nat} {v : Value} {w w' : World} (h : MapNew m us ad b v w) (e : Ext w w') : MapNew m us ad b v w' := by
  obtain ⟨g1, g2, k, h1, h2, h3, h4⟩ := h
  exact ⟨g1, g2, k, h1, h2.ext e, h3.ext e, h4⟩
theorem MapNew.mapV {m : Int} {us ad : List Int} {b : Nat} {v : Value} {w : World} (h : MapNew m us ad b v w) : MapV w v m us ad := by
  obtain ⟨g1, g2, k, rfl, h2, h3, -, -, h6, h7, h8⟩ := h
  exact MapV.fresh h2 h3 h6 h7 h8
/-- a new map stored into an older box -/
theorem MapNew.stored {m : Int} {us ad : List Int} {b H : Nat} {v x y z : Value} {w : World} (h : MapNew m us ad b v w) (hH : H < b) : MapNew m us ad b v (((w.setCell ⟨H, 0, none⟩ x).setCell ⟨H, 1, none⟩ y).setCell ⟨H, 2, none⟩ z) := by
  obtain ⟨g1, g2, k, h1, h2, h3, h4, h5, h6⟩ := h
  exact ⟨g1, g2, k, h1, h2.set3 (by omega), h3.set3 (by omega), h4, h5, h6⟩
theorem MapNew.mono {m : Int} {us ad : List Int} {b c : Nat} {v : Value} {w : World} (h : MapNew m us ad b v w) (hc : c ≤ b) : MapNew m us ad c v w := by
  obtain ⟨g1, g2, k, h1, h2, h3, h4, h5, h6⟩ := h
  exact ⟨g1, g2, k, h1, h2, h3, by omega, by omega, h6⟩
set_option maxRecDepth 100000 in
set_option maxHeartbeats 800000 in
theorem stepCollatz_any (w : World) : Calls Tryz.prog 83 #[] w (MapPost 2 [1, 3] [0, 1] w) := by
  have hx : Ext w (w.alloc (.cells #[.int .i64 0, .slice none 0 0, .slice none 0 0] 24)) := (Ext.rfl' w).alloc' _
  have h0 := Row.new w 24 [.int .i64 0, .slice none 0 0, .slice none 0 0]
  have HX := hid hx
  have H0 := hid h0
  clear hx h0
  go_enter Tryz.func83, Tryz.ntmps83
  go_wp2_with fail
  refine (kin_any 3 1 _).mono ?_
  rintro e w2 ⟨v, rfl, hn, hx2⟩
  rw [World.size_alloc] at hn
  have hr := H0.out.ext hx2
  have hn2 := hn
  obtain ⟨g1, g2, k, rfl, -⟩ := hn
  have hfin : MapPost 2 [1, 3] [0, 1] w (.returned (.agg #[.int .i64 2, .slice (some ⟨g1, 0, none⟩) k k, .slice (some ⟨g2, 0, none⟩) k k])) (((w2.setCell ⟨w.heap.size, 0, none⟩ (.int .i64 2)).setCell ⟨w.heap.size, 1, none⟩ (.slice (some ⟨g1, 0, none⟩) k k)).setCell ⟨w.heap.size, 2, none⟩ (.slice (some ⟨g2, 0, none⟩) k k)) :=
    ⟨_, rfl, (hn2.stored (by omega)).mono (by omega), (HX.out.step hx2).set3 (Nat.le_refl _)⟩
  have HF := hid hfin
  obtain ⟨f0, f1, f2, f3, f4, f5⟩ := row_facts3 hr
  clear hfin hn2 hr hx2
  go_wp2
  refine bodyPost_ret (v := .agg #[.int .i64 2, .slice (some ⟨g1, 0, none⟩) k k, .slice (some ⟨g2, 0, none⟩) k k]) (by simp [results, Tryz.results83, go_sem, f0, f1, f2]) rfl HF.out
/-- the pair that Kin returns -/
def MapErr (m : Int) (us ad : List Int) (w : World) (e : Ending) (w' : World) : Prop := ∃ v, e = .returned (.tuple #[v, .int .i64 0]) ∧ MapNew m us ad w.heap.size v w' ∧ Ext w w'
set_option maxRecDepth 100000 in
set_option maxHeartbeats 800000 in
theorem ralike_eq (A B : Option Addr) (n c d : Nat) (xs : List Int) (w : World) (ra : Rd w A (Is xs)) (rb : Rd w B (Is xs)) (hn : xs.length = n) (hb : n ≤ 140737488351232) :
    Calls Tryz.prog 17 #[.slice A n c, .slice B n d] w (fun e w' => e = .returned (.bool true) ∧ Ext w w') := by
  have HN := hid hn
  have HA := hid ra
  have HB := hid rb
  have hb2 : n ≤ 9223372036854775807 := by omega
  clear hn ra rb
  go_enter Tryz.func17, Tryz.ntmps17
  go_wp2_with fail
  go_loopw [5] (fun iz wr => ∃ j : Nat, j ≤ n ∧ iz = .int .i64 (j : Int) ∧ Ext w wr) (fun iz _ => n - (intOf iz).toNat)
  case atStart => exact ⟨0, by omega, rfl, Ext.rfl' _⟩
  case round =>
    obtain ⟨j, hj, rfl, hex⟩ := hrel
    by_cases hlt : j < n
    · obtain ⟨b1, o1, e1, -, hc1⟩ := (HA.out.ext hex).atI (k := j) (by rw [HN.out]; exact hlt)
      obtain ⟨b2, o2, e2, -, hc2⟩ := (HB.out.ext hex).atI (k := j) (by rw [HN.out]; exact hlt)
      subst e1 e2
      obtain ⟨u, hu⟩ : ∃ u, xs.getD j 0 = u := ⟨_, rfl⟩
      rw [hu] at hc1 hc2
      clear hu
      go_wp2_with fail
      go_quiet (fail)
      have hex2 := hex.drewN nq
      go_wp2
      go_roundw
      case rel => exact ⟨j + 1, by omega, by simp, hex2⟩
      case measure => simp [intOf]; omega
    · have HX := hid hex
      go_wp2
      go_ret
      exact ⟨rfl, HX.out⟩
set_option maxRecDepth 100000 in
set_option maxHeartbeats 1600000 in
theorem rsame_eq (va vb : Value) (m : Int) (us ad : List Int) (w : World) (ha : MapV w va m us ad) (hb : MapV w vb m us ad) :
    Calls Tryz.prog 12 #[va, vb] w (fun e w' => e = .returned (.bool true) ∧ Ext w w') := by
  obtain ⟨A, n, c, B, n2, d, rfl, h1, h2, h3, h4, h5, h6, h7, h8⟩ := ha
  obtain ⟨C, n', c', D, n2', d', rfl, k1, k2, k3, k4, k5, k6, k7, k8⟩ := hb
  obtain rfl : n' = n := by omega
  obtain rfl : n2' = n2 := by omega
  have hx : Ext w ((w.alloc (.cells #[.int .i64 m, .slice A n' c, .slice B n2' d] 24)).alloc (.cells #[.int .i64 m, .slice C n' c', .slice D n2' d'] 24)) := ((Ext.rfl' w).alloc' _).alloc' _
  have q0 : Row ((w.alloc (.cells #[.int .i64 m, .slice A n' c, .slice B n2' d] 24)).alloc (.cells #[.int .i64 m, .slice C n' c', .slice D n2' d'] 24)) w.heap.size 24 [.int .i64 m, .slice A n' c, .slice B n2' d] := (Row.new w _ _).alloc _
  have q1 : Row ((w.alloc (.cells #[.int .i64 m, .slice A n' c, .slice B n2' d] 24)).alloc (.cells #[.int .i64 m, .slice C n' c', .slice D n2' d'] 24)) (w.heap.size + 1) 24 [.int .i64 m, .slice C n' c', .slice D n2' d'] := by
    have := Row.new (w.alloc (.cells #[.int .i64 m, .slice A n' c, .slice B n2' d] 24)) 24 [.int .i64 m, .slice C n' c', .slice D n2' d']
    rwa [World.size_alloc] at this
  obtain ⟨W2, hW2⟩ : ∃ W2, ((w.alloc (.cells #[.int .i64 m, .slice A n' c, .slice B n2' d] 24)).alloc (.cells #[.int .i64 m, .slice C n' c', .slice D n2' d'] 24)) = W2 := ⟨_, rfl⟩
  rw [hW2] at hx q0 q1
  have HW2 := hid hW2
  have HX := hid hx
  have Q0 := hid q0
  have Q1 := hid q1
  have HA := hid h5
  have HB := hid h6
  have HC := hid k5
  have HD := hid k6
  have H1 := hid h1
  have H3 := hid h3
  obtain ⟨f0, f1, f2, -, -, -⟩ := row_facts3 q0
  obtain ⟨e0, e1, e2, -, -, -⟩ := row_facts3 q1
  have hmm : (m == m) = true := by simp
  clear hW2 hx q0 q1 h5 h6 k5 k6 h1 h3 k1 k3
  go_enter Tryz.func12, Tryz.ntmps12
  go_upto_region 1 with fail
  rw [HW2.out]
  go_wp2_with fail
  refine (ralike_eq A C n' c c' us W2 (HA.out.ext HX.out) (HC.out.ext HX.out) H1.out h7).mono ?_
  rintro e w3 ⟨rfl, hx3⟩
  clear f0 f1 f2 e0 e1 e2
  obtain ⟨f0, f1, f2, -, -, -⟩ := row_facts3 (Q0.out.ext hx3)
  obtain ⟨e0, e1, e2, -, -, -⟩ := row_facts3 (Q1.out.ext hx3)
  have H2 := hid (HX.out.step hx3)
  clear hx3
  go_wp2_with fail
  refine (ralike_eq B D n2' d d' ad w3 (HB.out.ext H2.out) (HD.out.ext H2.out) H3.out h8).mono ?_
  rintro e w4 ⟨rfl, hx4⟩
  have HZ := hid (H2.out.step hx4)
  clear f0 f1 f2 e0 e1 e2 hx4
  go_wp2
  go_ret
  exact ⟨rfl, HZ.out⟩
end Go.Proofs.YtimokpcopeldfaaGreatDoor
