/- Joined texts: step.Falls; step.kin, step.Collatz; the reference's Collatz, Alike, Same; the law's same; the step law package's helpers: same, awake; the reference's Valid, of a map; the law StepParts. -/
import Derived.Test.YtflgkijmbpcnfaaGreatDoorJG11
import Derived.Deep.RegionHeld3
import Derived.Test.YtflgkijmbpcnfaaGreatDoorJG10
import Derived.Test.YtflgkijmbpcnfaaGreatDoorJG07
set_option linter.unusedSimpArgs false
set_option linter.unusedVariables false
/- step.Falls -/
namespace Go.Proofs.YtflgkijmbpcnfaaGreatDoor
open Go.RowKit Go.Proofs
attribute [local go_sem] Oper.semAt_some
/-- the first fall among the numbers that follow -/
def fallL (x : Int) : Nat → List (Option Int) → Int × ByteArray × Int
  | _, [] => (0, ⟨#[]⟩, 4)
  | _, none :: _ => (0, ⟨#[]⟩, 3)
  | i, some y :: r => if y < x then ((i : Int) + 1, Str (K.txt y), 0) else fallL x (i + 1) r
theorem keeps_ext {W W' : World} (e : Ext W W') : KeepsOthers W W' := KeepsOthers.of_grownBy (grown_of_ext e) (fun j o ej _ => by cases ej)
theorem sgnI_lt {a b : Int} (h : a < b) : sgnI a b = -1 := by unfold sgnI; rw [if_pos h]
theorem sgnI_ge {a b : Int} (h : ¬ a < b) : 0 ≤ sgnI a b := by unfold sgnI; rw [if_neg h]; split <;> omega
def FallPost (r : Int × ByteArray × Int) (w : World) (e : Ending) (w' : World) : Prop := e = .returned (.tuple #[.int .i64 r.1, .string r.2.1, .int .i64 r.2.2]) ∧ Ext w w'
set_option maxRecDepth 100000 in
set_option maxHeartbeats 6400000 in
theorem falls_in (v : Value) (m : Int) (us ad : List Int) (l : List UInt8) (k : Nat) (w : World) (hv : MapV w v m us ad) (hM : Hid (mapP m us ad)) (hl : Hid (K.validL l = true)) (hk0 : 1 ≤ k) (hk : k ≤ 20000) (ht : Tab w) :
    CallsIn Fence.wide 9 Tryz.prog 28 #[v, .string (Str l), .int .i64 (k : Int)] w (FallPost (fallL (K.numL l) 0 (seqO m us ad k (K.numL l))) w) := by
  have HT := hid ht
  have HV := hid hv
  have hlen := len_of (valid_len hl.out)
  obtain ⟨A, n, c, B, n2, d, rfl, -⟩ := hv
  have hx3 : Ext w (((((w.alloc (.cells #[.int .i64 m, .slice A n c, .slice B n2 d] 24)).alloc (.cells #[.string (Str l)] 9)).alloc (.cells #[.int .i64 0] 3)).alloc (.cells #[.string ⟨#[]⟩] 9)).alloc (.cells #[.int .i64 0] 26)) := ((((((Ext.rfl' w).alloc' _)).alloc' _).alloc' _).alloc' _).alloc' _
  have h0 : Row (((((w.alloc (.cells #[.int .i64 m, .slice A n c, .slice B n2 d] 24)).alloc (.cells #[.string (Str l)] 9)).alloc (.cells #[.int .i64 0] 3)).alloc (.cells #[.string ⟨#[]⟩] 9)).alloc (.cells #[.int .i64 0] 26)) (w.heap.size) 24 [.int .i64 m, .slice A n c, .slice B n2 d] := by
    have := ((((Row.new w 24 [.int .i64 m, .slice A n c, .slice B n2 d]).alloc (.cells #[.string (Str l)] 9)).alloc (.cells #[.int .i64 0] 3)).alloc (.cells #[.string ⟨#[]⟩] 9)).alloc (.cells #[.int .i64 0] 26)
    exact this
  have h1 : Row (((((w.alloc (.cells #[.int .i64 m, .slice A n c, .slice B n2 d] 24)).alloc (.cells #[.string (Str l)] 9)).alloc (.cells #[.int .i64 0] 3)).alloc (.cells #[.string ⟨#[]⟩] 9)).alloc (.cells #[.int .i64 0] 26)) (w.heap.size + 1) 9 [.string (Str l)] := by
    have := (((Row.new (w.alloc (.cells #[.int .i64 m, .slice A n c, .slice B n2 d] 24)) 9 [.string (Str l)]).alloc (.cells #[.int .i64 0] 3)).alloc (.cells #[.string ⟨#[]⟩] 9)).alloc (.cells #[.int .i64 0] 26)
    rwa [World.size_alloc] at this
  have h2 : Row (((((w.alloc (.cells #[.int .i64 m, .slice A n c, .slice B n2 d] 24)).alloc (.cells #[.string (Str l)] 9)).alloc (.cells #[.int .i64 0] 3)).alloc (.cells #[.string ⟨#[]⟩] 9)).alloc (.cells #[.int .i64 0] 26)) (w.heap.size + 1 + 1) 3 [.int .i64 0] := by
    have := ((Row.new ((w.alloc (.cells #[.int .i64 m, .slice A n c, .slice B n2 d] 24)).alloc (.cells #[.string (Str l)] 9)) 3 [.int .i64 0]).alloc (.cells #[.string ⟨#[]⟩] 9)).alloc (.cells #[.int .i64 0] 26)
    rwa [World.size_alloc, World.size_alloc] at this
  have h3 : Row (((((w.alloc (.cells #[.int .i64 m, .slice A n c, .slice B n2 d] 24)).alloc (.cells #[.string (Str l)] 9)).alloc (.cells #[.int .i64 0] 3)).alloc (.cells #[.string ⟨#[]⟩] 9)).alloc (.cells #[.int .i64 0] 26)) (w.heap.size + 1 + 1 + 1) 9 [.string ⟨#[]⟩] := by
    have := (Row.new (((w.alloc (.cells #[.int .i64 m, .slice A n c, .slice B n2 d] 24)).alloc (.cells #[.string (Str l)] 9)).alloc (.cells #[.int .i64 0] 3)) 9 [.string ⟨#[]⟩]).alloc (.cells #[.int .i64 0] 26)
    rwa [World.size_alloc, World.size_alloc, World.size_alloc] at this
  have h4 : Row (((((w.alloc (.cells #[.int .i64 m, .slice A n c, .slice B n2 d] 24)).alloc (.cells #[.string (Str l)] 9)).alloc (.cells #[.int .i64 0] 3)).alloc (.cells #[.string ⟨#[]⟩] 9)).alloc (.cells #[.int .i64 0] 26)) (w.heap.size + 1 + 1 + 1 + 1) 26 [.int .i64 0] := by
    have := Row.new ((((w.alloc (.cells #[.int .i64 m, .slice A n c, .slice B n2 d] 24)).alloc (.cells #[.string (Str l)] 9)).alloc (.cells #[.int .i64 0] 3)).alloc (.cells #[.string ⟨#[]⟩] 9)) 26 [.int .i64 0]
    rwa [World.size_alloc, World.size_alloc, World.size_alloc, World.size_alloc] at this
  obtain ⟨W3, hW3⟩ : ∃ W3, (((((w.alloc (.cells #[.int .i64 m, .slice A n c, .slice B n2 d] 24)).alloc (.cells #[.string (Str l)] 9)).alloc (.cells #[.int .i64 0] 3)).alloc (.cells #[.string ⟨#[]⟩] 9)).alloc (.cells #[.int .i64 0] 26)) = W3 := ⟨_, rfl⟩
  rw [hW3] at hx3 h0 h1 h2 h3 h4
  have HW3 := hid hW3
  have HX3 := hid hx3
  have H0 := hid h0
  have H1 := hid h1
  have H2 := hid h2
  have H3 := hid h3
  have H4 := hid h4
  clear hW3 hx3 h0 h1 h2 h3 h4
  refine callsIn_of_wp_marks Tryz.func28 rfl trivial ?_ rfl
  simp only [Tryz.ntmps28, List.size_toArray, List.length_cons, List.length_nil, Nat.reduceAdd, Nat.reduceSub, Array.replicate_succ, Array.replicate_zero, List.push_toArray, List.append_toArray, List.nil_append, List.cons_append]
  gi_wp2_with fail
  rw [HW3.out]
  refine ⟨trivial, callsIn_wide.2 ((check_any _ m us ad l (k : Int) 1 20000 W3 (HV.out.ext HX3.out) hlen (hid ((mapB_iff m us ad).2 hM.out)) hl (hid (show (0 : Int) = _ by rw [if_pos (by simp), if_neg (by omega)]))).mono ?_)⟩
  rintro e w4 ⟨rfl, hx4⟩
  have R0 := hid (H0.out.ext hx4)
  have R1 := hid (H1.out.ext hx4)
  have R2 := hid (H2.out.ext hx4)
  have R3 := hid (H3.out.ext hx4)
  have R4 := hid (H4.out.ext hx4)
  have HX4 := hid (HX3.out.step hx4)
  clear hx4
  have hlt4 : w.heap.size + 1 + 1 + 1 + 1 < w4.heap.size := R4.out.lt
  have R0a := R0.out.alloc (.cells #[.int .i64 0] 3)
  have R1a := R1.out.alloc (.cells #[.int .i64 0] 3)
  have g0 : (w4.alloc (.cells #[.int .i64 0] 3)).cell? ⟨w.heap.size, 0, none⟩ = some (.int .i64 m) := by rw [R0a.cell]; rfl
  have g1 : (w4.alloc (.cells #[.int .i64 0] 3)).cell? ⟨w.heap.size, 1, none⟩ = some (.slice A n c) := by rw [R0a.cell]; rfl
  have g2 : (w4.alloc (.cells #[.int .i64 0] 3)).cell? ⟨w.heap.size, 2, none⟩ = some (.slice B n2 d) := by rw [R0a.cell]; rfl
  have g3 : (w4.alloc (.cells #[.int .i64 0] 3)).cell? ⟨w.heap.size + 1, 0, none⟩ = some (.string (Str l)) := by rw [R1a.cell]; rfl
  clear R0a R1a
  gi_wp2_with fail
  refine ⟨trivial, callsIn_wide.2 ((after_any A n c B n2 d m (Str l) (k : Int) _).mono ?_)⟩
  rintro e w5 ⟨rfl, rfl⟩
  gi_wp2_with fail
  have L0 : Row ((((w4.alloc (.cells #[.int .i64 0] 3)).alloc (.cells #[.int .i64 m, .slice A n c, .slice B n2 d] 24)).alloc (.cells #[.string (Str l)] 9)).alloc (.cells #[.int .i64 (k : Int)] 3)) (w4.heap.size) 3 [.int .i64 0] := by
    have := (((Row.new w4 3 [.int .i64 0]).alloc (.cells #[.int .i64 m, .slice A n c, .slice B n2 d] 24)).alloc (.cells #[.string (Str l)] 9)).alloc (.cells #[.int .i64 (k : Int)] 3)
    exact this
  have L1 : Row ((((w4.alloc (.cells #[.int .i64 0] 3)).alloc (.cells #[.int .i64 m, .slice A n c, .slice B n2 d] 24)).alloc (.cells #[.string (Str l)] 9)).alloc (.cells #[.int .i64 (k : Int)] 3)) (w4.heap.size + 1) 24 [.int .i64 m, .slice A n c, .slice B n2 d] := by
    have := ((Row.new (w4.alloc (.cells #[.int .i64 0] 3)) 24 [.int .i64 m, .slice A n c, .slice B n2 d]).alloc (.cells #[.string (Str l)] 9)).alloc (.cells #[.int .i64 (k : Int)] 3)
    rwa [World.size_alloc] at this
  have L2 : Row ((((w4.alloc (.cells #[.int .i64 0] 3)).alloc (.cells #[.int .i64 m, .slice A n c, .slice B n2 d] 24)).alloc (.cells #[.string (Str l)] 9)).alloc (.cells #[.int .i64 (k : Int)] 3)) (w4.heap.size + 1 + 1) 9 [.string (Str l)] := by
    have := (Row.new ((w4.alloc (.cells #[.int .i64 0] 3)).alloc (.cells #[.int .i64 m, .slice A n c, .slice B n2 d] 24)) 9 [.string (Str l)]).alloc (.cells #[.int .i64 (k : Int)] 3)
    rwa [World.size_alloc, World.size_alloc] at this
  have L3 : Row ((((w4.alloc (.cells #[.int .i64 0] 3)).alloc (.cells #[.int .i64 m, .slice A n c, .slice B n2 d] 24)).alloc (.cells #[.string (Str l)] 9)).alloc (.cells #[.int .i64 (k : Int)] 3)) (w4.heap.size + 1 + 1 + 1) 3 [.int .i64 (k : Int)] := by
    have := Row.new (((w4.alloc (.cells #[.int .i64 0] 3)).alloc (.cells #[.int .i64 m, .slice A n c, .slice B n2 d] 24)).alloc (.cells #[.string (Str l)] 9)) 3 [.int .i64 (k : Int)]
    rwa [World.size_alloc, World.size_alloc, World.size_alloc] at this
  have hx5 : Ext w4 ((((w4.alloc (.cells #[.int .i64 0] 3)).alloc (.cells #[.int .i64 m, .slice A n c, .slice B n2 d] 24)).alloc (.cells #[.string (Str l)] 9)).alloc (.cells #[.int .i64 (k : Int)] 3)) := ((((Ext.rfl' w4).alloc' _).alloc' _).alloc' _).alloc' _
  obtain ⟨W5, hW5⟩ : ∃ W5, ((((w4.alloc (.cells #[.int .i64 0] 3)).alloc (.cells #[.int .i64 m, .slice A n c, .slice B n2 d] 24)).alloc (.cells #[.string (Str l)] 9)).alloc (.cells #[.int .i64 (k : Int)] 3)) = W5 := ⟨_, rfl⟩
  rw [hW5] at L0 L1 L2 L3 hx5
  rw [hW5]
  have HX5 := HX4.out.step hx5
  have R15 := R1.out.ext hx5
  have R25 := R2.out.ext hx5
  have R35 := R3.out.ext hx5
  have R45 := R4.out.ext hx5
  have htx : K.txt (K.numL l) = l := (K.txt_numL l hl.out).1
  have hfx : K.fits (K.numL l) := (K.txt_numL l hl.out).2
  obtain ⟨x, hxe⟩ : ∃ x, K.numL l = x := ⟨_, rfl⟩
  rw [hxe] at htx hfx
  clear g0 g1 g2 g3 hW5
  refine wpIn_rangeFunc_ownG (F := Fence.wide) rfl (by omega) (gf := 87) (lb := #[.pointer (some ⟨w4.heap.size + 1 + 1, 0, none⟩), .pointer (some ⟨w4.heap.size + 1 + 1 + 1, 0, none⟩), .pointer (some ⟨w4.heap.size + 1, 0, none⟩)]) rfl trivial (enters_of Tryz.func87 (by kernel_rfl) rfl)
    (after_stops 8 (by omega) (w4.heap.size + 1 + 1) (w4.heap.size + 1 + 1 + 1) (w4.heap.size + 1) k x m us ad A n c B n2 d w W5 HV.out hM hfx HT.out (by omega) HX5 (by rw [L2.cell, htx]; rfl) (by rw [L3.cell]; rfl) L1 L2.lt L3.lt)
    KeptM.t (fun W l o o' h1 h2 h3 h4 => ⟨belowK_b (w := W5) HX5.size W l o o' h1 h2 h3 h4, (grownBy_putObj' W l o').block _ (by have := L1.lt; have := (Array.getElem?_eq_some_iff.1 h2).1; omega) (by intro e; have := L1.lt; cases e; omega)⟩) (Below.refl _ _) (fun _ => rfl)
    (fun pre W => (∀ rest, fallL x 0 (pre.map (·.1) ++ rest) = fallL x pre.length rest) ∧ Row W w4.heap.size 3 [.int .i64 (pre.length : Int)] ∧ Row W (w4.heap.size + 1) 24 [.int .i64 m, .slice A n c, .slice B n2 d] ∧ Row W (w.heap.size + 1) 9 [.string (Str l)] ∧ Row W (w.heap.size + 1 + 1) 3 [.int .i64 0] ∧ Row W (w.heap.size + 1 + 1 + 1) 9 [.string ⟨#[]⟩] ∧ Row W (w.heap.size + 1 + 1 + 1 + 1) 26 [.int .i64 0] ∧ Ext w W)
    (fun c pre W => c = .ret ∧ (∃ r, (∀ rest, fallL x 0 (pre.map (·.1) ++ rest) = r) ∧ Row W (w.heap.size + 1 + 1) 3 [.int .i64 r.1] ∧ Row W (w.heap.size + 1 + 1 + 1) 9 [.string r.2.1] ∧ Row W (w.heap.size + 1 + 1 + 1 + 1) 26 [.int .i64 r.2.2]) ∧ Ext w W)
    (fun s W W' row hs hg hr => ⟨hs.1, hs.2.1.grown hg hr, hs.2.2.1.grown hg hr, hs.2.2.2.1.grown hg hr, hs.2.2.2.2.1.grown hg hr, hs.2.2.2.2.2.1.grown hg hr, hs.2.2.2.2.2.2.1.grown hg hr, ext_grown hs.2.2.2.2.2.2.2 HX5.size hg hr⟩)
    (fun c s W W' row hs hg hr => ⟨hs.1, by
      obtain ⟨r, h1, h2, h3, h4⟩ := hs.2.1
      exact ⟨r, h1, h2.grown hg hr, h3.grown hg hr, h4.grown hg hr⟩, ext_grown hs.2.2 HX5.size hg hr⟩)
    ⟨fun rest => rfl, L0, L1, R15, R25, R35, R45, HX5⟩
    (fun t => { tmps := #[.agg #[.int .i64 m, .slice A n c, .slice B n2 d], .string (Str l), .int .i64 (k : Int), .pointer (some ⟨w.heap.size, 0, none⟩), .pointer (some ⟨w.heap.size + 1, 0, none⟩), undef, .pointer (some ⟨w.heap.size + 1 + 1, 0, none⟩), .pointer (some ⟨w.heap.size + 1 + 1 + 1, 0, none⟩), .pointer (some ⟨w.heap.size + 1 + 1 + 1 + 1, 0, none⟩), .int .i64 0, .pointer (some ⟨w4.heap.size, 0, none⟩), .string (strO t.1), .int .i64 (codeO t.1), undef, undef, .agg #[.int .i64 m, .slice A n c, .slice B n2 d], .string (Str l), .int .i64 (k : Int), .int .i64 0, .int .i64 0, .bool false, undef, .agg #[.int .i64 m, .slice A n c, .slice B n2 d], .string (Str l), .int .i64 (k : Int), .func (.func 87) #[] #[.pointer (some ⟨w4.heap.size + 1 + 1, 0, none⟩), .pointer (some ⟨w4.heap.size + 1 + 1 + 1, 0, none⟩), .pointer (some ⟨w4.heap.size + 1, 0, none⟩)], .string (strO t.1), .int .i64 (codeO t.1), undef, undef, undef, undef, undef, undef, undef, undef, undef, undef, undef, undef, undef, undef, undef, undef, undef, undef], defers := [] }) ?assign ?body ?done ?stop
  case assign =>
    intro l x W K hK
    dsimp only [encI]
    gi_wp2
    exact hK
  case body =>
    rintro lp pre t W ⟨hfl, rL, rm, rn, ri, rs, re, hex⟩ hlt
    have HFL := hid hfl
    have RL := hid rL
    have RM := hid rm
    have RN := hid rn
    have RI := hid ri
    have RS := hid rs
    have RE := hid re
    have HEX := hid hex
    have HXS := HX5.size
    clear hfl rL rm rn ri rs re hex
    rcases h : t.1 with _ | y
    · rw [show strO none = ⟨#[]⟩ from rfl, show codeO none = 3 from rfl]
      have HT1 := hid h
      have ci : W.cell? ⟨w.heap.size + 1 + 1, 0, none⟩ = some _ := RI.out.cell 0
      have fi := RI.out.free 0
      have cs : W.cell? ⟨w.heap.size + 1 + 1 + 1, 0, none⟩ = some _ := RS.out.cell 0
      have fs := RS.out.free 0
      have ce : W.cell? ⟨w.heap.size + 1 + 1 + 1 + 1, 0, none⟩ = some _ := RE.out.cell 0
      have fe := RE.out.free 0
      clear h
      gi_wp2
      refine ⟨(((KeepsOthers.setCell _ _ _).trans (KeepsOthers.setCell _ _ _)).trans (KeepsOthers.setCell _ _ _)).from _, rfl, ⟨(0, ⟨#[]⟩, 3), ?_, ?_, ?_, ?_⟩, ?_⟩
      · intro rest
        rw [List.map_append, List.append_assoc, HFL.out]
        show fallL x _ (t.1 :: rest) = _
        rw [HT1.out, fallL]
      · exact ((RI.out.set 0 _).far (by show w.heap.size + 1 + 1 ≠ w.heap.size + 1 + 1 + 1; omega) _).far (by show w.heap.size + 1 + 1 ≠ w.heap.size + 1 + 1 + 1 + 1; omega) _
      · exact ((RS.out.far (by show w.heap.size + 1 + 1 + 1 ≠ w.heap.size + 1 + 1; omega) _).set 0 _).far (by show w.heap.size + 1 + 1 + 1 ≠ w.heap.size + 1 + 1 + 1 + 1; omega) _
      · exact ((RE.out.far (by show w.heap.size + 1 + 1 + 1 + 1 ≠ w.heap.size + 1 + 1; omega) _).far (by show w.heap.size + 1 + 1 + 1 + 1 ≠ w.heap.size + 1 + 1 + 1; omega) _).set 0 _
      · exact ((HEX.out.set' (by show w.heap.size ≤ w.heap.size + 1 + 1; omega) _).set' (by show w.heap.size ≤ w.heap.size + 1 + 1 + 1; omega) _).set' (by show w.heap.size ≤ w.heap.size + 1 + 1 + 1 + 1; omega) _
    · rw [show strO (some y) = Str (K.txt y) from rfl, show codeO (some y) = 0 from rfl]
      have HT1 := hid h
      have hfy := t.2 y h
      have HFY := hid hfy
      clear h hfy
      have cL : W.cell? ⟨w4.heap.size, 0, none⟩ = some (.int .i64 (pre.length : Int)) := RL.out.cell 0
      have fL := RL.out.free 0
      have rn1 := RN.out.far (p := ⟨w4.heap.size, 0, none⟩) (by show w.heap.size + 1 ≠ w4.heap.size; omega) (.int .i64 ((pre.length : Int) + 1))
      have cn : (W.setCell ⟨w4.heap.size, 0, none⟩ (.int .i64 ((pre.length : Int) + 1))).cell? ⟨w.heap.size + 1, 0, none⟩ = some (.string (Str l)) := rn1.cell 0
      have hpl : pre.length < 20000 := by omega
      have rl1 := RL.out.set 0 (.int .i64 ((pre.length : Int) + 1))
      have rm1 := RM.out.far (p := ⟨w4.heap.size, 0, none⟩) (by show w4.heap.size + 1 ≠ w4.heap.size; omega) (.int .i64 ((pre.length : Int) + 1))
      have ri1 := RI.out.far (p := ⟨w4.heap.size, 0, none⟩) (by show w.heap.size + 1 + 1 ≠ w4.heap.size; omega) (.int .i64 ((pre.length : Int) + 1))
      have rs1 := RS.out.far (p := ⟨w4.heap.size, 0, none⟩) (by show w.heap.size + 1 + 1 + 1 ≠ w4.heap.size; omega) (.int .i64 ((pre.length : Int) + 1))
      have re1 := RE.out.far (p := ⟨w4.heap.size, 0, none⟩) (by show w.heap.size + 1 + 1 + 1 + 1 ≠ w4.heap.size; omega) (.int .i64 ((pre.length : Int) + 1))
      have hb1 : Below w.heap.size W (W.setCell ⟨w4.heap.size, 0, none⟩ (.int .i64 ((pre.length : Int) + 1))) := (Below.refl w.heap.size W).setCell (p := ⟨w4.heap.size, 0, none⟩) (by show w.heap.size ≤ w4.heap.size; omega) _
      have RN1 := hid rn1
      have RL1 := hid rl1
      have RM1 := hid rm1
      have RI1 := hid ri1
      have RS1 := hid rs1
      have RE1 := hid re1
      have HB1 := hid hb1
      clear rn1 rl1 rm1 ri1 rs1 re1 hb1
      have HKEEP : Hid (∀ W', Ext (W.setCell ⟨w4.heap.size, 0, none⟩ (.int .i64 ((pre.length : Int) + 1))) W' → KeepsOthers W W' ∧ KeptM w.heap.size (w4.heap.size + 1) W W' ∧ Ext w W') := hid (by
        intro W' e
        have h1 := HB1.out.trans (e.mono (by have := HEX.out.size; have := HB1.out.size; omega))
        refine ⟨(KeepsOthers.setCell _ _ _).trans (keeps_ext e), ⟨h1, ?_⟩, HEX.out.trans h1⟩
        have e1 : W.heap[w4.heap.size + 1]? = _ := RM.out
        exact Eq.trans (RM1.out.ext e) e1.symm)
      gi_wp2_with fail
      refine ⟨trivial, (CallsIn.inRound lp (callsIn_wide.2 (compare_ok (K.txt y) l _ (len_of (K.txt_len _ HFY.out)) hlen (K.valid_txt _ HFY.out) hl.out))).mono ?_⟩
      rintro e w6 ⟨rfl, hx6⟩
      rw [K.numL_txt, hxe]
      obtain ⟨hkp, hkm, hew⟩ := HKEEP.out _ hx6
      have rl6 := RL1.out.ext hx6
      have rm6 := RM1.out.ext hx6
      have rn6 := RN1.out.ext hx6
      have ri6 := RI1.out.ext hx6
      have rs6 := RS1.out.ext hx6
      have re6 := RE1.out.ext hx6
      have hlen1 : Hid (((pre ++ [t]).length : Int) = (pre.length : Int) + 1) := hid (by simp)
      by_cases hyx : y < x
      · rw [sgnI_lt hyx]
        have HYX := hid hyx
        have cl6 : w6.cell? ⟨w4.heap.size, 0, none⟩ = some (.int .i64 ((pre.length : Int) + 1)) := rl6.cell 0
        have ci6 : w6.cell? ⟨w.heap.size + 1 + 1, 0, none⟩ = some _ := ri6.cell 0
        have fi6 := ri6.free 0
        have cs6 : w6.cell? ⟨w.heap.size + 1 + 1 + 1, 0, none⟩ = some _ := rs6.cell 0
        have fs6 := rs6.free 0
        have ce6 : w6.cell? ⟨w.heap.size + 1 + 1 + 1 + 1, 0, none⟩ = some _ := re6.cell 0
        have fe6 := re6.free 0
        have K1 := hid hkp
        have K3 := hid hew
        have RI6 := hid ri6
        have RS6 := hid rs6
        have RE6 := hid re6
        clear hkp hkm hew rl6 rm6 rn6 ri6 rs6 re6 hyx cn cL fL hx6
        gi_wp2
        refine ⟨(((K1.out.trans (KeepsOthers.setCell _ _ _)).trans (KeepsOthers.setCell _ _ _)).trans (KeepsOthers.setCell _ _ _)).from _, rfl, ⟨((pre.length : Int) + 1, Str (K.txt y), 0), ?_, ?_, ?_, ?_⟩, ?_⟩
        · intro rest
          rw [List.map_append, List.append_assoc, HFL.out]
          show fallL x _ (t.1 :: rest) = _
          rw [HT1.out, fallL, if_pos HYX.out]
        · exact ((RI6.out.set 0 _).far (by show w.heap.size + 1 + 1 ≠ w.heap.size + 1 + 1 + 1; omega) _).far (by show w.heap.size + 1 + 1 ≠ w.heap.size + 1 + 1 + 1 + 1; omega) _
        · exact ((RS6.out.far (by show w.heap.size + 1 + 1 + 1 ≠ w.heap.size + 1 + 1; omega) _).set 0 _).far (by show w.heap.size + 1 + 1 + 1 ≠ w.heap.size + 1 + 1 + 1 + 1; omega) _
        · exact ((RE6.out.far (by show w.heap.size + 1 + 1 + 1 + 1 ≠ w.heap.size + 1 + 1; omega) _).far (by show w.heap.size + 1 + 1 + 1 + 1 ≠ w.heap.size + 1 + 1 + 1; omega) _).set 0 _
        · exact ((K3.out.set' (by show w.heap.size ≤ w.heap.size + 1 + 1; omega) _).set' (by show w.heap.size ≤ w.heap.size + 1 + 1 + 1; omega) _).set' (by show w.heap.size ≤ w.heap.size + 1 + 1 + 1 + 1; omega) _
      · have hsg := sgnI_ge hyx
        obtain ⟨sg, hsge⟩ : ∃ sg, sgnI y x = sg := ⟨_, rfl⟩
        rw [hsge] at hsg ⊢
        have HYX := hid hyx
        have K1 := hid hkp
        have K2 := hid hkm
        have K3 := hid hew
        have RL6 := hid rl6
        have RM6 := hid rm6
        have RN6 := hid rn6
        have RI6 := hid ri6
        have RS6 := hid rs6
        have RE6 := hid re6
        clear hkp hkm hew rl6 rm6 rn6 ri6 rs6 re6 hyx cn cL fL hx6 hsge
        gi_wp2
        refine ⟨K1.out.from _, K2.out, ?_, ?_, RM6.out, RN6.out, RI6.out, RS6.out, RE6.out, K3.out⟩
        · intro rest
          rw [List.map_append, List.append_assoc, HFL.out, List.length_append]
          show fallL x _ (t.1 :: rest) = _
          rw [HT1.out, fallL, if_neg (by have := HYX.out; omega)]
          rfl
        · rw [hlen1.out]; exact RL6.out
  case done =>
    rintro D xs W hD hS ⟨hfl, rL, rm, rn, ri, rs, re, hex⟩ hK
    have hres := hfl []
    rw [List.append_nil, hS] at hres
    have HRES : Hid (fallL x 0 (seqO m us ad k x) = (0, ⟨#[]⟩, 4)) := hid hres
    have ci : W.cell? ⟨w.heap.size + 1 + 1, 0, none⟩ = some (.int .i64 0) := ri.cell 0
    have fi := ri.free 0
    have cs : W.cell? ⟨w.heap.size + 1 + 1 + 1, 0, none⟩ = some (.string ⟨#[]⟩) := rs.cell 0
    have fs := rs.free 0
    have ce : W.cell? ⟨w.heap.size + 1 + 1 + 1 + 1, 0, none⟩ = some (.int .i64 0) := re.cell 0
    have fe := re.free 0
    have RI := hid ri
    have RS := hid rs
    have RE := hid re
    have HEX := hid hex
    have HXS := HX5.size
    clear hfl hres rL rm rn ri rs re hex hS
    gi_wp2
    have hK' := (((KeepsOthers.setCell W ⟨w.heap.size + 1 + 1, 0, none⟩ (.int .i64 0)).trans (KeepsOthers.setCell _ ⟨w.heap.size + 1 + 1 + 1, 0, none⟩ (.string ⟨#[]⟩))).trans (KeepsOthers.setCell _ ⟨w.heap.size + 1 + 1 + 1 + 1, 0, none⟩ (.int .i64 4))).same D _ hK rfl
    have r1 := ((RI.out.set 0 (.int .i64 0)).far (p := ⟨w.heap.size + 1 + 1 + 1, 0, none⟩) (by show w.heap.size + 1 + 1 ≠ w.heap.size + 1 + 1 + 1; omega) (.string ⟨#[]⟩)).far (p := ⟨w.heap.size + 1 + 1 + 1 + 1, 0, none⟩) (by show w.heap.size + 1 + 1 ≠ w.heap.size + 1 + 1 + 1 + 1; omega) (.int .i64 4)
    have r2 := ((RS.out.far (p := ⟨w.heap.size + 1 + 1, 0, none⟩) (by show w.heap.size + 1 + 1 + 1 ≠ w.heap.size + 1 + 1; omega) (.int .i64 0)).set 0 (.string ⟨#[]⟩)).far (p := ⟨w.heap.size + 1 + 1 + 1 + 1, 0, none⟩) (by show w.heap.size + 1 + 1 + 1 ≠ w.heap.size + 1 + 1 + 1 + 1; omega) (.int .i64 4)
    have r3 := ((RE.out.far (p := ⟨w.heap.size + 1 + 1, 0, none⟩) (by show w.heap.size + 1 + 1 + 1 + 1 ≠ w.heap.size + 1 + 1; omega) (.int .i64 0)).far (p := ⟨w.heap.size + 1 + 1 + 1, 0, none⟩) (by show w.heap.size + 1 + 1 + 1 + 1 ≠ w.heap.size + 1 + 1 + 1; omega) (.string ⟨#[]⟩)).set 0 (.int .i64 4)
    refine ⟨by simp, .inl ⟨_, _, rfl, run_takeDeferred hK', ?_⟩⟩
    have hc1 := cell_kept (r1.cell 0) (grownBy_putObj' _ D (.deferred none)) (fun r e => by cases e; exact ⟨_, hK', rfl⟩)
    have hc2 := cell_kept (r2.cell 0) (grownBy_putObj' _ D (.deferred none)) (fun r e => by cases e; exact ⟨_, hK', rfl⟩)
    have hc3 := cell_kept (r3.cell 0) (grownBy_putObj' _ D (.deferred none)) (fun r e => by cases e; exact ⟨_, hK', rfl⟩)
    refine ⟨.tuple #[.int .i64 0, .string ⟨#[]⟩, .int .i64 4], ?_, ?_, ?_⟩
    · simp [results, Tryz.f28, go_sem, hc1, hc2, hc3]
    · rw [hxe, HRES.out]
    · exact (((HEX.out.set' (by show w.heap.size ≤ w.heap.size + 1 + 1; omega) _).set' (by show w.heap.size ≤ w.heap.size + 1 + 1 + 1; omega) _).set' (by show w.heap.size ≤ w.heap.size + 1 + 1 + 1 + 1; omega) _).trans (belowK_b (w := W5) HXS _ D _ _ hD hK' rfl rfl)
  case stop =>
    rintro D c pre W hD ⟨tail, htail⟩ ⟨rfl, ⟨r, hr, ri, rs, re⟩, hex⟩ hK
    have hres := hr tail
    rw [htail] at hres
    obtain ⟨r1, r2, r3⟩ := r
    have HRES := hid hres
    have ci : W.cell? ⟨w.heap.size + 1 + 1, 0, none⟩ = some (.int .i64 r1) := ri.cell 0
    have cs : W.cell? ⟨w.heap.size + 1 + 1 + 1, 0, none⟩ = some (.string r2) := rs.cell 0
    have ce : W.cell? ⟨w.heap.size + 1 + 1 + 1 + 1, 0, none⟩ = some (.int .i64 r3) := re.cell 0
    have HEX := hid hex
    have HXS := HX5.size
    clear hr hres htail ri rs re hex
    gi_wp2
    refine ⟨by simp, .inl ⟨_, _, rfl, run_takeDeferred hK, ?_⟩⟩
    have hc1 := cell_kept ci (grownBy_putObj' _ D (.deferred none)) (fun r e => by cases e; exact ⟨_, hK, rfl⟩)
    have hc2 := cell_kept cs (grownBy_putObj' _ D (.deferred none)) (fun r e => by cases e; exact ⟨_, hK, rfl⟩)
    have hc3 := cell_kept ce (grownBy_putObj' _ D (.deferred none)) (fun r e => by cases e; exact ⟨_, hK, rfl⟩)
    refine ⟨.tuple #[.int .i64 r1, .string r2, .int .i64 r3], ?_, ?_, ?_⟩
    · simp [results, Tryz.f28, go_sem, hc1, hc2, hc3]
    · rw [hxe, HRES.out]
    · exact HEX.out.trans (belowK_b (w := W5) HXS _ D _ _ hD hK rfl rfl)
theorem falls_ok (v : Value) (m : Int) (us ad : List Int) (l : List UInt8) (k : Nat) (w : World) (hv : MapV w v m us ad) (hM : Hid (mapP m us ad)) (hl : Hid (K.validL l = true)) (hk0 : 1 ≤ k) (hk : k ≤ 20000) (ht : Tab w) :
    Calls Tryz.prog 28 #[v, .string (Str l), .int .i64 (k : Int)] w (FallPost (fallL (K.numL l) 0 (seqO m us ad k (K.numL l))) w) :=
  callsIn_wide.1 (falls_in v m us ad l k w hv hM hl hk0 hk ht)
end Go.Proofs.YtflgkijmbpcnfaaGreatDoor
/- step.kin, step.Collatz; the reference's Collatz, Alike, Same; the law's same -/
namespace Go.Proofs.YtflgkijmbpcnfaaGreatDoor
open Go.RowKit
/-- a map in new memory -/
def MapNew (m : Int) (us ad : List Int) (b : Nat) (v : Value) (w' : World) : Prop :=
  ∃ g1 g2 k, v = .agg #[.int .i64 m, .slice (some ⟨g1, 0, none⟩) k k, .slice (some ⟨g2, 0, none⟩) k k] ∧ Row w' g1 3 (Is us) ∧ Row w' g2 3 (Is ad) ∧ b ≤ g1 ∧ b ≤ g2 ∧ us.length = k ∧ ad.length = k ∧ k ≤ 12
def MapPost (m : Int) (us ad : List Int) (w : World) (e : Ending) (w' : World) : Prop := ∃ v, e = .returned v ∧ MapNew m us ad w.heap.size v w' ∧ Ext w w'
/-- a map whose lists lie in two new blocks -/
theorem MapV.fresh {W : World} {g1 g2 : Nat} {t : TypeId} {m : Int} {us ad : List Int} {k : Nat} (h1 : Row W g1 t (Is us)) (h2 : Row W g2 t (Is ad)) (e1 : us.length = k) (e2 : ad.length = k) (hk : k ≤ 12) :
    MapV W (.agg #[.int .i64 m, .slice (some ⟨g1, 0, none⟩) k k, .slice (some ⟨g2, 0, none⟩) k k]) m us ad :=
  ⟨_, k, k, _, k, k, rfl, e1, Nat.le_refl _, e2, Nat.le_refl _, h1.rd0, h2.rd0, by omega, by omega⟩
theorem Row.set3 {W : World} {H g : Nat} {t : TypeId} {vs : List Value} {a b c : Value} (h : Row W g t vs) (hne : g ≠ H) : Row (((W.setCell ⟨H, 0, none⟩ a).setCell ⟨H, 1, none⟩ b).setCell ⟨H, 2, none⟩ c) g t vs :=
  ((h.far (by show g ≠ H; exact hne) _).far (by show g ≠ H; exact hne) _).far (by show g ≠ H; exact hne) _
theorem Row.put3 {W : World} {H : Nat} {t : TypeId} {x y z a b c : Value} (h : Row W H t [x, y, z]) : Row (((W.setCell ⟨H, 0, none⟩ a).setCell ⟨H, 1, none⟩ b).setCell ⟨H, 2, none⟩ c) H t [a, b, c] :=
  ((h.set 0 a).set 1 b).set 2 c
theorem Ext.set3 {w W : World} {H : Nat} {a b c : Value} (h : Ext w W) (hH : w.heap.size ≤ H) : Ext w (((W.setCell ⟨H, 0, none⟩ a).setCell ⟨H, 1, none⟩ b).setCell ⟨H, 2, none⟩ c) :=
  ((h.set' (by show _ ≤ H; exact hH) _).set' (by show _ ≤ H; exact hH) _).set' (by show _ ≤ H; exact hH) _
theorem row_facts3 {w : World} {g : Nat} {t : TypeId} {a b c : Value} (h : Row w g t [a, b, c]) : w.cell? ⟨g, 0, none⟩ = some a ∧ w.cell? ⟨g, 1, none⟩ = some b ∧ w.cell? ⟨g, 2, none⟩ = some c ∧ w.frozen? ⟨g, 0, none⟩ = false ∧ w.frozen? ⟨g, 1, none⟩ = false ∧ w.frozen? ⟨g, 2, none⟩ = false :=
  ⟨by rw [h.cell]; rfl, by rw [h.cell]; rfl, by rw [h.cell]; rfl, h.free 0, h.free 1, h.free 2⟩
set_option maxRecDepth 100000 in
set_option maxHeartbeats 800000 in
theorem kin_any (q c : Int) (w : World) : Calls Tryz.prog 89 #[.int .i64 q, .int .i64 c] w (MapPost 2 [1, q] [0, c] w) := by
  have h1 : Row (((w.alloc (.cells #[.int .i64 2, .slice (some ⟨w.heap.size + 1, 0, none⟩) 2 2, .slice (some ⟨w.heap.size + 1 + 1, 0, none⟩) 2 2] 24)).alloc (.cells #[.int .i64 1, .int .i64 q] 3)).alloc (.cells #[.int .i64 0, .int .i64 c] 3)) (w.heap.size + 1) 3 (Is [1, q]) := by
    have := (Row.new (w.alloc (.cells #[.int .i64 2, .slice (some ⟨w.heap.size + 1, 0, none⟩) 2 2, .slice (some ⟨w.heap.size + 1 + 1, 0, none⟩) 2 2] 24)) 3 [.int .i64 1, .int .i64 q]).alloc (.cells #[.int .i64 0, .int .i64 c] 3)
    rwa [World.size_alloc] at this
  have h2 : Row (((w.alloc (.cells #[.int .i64 2, .slice (some ⟨w.heap.size + 1, 0, none⟩) 2 2, .slice (some ⟨w.heap.size + 1 + 1, 0, none⟩) 2 2] 24)).alloc (.cells #[.int .i64 1, .int .i64 q] 3)).alloc (.cells #[.int .i64 0, .int .i64 c] 3)) (w.heap.size + 1 + 1) 3 (Is [0, c]) := by
    have := Row.new ((w.alloc (.cells #[.int .i64 2, .slice (some ⟨w.heap.size + 1, 0, none⟩) 2 2, .slice (some ⟨w.heap.size + 1 + 1, 0, none⟩) 2 2] 24)).alloc (.cells #[.int .i64 1, .int .i64 q] 3)) 3 [.int .i64 0, .int .i64 c]
    rwa [World.size_alloc, World.size_alloc] at this
  have hfin : MapPost 2 [1, q] [0, c] w (.returned (.agg #[.int .i64 2, .slice (some ⟨w.heap.size + 1, 0, none⟩) 2 2, .slice (some ⟨w.heap.size + 1 + 1, 0, none⟩) 2 2])) (((w.alloc (.cells #[.int .i64 2, .slice (some ⟨w.heap.size + 1, 0, none⟩) 2 2, .slice (some ⟨w.heap.size + 1 + 1, 0, none⟩) 2 2] 24)).alloc (.cells #[.int .i64 1, .int .i64 q] 3)).alloc (.cells #[.int .i64 0, .int .i64 c] 3)) :=
    ⟨_, rfl, ⟨_, _, _, rfl, h1, h2, by omega, by omega, rfl, rfl, by omega⟩, (((Ext.rfl' w).alloc' _).alloc' _).alloc' _⟩
  have HF := hid hfin
  clear hfin h1 h2
  go_enter Tryz.func89, Tryz.ntmps89
  go_wp2
  refine bodyPost_ret (v := .agg #[.int .i64 2, .slice (some ⟨w.heap.size + 1, 0, none⟩) 2 2, .slice (some ⟨w.heap.size + 1 + 1, 0, none⟩) 2 2]) (by simp [results, Tryz.results89, go_sem]) rfl HF.out
set_option maxRecDepth 100000 in
set_option maxHeartbeats 800000 in
theorem refCollatz_any (w : World) : Calls Tryz.prog 56 #[] w (MapPost 2 [1, 3] [0, 1] w) := by
  have h1 : Row (((w.alloc (.cells #[.int .i64 2, .slice (some ⟨w.heap.size + 1, 0, none⟩) 2 2, .slice (some ⟨w.heap.size + 1 + 1, 0, none⟩) 2 2] 24)).alloc (.cells #[.int .i64 1, .int .i64 3] 3)).alloc (.cells #[.int .i64 0, .int .i64 1] 3)) (w.heap.size + 1) 3 (Is [1, 3]) := by
    have := (Row.new (w.alloc (.cells #[.int .i64 2, .slice (some ⟨w.heap.size + 1, 0, none⟩) 2 2, .slice (some ⟨w.heap.size + 1 + 1, 0, none⟩) 2 2] 24)) 3 [.int .i64 1, .int .i64 3]).alloc (.cells #[.int .i64 0, .int .i64 1] 3)
    rwa [World.size_alloc] at this
  have h2 : Row (((w.alloc (.cells #[.int .i64 2, .slice (some ⟨w.heap.size + 1, 0, none⟩) 2 2, .slice (some ⟨w.heap.size + 1 + 1, 0, none⟩) 2 2] 24)).alloc (.cells #[.int .i64 1, .int .i64 3] 3)).alloc (.cells #[.int .i64 0, .int .i64 1] 3)) (w.heap.size + 1 + 1) 3 (Is [0, 1]) := by
    have := Row.new ((w.alloc (.cells #[.int .i64 2, .slice (some ⟨w.heap.size + 1, 0, none⟩) 2 2, .slice (some ⟨w.heap.size + 1 + 1, 0, none⟩) 2 2] 24)).alloc (.cells #[.int .i64 1, .int .i64 3] 3)) 3 [.int .i64 0, .int .i64 1]
    rwa [World.size_alloc, World.size_alloc] at this
  have hfin : MapPost 2 [1, 3] [0, 1] w (.returned (.agg #[.int .i64 2, .slice (some ⟨w.heap.size + 1, 0, none⟩) 2 2, .slice (some ⟨w.heap.size + 1 + 1, 0, none⟩) 2 2])) (((w.alloc (.cells #[.int .i64 2, .slice (some ⟨w.heap.size + 1, 0, none⟩) 2 2, .slice (some ⟨w.heap.size + 1 + 1, 0, none⟩) 2 2] 24)).alloc (.cells #[.int .i64 1, .int .i64 3] 3)).alloc (.cells #[.int .i64 0, .int .i64 1] 3)) :=
    ⟨_, rfl, ⟨_, _, _, rfl, h1, h2, by omega, by omega, rfl, rfl, by omega⟩, (((Ext.rfl' w).alloc' _).alloc' _).alloc' _⟩
  have HF := hid hfin
  clear hfin h1 h2
  go_enter Tryz.func56, Tryz.ntmps56
  go_wp2
  refine bodyPost_ret (v := .agg #[.int .i64 2, .slice (some ⟨w.heap.size + 1, 0, none⟩) 2 2, .slice (some ⟨w.heap.size + 1 + 1, 0, none⟩) 2 2]) (by simp [results, Tryz.results56, go_sem]) rfl HF.out
theorem MapNew.ext {m : Int} {us ad : List Int} {b : Nat} {v : Value} {w w' : World} (h : MapNew m us ad b v w) (e : Ext w w') : MapNew m us ad b v w' := by
  obtain ⟨g1, g2, k, h1, h2, h3, h4⟩ := h
  exact ⟨g1, g2, k, h1, h2.ext e, h3.ext e, h4⟩
theorem MapNew.mapV {m : Int} {us ad : List Int} {b : Nat} {v : Value} {w : World} (h : MapNew m us ad b v w) : MapV w v m us ad := by
  obtain ⟨g1, g2, k, rfl, h2, h3, -, -, h6, h7, h8⟩ := h
  exact MapV.fresh h2 h3 h6 h7 h8
/-- a new map stored into an older box -/
theorem MapNew.stored {m : Int} {us ad : List Int} {b H : Nat} {v x y z : Value} {w : World} (h : MapNew m us ad b v w) (hH : H < b) : MapNew m us ad b v (((w.setCell ⟨H, 0, none⟩ x).setCell ⟨H, 1, none⟩ y).setCell ⟨H, 2, none⟩ z) := by
  obtain ⟨g1, g2, k, h1, h2, h3, h4, h5, h6⟩ := h
  exact ⟨g1, g2, k, h1, h2.set3 (by omega), h3.set3 (by omega), h4, h5, h6⟩
theorem MapNew.mono {m : Int} {us ad : List Int} {b c : Nat} {v : Value} {w : World} (h : MapNew m us ad b v w) (hc : c ≤ b) : MapNew m us ad c v w := by
  obtain ⟨g1, g2, k, h1, h2, h3, h4, h5, h6⟩ := h
  exact ⟨g1, g2, k, h1, h2, h3, by omega, by omega, h6⟩
set_option maxRecDepth 100000 in
set_option maxHeartbeats 800000 in
theorem stepCollatz_any (w : World) : Calls Tryz.prog 59 #[] w (MapPost 2 [1, 3] [0, 1] w) := by
  have hx : Ext w (w.alloc (.cells #[.int .i64 0, .slice none 0 0, .slice none 0 0] 24)) := (Ext.rfl' w).alloc' _
  have h0 := Row.new w 24 [.int .i64 0, .slice none 0 0, .slice none 0 0]
  have HX := hid hx
  have H0 := hid h0
  clear hx h0
  go_enter Tryz.func59, Tryz.ntmps59
  go_wp2_with fail
  refine (kin_any 3 1 _).mono ?_
  rintro e w2 ⟨v, rfl, hn, hx2⟩
  rw [World.size_alloc] at hn
  have hr := H0.out.ext hx2
  have hn2 := hn
  obtain ⟨g1, g2, k, rfl, -⟩ := hn
  have hfin : MapPost 2 [1, 3] [0, 1] w (.returned (.agg #[.int .i64 2, .slice (some ⟨g1, 0, none⟩) k k, .slice (some ⟨g2, 0, none⟩) k k])) (((w2.setCell ⟨w.heap.size, 0, none⟩ (.int .i64 2)).setCell ⟨w.heap.size, 1, none⟩ (.slice (some ⟨g1, 0, none⟩) k k)).setCell ⟨w.heap.size, 2, none⟩ (.slice (some ⟨g2, 0, none⟩) k k)) :=
    ⟨_, rfl, (hn2.stored (by omega)).mono (by omega), (HX.out.step hx2).set3 (Nat.le_refl _)⟩
  have HF := hid hfin
  obtain ⟨f0, f1, f2, f3, f4, f5⟩ := row_facts3 hr
  clear hfin hn2 hr hx2
  go_wp2
  refine bodyPost_ret (v := .agg #[.int .i64 2, .slice (some ⟨g1, 0, none⟩) k k, .slice (some ⟨g2, 0, none⟩) k k]) (by simp [results, Tryz.results59, go_sem, f0, f1, f2]) rfl HF.out
/-- the pair that Kin returns -/
def MapErr (m : Int) (us ad : List Int) (w : World) (e : Ending) (w' : World) : Prop := ∃ v, e = .returned (.tuple #[v, .int .i64 0]) ∧ MapNew m us ad w.heap.size v w' ∧ Ext w w'
set_option maxRecDepth 100000 in
set_option maxHeartbeats 1600000 in
theorem stepKin_ok (q c : Int) (w : World) (h1 : (q.tmod 2 == 0) = false) (h2 : (c.tmod 2 == 0) = false) (q1 : 1 ≤ q) (q2 : q ≤ 999) (c1 : -999999 ≤ c) (c2 : c ≤ 999999) :
    Calls Tryz.prog 57 #[.int .i64 q, .int .i64 c] w (MapErr 2 [1, q] [0, c] w) := by
  have hx : Ext w (w.alloc (.cells #[.int .i64 0, .slice none 0 0, .slice none 0 0] 24)) := (Ext.rfl' w).alloc' _
  have h0 := Row.new w 24 [.int .i64 0, .slice none 0 0, .slice none 0 0]
  have HX := hid hx
  have H0 := hid h0
  have h1' : (q % 2 == 0) = false := by rw [beq_eq_false_iff_ne] at *; intro e; exact h1 (tmod_zero.2 e)
  clear hx h0
  go_enter Tryz.func57, Tryz.ntmps57
  go_wp2_with fail
  refine (kin_any q c _).mono ?_
  rintro e w2 ⟨v, rfl, hn, hx2⟩
  rw [World.size_alloc] at hn
  have hr := H0.out.ext hx2
  have hn2 := hn
  obtain ⟨g1, g2, k, rfl, -⟩ := hn
  have hfin : MapErr 2 [1, q] [0, c] w (.returned (.tuple #[.agg #[.int .i64 2, .slice (some ⟨g1, 0, none⟩) k k, .slice (some ⟨g2, 0, none⟩) k k], .int .i64 0])) (((w2.setCell ⟨w.heap.size, 0, none⟩ (.int .i64 2)).setCell ⟨w.heap.size, 1, none⟩ (.slice (some ⟨g1, 0, none⟩) k k)).setCell ⟨w.heap.size, 2, none⟩ (.slice (some ⟨g2, 0, none⟩) k k)) :=
    ⟨_, rfl, (hn2.stored (by omega)).mono (by omega), (HX.out.step hx2).set3 (Nat.le_refl _)⟩
  have HF := hid hfin
  obtain ⟨f0, f1, f2, f3, f4, f5⟩ := row_facts3 hr
  clear hfin hn2 hr hx2
  go_wp2
  refine bodyPost_ret (v := .tuple #[.agg #[.int .i64 2, .slice (some ⟨g1, 0, none⟩) k k, .slice (some ⟨g2, 0, none⟩) k k], .int .i64 0]) (by simp [results, Tryz.results57, go_sem, f0, f1, f2]) rfl HF.out
set_option maxRecDepth 100000 in
set_option maxHeartbeats 800000 in
theorem ralike_eq (A B : Option Addr) (n c d : Nat) (xs : List Int) (w : World) (ra : Rd w A (Is xs)) (rb : Rd w B (Is xs)) (hn : xs.length = n) (hb : n ≤ 140737488351232) :
    Calls Tryz.prog 41 #[.slice A n c, .slice B n d] w (fun e w' => e = .returned (.bool true) ∧ Ext w w') := by
  have HN := hid hn
  have HA := hid ra
  have HB := hid rb
  have hb2 : n ≤ 9223372036854775807 := by omega
  clear hn ra rb
  go_enter Tryz.func41, Tryz.ntmps41
  go_wp2_with fail
  go_loopw [5] (fun iz wr => ∃ j : Nat, j ≤ n ∧ iz = .int .i64 (j : Int) ∧ Ext w wr) (fun iz _ => n - (intOf iz).toNat)
  case atStart => exact ⟨0, by omega, rfl, Ext.rfl' _⟩
  case round =>
    obtain ⟨j, hj, rfl, hex⟩ := hrel
    by_cases hlt : j < n
    · obtain ⟨b1, o1, e1, -, hc1⟩ := (HA.out.ext hex).atI (k := j) (by rw [HN.out]; exact hlt)
      obtain ⟨b2, o2, e2, -, hc2⟩ := (HB.out.ext hex).atI (k := j) (by rw [HN.out]; exact hlt)
      subst e1 e2
      obtain ⟨u, hu⟩ : ∃ u, xs.getD j 0 = u := ⟨_, rfl⟩
      rw [hu] at hc1 hc2
      clear hu
      go_wp2_with fail
      go_quiet (fail)
      have hex2 := hex.drewN nq
      go_wp2
      go_roundw
      case rel => exact ⟨j + 1, by omega, by simp, hex2⟩
      case measure => simp [intOf]; omega
    · have HX := hid hex
      go_wp2
      go_ret
      exact ⟨rfl, HX.out⟩
set_option maxRecDepth 100000 in
set_option maxHeartbeats 1600000 in
theorem rsame_eq (va vb : Value) (m : Int) (us ad : List Int) (w : World) (ha : MapV w va m us ad) (hb : MapV w vb m us ad) :
    Calls Tryz.prog 17 #[va, vb] w (fun e w' => e = .returned (.bool true) ∧ Ext w w') := by
  obtain ⟨A, n, c, B, n2, d, rfl, h1, h2, h3, h4, h5, h6, h7, h8⟩ := ha
  obtain ⟨C, n', c', D, n2', d', rfl, k1, k2, k3, k4, k5, k6, k7, k8⟩ := hb
  obtain rfl : n' = n := by omega
  obtain rfl : n2' = n2 := by omega
  have hx : Ext w ((w.alloc (.cells #[.int .i64 m, .slice A n' c, .slice B n2' d] 24)).alloc (.cells #[.int .i64 m, .slice C n' c', .slice D n2' d'] 24)) := ((Ext.rfl' w).alloc' _).alloc' _
  have q0 : Row ((w.alloc (.cells #[.int .i64 m, .slice A n' c, .slice B n2' d] 24)).alloc (.cells #[.int .i64 m, .slice C n' c', .slice D n2' d'] 24)) w.heap.size 24 [.int .i64 m, .slice A n' c, .slice B n2' d] := (Row.new w _ _).alloc _
  have q1 : Row ((w.alloc (.cells #[.int .i64 m, .slice A n' c, .slice B n2' d] 24)).alloc (.cells #[.int .i64 m, .slice C n' c', .slice D n2' d'] 24)) (w.heap.size + 1) 24 [.int .i64 m, .slice C n' c', .slice D n2' d'] := by
    have := Row.new (w.alloc (.cells #[.int .i64 m, .slice A n' c, .slice B n2' d] 24)) 24 [.int .i64 m, .slice C n' c', .slice D n2' d']
    rwa [World.size_alloc] at this
  obtain ⟨W2, hW2⟩ : ∃ W2, ((w.alloc (.cells #[.int .i64 m, .slice A n' c, .slice B n2' d] 24)).alloc (.cells #[.int .i64 m, .slice C n' c', .slice D n2' d'] 24)) = W2 := ⟨_, rfl⟩
  rw [hW2] at hx q0 q1
  have HW2 := hid hW2
  have HX := hid hx
  have Q0 := hid q0
  have Q1 := hid q1
  have HA := hid h5
  have HB := hid h6
  have HC := hid k5
  have HD := hid k6
  have H1 := hid h1
  have H3 := hid h3
  obtain ⟨f0, f1, f2, -, -, -⟩ := row_facts3 q0
  obtain ⟨e0, e1, e2, -, -, -⟩ := row_facts3 q1
  have hmm : (m == m) = true := by simp
  clear hW2 hx q0 q1 h5 h6 k5 k6 h1 h3 k1 k3
  go_enter Tryz.func17, Tryz.ntmps17
  go_upto_region 1 with fail
  rw [HW2.out]
  go_wp2_with fail
  refine (ralike_eq A C n' c c' us W2 (HA.out.ext HX.out) (HC.out.ext HX.out) H1.out h7).mono ?_
  rintro e w3 ⟨rfl, hx3⟩
  clear f0 f1 f2 e0 e1 e2
  obtain ⟨f0, f1, f2, -, -, -⟩ := row_facts3 (Q0.out.ext hx3)
  obtain ⟨e0, e1, e2, -, -, -⟩ := row_facts3 (Q1.out.ext hx3)
  have H2 := hid (HX.out.step hx3)
  clear hx3
  go_wp2_with fail
  refine (ralike_eq B D n2' d d' ad w3 (HB.out.ext H2.out) (HD.out.ext H2.out) H3.out h8).mono ?_
  rintro e w4 ⟨rfl, hx4⟩
  have HZ := hid (H2.out.step hx4)
  clear f0 f1 f2 e0 e1 e2 hx4
  go_wp2
  go_ret
  exact ⟨rfl, HZ.out⟩
end Go.Proofs.YtflgkijmbpcnfaaGreatDoor
/- the step law package's helpers: same, awake -/
namespace Go.Proofs.YtflgkijmbpcnfaaGreatDoor
open Go.RowKit
abbrev Ss (l : List ByteArray) : List Value := l.map fun s => Value.string s
theorem Rd.atS {w : World} {A : Option Addr} {l : List ByteArray} (h : Rd w A (Ss l)) {k : Nat} (hk : k < l.length) :
    ∃ b o s, A = some ⟨b, o, none⟩ ∧ l[k]? = some s ∧ w.cell? ⟨b, o + k, none⟩ = some (.string s) := by
  rcases h with h | ⟨b, o, ha, hb, hc⟩
  · rw [List.map_eq_nil_iff] at h; subst h; cases hk
  · exact ⟨b, o, l[k], ha, List.getElem?_eq_getElem hk, hc k _ (by rw [List.getElem?_map, List.getElem?_eq_getElem hk]; rfl)⟩
set_option maxRecDepth 100000 in
set_option maxHeartbeats 800000 in
theorem lsame_eq (A B : Option Addr) (n c d : Nat) (ss : List ByteArray) (w : World) (ra : Rd w A (Ss ss)) (rb : Rd w B (Ss ss)) (hn : ss.length = n) (hb : n ≤ 140737488351232) :
    Calls Tryz.prog 58 #[.slice A n c, .slice B n d] w (fun e w' => e = .returned (.bool true) ∧ Ext w w') := by
  have HN := hid hn
  have HA := hid ra
  have HB := hid rb
  have hb2 : n ≤ 9223372036854775807 := by omega
  clear hn ra rb
  go_enter Tryz.func58, Tryz.ntmps58
  go_wp2_with fail
  go_loopw [5] (fun iz wr => ∃ j : Nat, j ≤ n ∧ iz = .int .i64 (j : Int) ∧ Ext w wr) (fun iz _ => n - (intOf iz).toNat)
  case atStart => exact ⟨0, by omega, rfl, Ext.rfl' _⟩
  case round =>
    obtain ⟨j, hj, rfl, hex⟩ := hrel
    by_cases hlt : j < n
    · obtain ⟨b1, o1, s1, e1, i1, hc1⟩ := (HA.out.ext hex).atS (k := j) (by rw [HN.out]; exact hlt)
      obtain ⟨b2, o2, s2, e2, i2, hc2⟩ := (HB.out.ext hex).atS (k := j) (by rw [HN.out]; exact hlt)
      subst e1 e2
      rw [i1] at i2
      cases i2
      clear i1
      go_wp2_with fail
      go_quiet (fail)
      have hex2 := hex.drewN nq
      go_wp2
      go_roundw
      case rel => exact ⟨j + 1, by omega, by simp, hex2⟩
      case measure => simp [intOf]; omega
    · have HX := hid hex
      go_wp2
      go_ret
      exact ⟨rfl, HX.out⟩
theorem coll_ok : mapP 2 [1, 3] [0, 1] := (mapB_iff _ _ _).1 (by decide +kernel)
theorem seven_ok : K.validL [55] = true := by decide +kernel
theorem seven_num : K.numL [55] = 7 := by decide +kernel
def Orb7 : List ByteArray := [⟨#[55]⟩, ⟨#[49, 49]⟩, ⟨#[49, 55]⟩, ⟨#[50, 54]⟩, ⟨#[49, 51]⟩, ⟨#[50, 48]⟩]
theorem seq7 : seqO 2 [1, 3] [0, 1] 5 7 = [some 11, some 17, some 26, some 13, some 20] := by decide +kernel
theorem strO_lit (l : List UInt8) (n : Int) (h : K.validL l = true) (e : K.numL l = n) : strO (some n) = Str l := by
  show Str (K.txt n) = _
  rw [K.txt_of_lit l n h e]
theorem orb7_eq : Txs (some 7 :: [some 11, some 17, some 26, some 13, some 20]) = Ss Orb7 := by
  simp only [Txs, List.map_cons, List.map_nil, strO_lit [55] 7 (by decide +kernel) (by decide +kernel), strO_lit [49, 49] 11 (by decide +kernel) (by decide +kernel), strO_lit [49, 55] 17 (by decide +kernel) (by decide +kernel), strO_lit [50, 54] 26 (by decide +kernel) (by decide +kernel), strO_lit [49, 51] 13 (by decide +kernel) (by decide +kernel), strO_lit [50, 48] 20 (by decide +kernel) (by decide +kernel)]
  rfl
theorem orbit7 (v : Value) (w : World) (hv : MapV w v 2 [1, 3] [0, 1]) (ht : Tab w) :
    Calls Tryz.prog 25 #[v, .string ⟨#[55]⟩, .int .i64 5] w (fun e w' => ∃ A c, e = .returned (.tuple #[.slice A 6 c, .int .i64 0]) ∧ Rd w' A (Ss Orb7) ∧ Ext w w') := by
  refine (orbit_ok v 2 [1, 3] [0, 1] [55] 5 w hv (hid coll_ok) (hid seven_ok) (by omega) ht).mono ?_
  rintro e w' ⟨h1, -, h3⟩
  rw [seven_num, seq7] at h1
  obtain ⟨A, k, c, rfl, hk, -, hr⟩ := h1 (by simp)
  rw [orb7_eq] at hr
  exact ⟨A, c, by rw [hk]; rfl, hr, h3⟩
theorem seq_step {m : Int} {us ad : List Int} {k : Nat} {x y : Int} (h : stepI m us ad x = y) (hf : fitsB y = true) : seqO m us ad (k + 1) x = some y :: seqO m us ad k y := by
  rw [seqO, h, if_pos hf]
theorem fall7 : fallL 7 0 (seqO 2 [1, 3] [0, 1] 100 7) = (7, Str [53], 0) := by
  rw [show (100 : Nat) = 93 + 1 + 1 + 1 + 1 + 1 + 1 + 1 from rfl, seq_step (y := 11) (by decide +kernel) (by decide +kernel), seq_step (y := 17) (by decide +kernel) (by decide +kernel), seq_step (y := 26) (by decide +kernel) (by decide +kernel),
    seq_step (y := 13) (by decide +kernel) (by decide +kernel), seq_step (y := 20) (by decide +kernel) (by decide +kernel), seq_step (y := 10) (by decide +kernel) (by decide +kernel), seq_step (y := 5) (by decide +kernel) (by decide +kernel)]
  rw [fallL, if_neg (by decide), fallL, if_neg (by decide), fallL, if_neg (by decide), fallL, if_neg (by decide), fallL, if_neg (by decide), fallL, if_neg (by decide), fallL, if_pos (by decide), K.txt_of_lit [53] 5 (by decide +kernel) (by decide +kernel)]
  rfl
theorem falls7 (v : Value) (w : World) (hv : MapV w v 2 [1, 3] [0, 1]) (ht : Tab w) :
    Calls Tryz.prog 28 #[v, .string ⟨#[55]⟩, .int .i64 100] w (fun e w' => e = .returned (.tuple #[.int .i64 7, .string ⟨#[53]⟩, .int .i64 0]) ∧ Ext w w') := by
  refine (falls_ok v 2 [1, 3] [0, 1] [55] 100 w hv (hid coll_ok) (hid seven_ok) (by omega) (by omega) ht).mono ?_
  rintro e w' ⟨rfl, h3⟩
  rw [seven_num, fall7]
  exact ⟨rfl, h3⟩
set_option maxRecDepth 100000 in
set_option maxHeartbeats 3200000 in
theorem awake2_any (w : World) (ht : Tab w) :
    Calls Tryz.prog 19 #[] w (fun e w' => e = .returned (.bool true) ∧ Ext w w') := by
  have HT := hid ht
  go_enter Tryz.func19, Tryz.ntmps19
  go_wp2_with fail
  refine (refCollatz_any w).mono ?_
  rintro e w1 ⟨v1, rfl, hn1, hx1⟩
  have hv1 := hn1.mapV
  obtain ⟨g1, g2, k1, rfl, -⟩ := hn1
  have r1 := Row.new w1 24 [.int .i64 2, .slice (some ⟨g1, 0, none⟩) k1 k1, .slice (some ⟨g2, 0, none⟩) k1 k1]
  have hx1a := hx1.alloc' (.cells #[.int .i64 2, .slice (some ⟨g1, 0, none⟩) k1 k1, .slice (some ⟨g2, 0, none⟩) k1 k1] 24)
  have hv1a := hv1.ext ((Ext.rfl' w1).alloc' (.cells #[.int .i64 2, .slice (some ⟨g1, 0, none⟩) k1 k1, .slice (some ⟨g2, 0, none⟩) k1 k1] 24))
  obtain ⟨W1, hW1⟩ : ∃ W1, w1.alloc (.cells #[.int .i64 2, .slice (some ⟨g1, 0, none⟩) k1 k1, .slice (some ⟨g2, 0, none⟩) k1 k1] 24) = W1 := ⟨_, rfl⟩
  rw [hW1] at hx1a hv1a
  have r1 : Row W1 w1.heap.size 24 [.int .i64 2, .slice (some ⟨g1, 0, none⟩) k1 k1, .slice (some ⟨g2, 0, none⟩) k1 k1] := by rw [← hW1]; exact r1
  have HW1 := hid hW1
  have HX1 := hid hx1a
  have HV1 := hid hv1a
  have R1 := hid r1
  obtain ⟨f0, f1, f2, -, -, -⟩ := row_facts3 r1
  clear hx1 hx1a hv1 hv1a r1 hW1
  go_upto_region 2 with fail
  rw [HW1.out]
  go_wp2_with fail
  refine (orbit7 _ W1 HV1.out (HT.out.ext HX1.out)).mono ?_
  rintro e w2 ⟨A, cA, rfl, hA, hx2⟩
  have HA := hid hA
  clear f0 f1 f2 hA
  obtain ⟨f0, f1, f2, -, -, -⟩ := row_facts3 (R1.out.ext hx2)
  have HX2 := hid hx2
  clear hx2
  go_wp2_with fail
  refine (falls7 _ w2 (HV1.out.ext HX2.out) ((HT.out.ext HX1.out).ext HX2.out)).mono ?_
  rintro e w3 ⟨rfl, hx3⟩
  have HX3 := hid (HX2.out.step hx3)
  have HA3 := hid (HA.out.ext hx3)
  clear f0 f1 f2 hx3
  go_wp2_with fail
  refine (stepKin_ok 3 1 w3 (by decide) (by decide) (by omega) (by omega) (by omega) (by omega)).mono ?_
  rintro e w4 ⟨v4, rfl, hn4, hx4⟩
  have hv4 := hn4.mapV
  obtain ⟨g3, g4, k4, rfl, -⟩ := hn4
  have r4 := Row.new w4 24 [.int .i64 2, .slice (some ⟨g3, 0, none⟩) k4 k4, .slice (some ⟨g4, 0, none⟩) k4 k4]
  have hx4a := (HX3.out.step hx4).alloc' (.cells #[.int .i64 2, .slice (some ⟨g3, 0, none⟩) k4 k4, .slice (some ⟨g4, 0, none⟩) k4 k4] 24)
  have hv4a := hv4.ext ((Ext.rfl' w4).alloc' (.cells #[.int .i64 2, .slice (some ⟨g3, 0, none⟩) k4 k4, .slice (some ⟨g4, 0, none⟩) k4 k4] 24))
  have hA4 := (HA3.out.ext hx4).ext ((Ext.rfl' w4).alloc' (.cells #[.int .i64 2, .slice (some ⟨g3, 0, none⟩) k4 k4, .slice (some ⟨g4, 0, none⟩) k4 k4] 24))
  obtain ⟨W4, hW4⟩ : ∃ W4, w4.alloc (.cells #[.int .i64 2, .slice (some ⟨g3, 0, none⟩) k4 k4, .slice (some ⟨g4, 0, none⟩) k4 k4] 24) = W4 := ⟨_, rfl⟩
  rw [hW4] at hx4a hv4a hA4
  have r4 : Row W4 w4.heap.size 24 [.int .i64 2, .slice (some ⟨g3, 0, none⟩) k4 k4, .slice (some ⟨g4, 0, none⟩) k4 k4] := by rw [← hW4]; exact r4
  have HW4 := hid hW4
  have HX4 := hid hx4a
  have HV4 := hid hv4a
  have HA4 := hid hA4
  have R4 := hid r4
  have R14 := hid (R1.out.ext hx4a)
  obtain ⟨f0, f1, f2, -, -, -⟩ := row_facts3 R14.out
  obtain ⟨e0, e1, e2, -, -, -⟩ := row_facts3 r4
  clear hx4 hx4a hv4 hv4a r4 hW4 hA4 HA3 HX3 HX2 HA
  have HV14 := hid (HV1.out.ext HX4.out)
  have hcur : Ext W4 W4 := Ext.rfl' _
  have HS : Hid (∀ W', Ext W4 W' → W'.cell? ⟨w1.heap.size, 0, none⟩ = some (.int .i64 2) ∧ W'.cell? ⟨w1.heap.size, 1, none⟩ = some (.slice (some ⟨g1, 0, none⟩) k1 k1) ∧ W'.cell? ⟨w1.heap.size, 2, none⟩ = some (.slice (some ⟨g2, 0, none⟩) k1 k1) ∧ W'.cell? ⟨w4.heap.size, 0, none⟩ = some (.int .i64 2) ∧ W'.cell? ⟨w4.heap.size, 1, none⟩ = some (.slice (some ⟨g3, 0, none⟩) k4 k4) ∧ W'.cell? ⟨w4.heap.size, 2, none⟩ = some (.slice (some ⟨g4, 0, none⟩) k4 k4)) := hid (by
    intro W' e
    obtain ⟨p0, p1, p2, -, -, -⟩ := row_facts3 (R14.out.ext e)
    obtain ⟨q0, q1, q2, -, -, -⟩ := row_facts3 (R4.out.ext e)
    exact ⟨p0, p1, p2, q0, q1, q2⟩)
  go_upto_region 5 with fail
  rw [HW4.out]
  go_region_held3 (fun W' => W'.cell? ⟨w1.heap.size, 0, none⟩ = some (.int .i64 2) ∧ W'.cell? ⟨w1.heap.size, 1, none⟩ = some (.slice (some ⟨g1, 0, none⟩) k1 k1) ∧ W'.cell? ⟨w1.heap.size, 2, none⟩ = some (.slice (some ⟨g2, 0, none⟩) k1 k1) ∧ W'.cell? ⟨w4.heap.size, 0, none⟩ = some (.int .i64 2) ∧ W'.cell? ⟨w4.heap.size, 1, none⟩ = some (.slice (some ⟨g3, 0, none⟩) k4 k4) ∧ W'.cell? ⟨w4.heap.size, 2, none⟩ = some (.slice (some ⟨g4, 0, none⟩) k4 k4))
    (first | exact HS.out _ hcur | exact HS.out _ (hcur.alloc' _) | exact HS.out _ (hcur.drew'.alloc' _) | go_keep)
    (first
      | (go_at_call 58; refine (lsame_eq _ _ 6 _ _ Orb7 _ (HA4.out.ext ?_) ?_ rfl (by omega)).mono ?_; (first | exact hcur | exact hcur.drew' | exact hcur.alloc' _ | exact hcur.drew'.alloc' _ | exact (hcur.alloc' _).drew'); exact (Row.new _ _ _).rd0; rintro e w5 ⟨rfl, hx⟩; have hcur : Ext W4 w5 := (by first | exact hcur.step hx | exact hcur.step (Ext.undrew hx) | exact (hcur.alloc' _).step hx | exact (hcur.drew'.alloc' _).step hx | exact (hcur.alloc' _).step (Ext.undrew hx)))
      | (go_at_call 17; refine (rsame_eq _ _ 2 [1, 3] [0, 1] _ ?_ ?_).mono ?_; (first | (refine HV4.out.ext ?_; (first | exact hcur | exact hcur.drew' | exact hcur.alloc' _ | exact hcur.drew'.alloc' _ | exact (hcur.alloc' _).drew')) | (refine HC.out.ext ?_; (first | exact Ext.rfl' _ | exact (Ext.rfl' _).drew'))); (refine HV14.out.ext ?_; (first | exact hcur | exact hcur.drew' | exact hcur.alloc' _ | exact hcur.drew'.alloc' _ | exact (hcur.alloc' _).drew')); rintro e w7 ⟨rfl, hx⟩; have hcur : Ext W4 w7 := (by first | exact hcur.step hx | exact hcur.step (Ext.undrew hx) | exact (hcur.alloc' _).step hx | exact (hcur.drew'.alloc' _).step hx | exact (hcur.alloc' _).step (Ext.undrew hx)))
      | (go_at_call 59; refine (stepCollatz_any _).mono ?_; rintro e w6 ⟨v6, rfl, hn6, hx⟩; have hcur : Ext W4 w6 := (by first | exact hcur.step hx | exact hcur.step (Ext.undrew hx) | exact (hcur.alloc' _).step hx | exact (hcur.drew'.alloc' _).step hx | exact (hcur.alloc' _).step (Ext.undrew hx)); have HC := hid hn6.mapV; obtain ⟨g5, g6, k6, rfl, -⟩ := hn6))
  all_goals
    have HZ := hid ((HX1.out.step HX4.out).step hcur)
    go_wp2
    go_ret
    exact ⟨rfl, by first | exact HZ.out | exact HZ.out.drew' | exact HZ.out.drewN _⟩
end Go.Proofs.YtflgkijmbpcnfaaGreatDoor
/- the reference's Valid, of a map -/
namespace Go.Proofs.YtflgkijmbpcnfaaGreatDoor
open Go.RowKit
set_option maxRecDepth 100000 in
set_option maxHeartbeats 1600000 in
theorem refvalid_any (v : Value) (m : Int) (us ad : List Int) (w : World) (hv : MapV w v m us ad) {b : Bool} (hb : Hid (mapB m us ad = b)) :
    Calls Tryz.prog 38 #[v] w (fun e w' => e = .returned (.bool b) ∧ Ext w w') := by
  obtain ⟨A, k, c, B, l, d, rfl, hk, hkc, hl, hld, ra, rb, bk, bl⟩ := hv
  have hno : ∀ (_ : ¬ mapP m us ad), Hid (b = false) := fun h => hid (by
    rw [← hb.out]
    cases hB : mapB m us ad with
    | false => rfl
    | true => exact absurd ((mapB_iff m us ad).1 hB) h)
  have hbk : k ≤ 9223372036854775807 := by omega
  have hbl : l ≤ 9223372036854775807 := by omega
  have hx : Ext w (w.alloc (.cells #[.int .i64 m, .slice A k c, .slice B l d] 24)) := (Ext.rfl' w).alloc' _
  have hk3 : ∀ w', Ext (w.alloc (.cells #[.int .i64 m, .slice A k c, .slice B l d] 24)) w' → _ := fun w' e => three_facts e rfl
  by_cases c1 : m < 2
  · have HF := hno (fun h => by have := h.1; omega)
    have HX := hid hx
    clear hno hb hk hl ra rb hx hk3
    go_enter Tryz.func38, Tryz.ntmps38
    go_wp2
    go_ret
    exact ⟨by rw [HF.out]; rfl, HX.out⟩
  · by_cases c2 : 12 < m
    · have HF := hno (fun h => by have := h.2.1; omega)
      have HX := hid hx
      clear hno hb hk hl ra rb hx hk3
      go_enter Tryz.func38, Tryz.ntmps38
      go_wp2
      go_ret
      exact ⟨by rw [HF.out]; rfl, HX.out⟩
    · by_cases c3 : (k : Int) = m
      · by_cases c4 : (l : Int) = m
        · subst c3
          obtain rfl : l = k := by omega
          have HNO := hid hno
          have HK := hid hk
          have HL := hid hl
          have HX := hid hx
          have HK3 := hid hk3
          have HRA := hid ra
          have HRB := hid rb
          have k12 : l ≤ 12 := by omega
          have k2 : 2 ≤ l := by omega
          obtain ⟨f0, f1, f2, -⟩ := hk3 _ (Ext.rfl' _)
          obtain ⟨W1, hW1⟩ : ∃ W1, w.alloc (.cells #[.int .i64 (l : Int), .slice A l c, .slice B l d] 24) = W1 := ⟨_, rfl⟩
          rw [hW1] at HX HK3 f0 f1 f2
          have HW1 := hid hW1
          clear hno hk hl hx hk3 hW1 ra rb c4 hbk hbl c1 c2
          go_enter Tryz.func38, Tryz.ntmps38
          go_upto_region 1 with fail
          rw [HW1.out]
          go_wp2_with fail
          clear f0 f1 f2
          go_loopw [3] (fun iz wr => ∃ j : Nat, j ≤ l ∧ iz = .int .i64 (j : Int) ∧ Hid (∀ r : Nat, r < j → ruleP (l : Int) r (us.getD r 0) (ad.getD r 0)) ∧ Ext W1 wr) (fun iz _ => l - (intOf iz).toNat)
          case atStart => exact ⟨0, by omega, rfl, hid (fun r h => absurd h (by omega)), Ext.rfl' _⟩
          case round =>
            obtain ⟨j, hj, rfl, HR, hex⟩ := hrel
            obtain ⟨f0, f1, f2, -⟩ := HK3.out _ hex
            by_cases hlt : j < l
            · obtain ⟨ba, oa, eA, hba, hca⟩ := ((HRA.out.ext HX.out).ext hex).atI (k := j) (by rw [HK.out]; exact hlt)
              obtain ⟨bb, ob, eB, hbb, hcb⟩ := ((HRB.out.ext HX.out).ext hex).atI (k := j) (by rw [HL.out]; exact hlt)
              subst eA eB
              obtain ⟨u, hu⟩ : ∃ u, us.getD j 0 = u := ⟨_, rfl⟩
              obtain ⟨a, ha⟩ : ∃ a, ad.getD j 0 = a := ⟨_, rfl⟩
              rw [hu] at hca
              rw [ha] at hcb
              have HU := hid hu
              have HA := hid ha
              have hnb : ¬ ruleP (l : Int) j u a → Hid (b = false) := fun hr => HNO.out (fun h => hr (by have := h.2.2.2.2 j (by rw [HK.out]; exact hlt); rwa [HU.out, HA.out] at this))
              have HNB := hid hnb
              have HXE := hid (HX.out.step hex)
              have hj0 : (0 : Int) ≤ (j : Int) := by omega
              have hjl : (j : Int) < (l : Int) := by omega
              clear hu ha hba hbb hnb
              by_cases d1 : u < 1
              · have HF := HNB.out (fun h => by unfold ruleP at h; omega)
                have ed1 : decide (u < 1) = true := decide_eq_true d1
                go_wp2_with fail
                go_quiet (fail)
                have HY := hid (HXE.out.drewN nq)
                go_wp2
                go_ret
                exact ⟨by rw [HF.out]; rfl, HY.out⟩
              · have ed1 : decide (u < 1) = false := decide_eq_false d1
                by_cases d2 : 999 < u
                · have HF := HNB.out (fun h => by unfold ruleP at h; omega)
                  have ed2 : decide (999 < u) = true := decide_eq_true d2
                  go_wp2_with fail
                  go_quiet (fail)
                  have HY := hid (HXE.out.drewN nq)
                  go_wp2
                  go_ret
                  exact ⟨by rw [HF.out]; rfl, HY.out⟩
                · have ed2 : decide (999 < u) = false := decide_eq_false d2
                  by_cases d3 : a < -999999
                  · have HF := HNB.out (fun h => by unfold ruleP at h; omega)
                    have ed3 : decide (a < -999999) = true := decide_eq_true d3
                    go_wp2_with fail
                    go_quiet (fail)
                    have HY := hid (HXE.out.drewN nq)
                    go_wp2
                    go_ret
                    exact ⟨by rw [HF.out]; rfl, HY.out⟩
                  · have ed3 : decide (a < -999999) = false := decide_eq_false d3
                    by_cases d4 : 999999 < a
                    · have HF := HNB.out (fun h => by unfold ruleP at h; omega)
                      have ed4 : decide (999999 < a) = true := decide_eq_true d4
                      go_wp2_with fail
                      go_quiet (fail)
                      have HY := hid (HXE.out.drewN nq)
                      go_wp2
                      go_ret
                      exact ⟨by rw [HF.out]; rfl, HY.out⟩
                    · have ed4 : decide (999999 < a) = false := decide_eq_false d4
                      have hp : 0 ≤ u * (j : Int) ∧ u * (j : Int) ≤ 10989 := by
                        refine ⟨Int.mul_nonneg (by omega) hj0, ?_⟩
                        have := Int.mul_le_mul (show u ≤ 999 by omega) (show (j : Int) ≤ 11 by omega) hj0 (by omega)
                        omega
                      obtain ⟨q, hq⟩ : ∃ q, u * (j : Int) = q := ⟨_, rfl⟩
                      rw [hq] at hp
                      have hp1 := hp.1
                      have hp2 := hp.2
                      have w1 : IntKind.i64.wrap (u * (j : Int)) = q := by rw [hq]; exact IntWalk.i64_in _ (by omega)
                      have w2 : IntKind.i64.wrap (q + a) = q + a := IntWalk.i64_in _ (by omega)
                      have HQ := hid hq
                      clear hq hp
                      by_cases d5 : (q + a).tmod (l : Int) = 0
                      · have HNEXT : Hid (∀ r : Nat, r < j + 1 → ruleP (l : Int) r (us.getD r 0) (ad.getD r 0)) := hid (by
                          intro r h
                          rcases Nat.lt_or_ge r j with h1 | h1
                          · exact HR.out r h1
                          · obtain rfl : r = j := by omega
                            rw [HU.out, HA.out]
                            exact ⟨by omega, by omega, by omega, by omega, by rw [HQ.out]; exact tmod_zero.1 d5⟩)
                        have e5 : ((q + a).tmod (l : Int) == 0) = true := by rw [beq_iff_eq]; exact d5
                        have e6 : ((q + a).tmod (l : Int) != 0) = false := by rw [bne_eq_false_iff_eq]; exact d5
                        go_wp2_with fail
                        go_quiet (fail)
                        have hex2 := hex.drewN nq
                        clear w1 w2 e5 e6 d5
                        go_wp2
                        go_roundw
                        case rel => exact ⟨j + 1, by omega, by simp, HNEXT, hex2⟩
                        case measure => simp [intOf]; omega
                      · have HF := HNB.out (fun h => d5 (tmod_zero.2 (by rw [← HQ.out]; exact h.2.2.2.2)))
                        have e5 : ((q + a).tmod (l : Int) == 0) = false := by rw [beq_eq_false_iff_ne]; exact d5
                        have e6 : ((q + a).tmod (l : Int) != 0) = true := by rw [bne_iff_ne]; exact d5
                        go_wp2_with fail
                        go_quiet (fail)
                        have HY := hid (HXE.out.drewN nq)
                        go_wp2
                        go_ret
                        exact ⟨by rw [HF.out]; rfl, HY.out⟩
            · have HF : Hid (b = true) := hid (by
                rw [← hb.out]
                exact (mapB_iff _ _ _).2 ⟨by omega, by omega, by rw [HK.out], by rw [HL.out], fun r h => HR.out r (by rw [HK.out] at h; omega)⟩)
              have HY := hid (HX.out.step hex)
              go_wp2
              go_ret
              exact ⟨by rw [HF.out]; rfl, HY.out⟩
        · have HF := hno (fun h => c4 (by have := h.2.2.2.1; omega))
          have HX := hid hx
          subst c3
          have e4 : ((l : Int) == (k : Int)) = false := by rw [beq_eq_false_iff_ne]; exact c4
          have e5 : (l == k) = false := by rw [beq_eq_false_iff_ne]; omega
          clear hno hb hk hl ra rb hx hk3 c4
          go_enter Tryz.func38, Tryz.ntmps38
          go_wp2
          go_ret
          exact ⟨by rw [HF.out]; rfl, HX.out⟩
      · have HF := hno (fun h => c3 (by have := h.2.2.1; omega))
        have HX := hid hx
        have e3 : ((k : Int) == m) = false := by rw [beq_eq_false_iff_ne]; exact c3
        clear hno hb hk hl ra rb hx hk3 c3
        go_enter Tryz.func38, Tryz.ntmps38
        go_wp2
        go_ret
        exact ⟨by rw [HF.out]; rfl, HX.out⟩
end Go.Proofs.YtflgkijmbpcnfaaGreatDoor
/- the law StepParts -/
namespace Go.Proofs.YtflgkijmbpcnfaaGreatDoor
open Go.RowKit
set_option maxRecDepth 100000 in
set_option maxHeartbeats 800000 in
theorem formed_any (v : Value) (m : Int) (us ad : List Int) (l : List UInt8) (w : World) (hv : MapV w v m us ad) (hlen : l.length ≤ 140737488351232) {b1 b2 b : Bool} (h1 : Hid (mapB m us ad = b1)) (h2 : Hid (K.validL l = b2)) (hb : Hid (b = (b1 && b2))) :
    Calls Tryz.prog 18 #[v, .string (Str l)] w (fun e w' => e = .returned (.bool b) ∧ Ext w w') := by
  have HV := hid hv
  obtain ⟨A, n, cc, B, n2, d, rfl, -⟩ := hv
  have hx : Ext w (w.alloc (.cells #[.int .i64 m, .slice A n cc, .slice B n2 d] 24)) := (Ext.rfl' w).alloc' _
  obtain ⟨f0, f1, f2, -⟩ := three_facts (Ext.rfl' (w.alloc (.cells #[.int .i64 m, .slice A n cc, .slice B n2 d] 24))) rfl
  obtain ⟨W1, hW1⟩ : ∃ W1, w.alloc (.cells #[.int .i64 m, .slice A n cc, .slice B n2 d] 24) = W1 := ⟨_, rfl⟩
  rw [hW1] at hx f0 f1 f2
  have HX := hid hx
  have HW1 := hid hW1
  clear hW1 hx
  cases b1 with
  | false =>
    have HB : Hid (b = false) := hid (by rw [hb.out]; rfl)
    clear hb
    go_enter Tryz.func18, Tryz.ntmps18
    go_upto_region 1 with fail
    rw [HW1.out]
    go_wp2_with fail
    refine (refvalid_any _ m us ad W1 (HV.out.ext HX.out) h1).mono ?_
    rintro e w2 ⟨rfl, hx2⟩
    have HY := hid (HX.out.step hx2)
    go_wp2
    go_ret
    exact ⟨by rw [HB.out]; rfl, HY.out⟩
  | true =>
    have HB : Hid (b = b2) := hid (by rw [hb.out]; rfl)
    clear hb
    go_enter Tryz.func18, Tryz.ntmps18
    go_upto_region 1 with fail
    rw [HW1.out]
    go_wp2_with fail
    refine (refvalid_any _ m us ad W1 (HV.out.ext HX.out) h1).mono ?_
    rintro e w2 ⟨rfl, hx2⟩
    have HY := hid (HX.out.step hx2)
    clear f0 f1 f2 hx2
    go_wp2_with fail
    refine (rvalid_at l w2 h2 hlen).mono ?_
    rintro e wz ⟨rfl, rfl⟩
    go_wp2
    go_ret
    exact ⟨by rw [HB.out]; rfl, HY.out⟩
end Go.Proofs.YtflgkijmbpcnfaaGreatDoor
