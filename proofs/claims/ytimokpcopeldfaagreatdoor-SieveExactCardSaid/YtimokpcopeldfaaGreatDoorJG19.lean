/- Joined texts: the reference's Then at a map, Of, Text; package sieve: root, falls, stays, floor, decimal, restsOf; package sieve: restsOf; package sieve: the mathematics of places along a word; TopWords: the mathematics: bounds of numbers of at most 601 signs along 40 steps; package katabasistop: wrapped, power, sameInts, short; the program's calls as TopWords meets them, every text a letter; package katabasistop: proper. -/
import Derived.Test.YtimokpcopeldfaaGreatDoorJG18
import Derived.Test.YtimokpcopeldfaaGreatDoorJG17
import Derived.Test.YtimokpcopeldfaaGreatDoorJG06
import Derived.Test.YtimokpcopeldfaaGreatDoorJG12
import Derived.Test.YtimokpcopeldfaaGreatDoorJG16
import Derived.StillTailTactics
import Derived.Deep.RegionHeldLaw
import Derived.Deep.AppendLies
set_option linter.unusedSimpArgs false
set_option linter.unusedVariables false
/- the reference's Then at a map, Of, Text -/
namespace Go.Proofs.YtimokpcopeldfaaGreatDoor
open Go.RowKit
theorem lineB_big {m : Int} {us ad : List Int} (hM : mapP m us ad) {k : Nat} {l : Int × Int × Int} (h : LineB k l) (hk : k ≤ 200) {r : Int} (h0 : 0 ≤ r) (h1 : r < m) :
    l.1.natAbs ≤ BIG ∧ l.2.1.natAbs ≤ BIG ∧ l.2.2.natAbs ≤ BIG ∧ (us.getD r.toNat 0 * l.2.1).natAbs ≤ BIG ∧ (ad.getD r.toNat 0 * l.2.2).natAbs ≤ BIG := by
  obtain ⟨f1, f2, f3, -, f5, f6, -⟩ := LineB.fits hM h hk h0 h1
  exact ⟨fits_big f1, fits_big f2, fits_big f3, by rw [Int.mul_comm]; exact fits_big f5, fits_big f6⟩
/-- Then, at a map -/
theorem then_any (v lv : Value) (m r : Int) (us ad : List Int) (l : Int × Int × Int) (k : Nat) (w : World) (hv : MapV w v m us ad) (hM : Hid (mapP m us ad)) (hl : LineR w lv l) (hB : Hid (LineB k l)) (hk : k ≤ 200) (h0 : 0 ≤ r) (h1 : r < m) :
    Calls Tryz.prog 50 #[v, lv, .int .i64 r] w (LinePost (thenL m us ad l r) w) := by
  have hr := rule_of hM.out h0 h1
  have hb := lineB_big hM.out hB.out hk h0 h1
  have hm := hM.out.2.1
  have hm1 := hM.out.1
  obtain ⟨A, n, cc, B, n2, d, rfl, e1, e2, e3, e4, e5, e6, -, -⟩ := hv
  obtain ⟨b1, A1, k1, c1, b2, A2, k2, c2, b3, A3, k3, c3, rfl, g1, g2, g3⟩ := hl
  obtain ⟨q, rfl⟩ : ∃ q : Nat, r = (q : Int) := ⟨r.toNat, by omega⟩
  obtain ⟨ba, oa, eA, -, -⟩ := e5.atI (k := q) (by have := hr.2.2.2.2.1; omega)
  obtain ⟨bb, ob, eB, -, -⟩ := e6.atI (k := q) (by have := hr.2.2.2.2.2; omega)
  subst eA eB
  have h := then_l ba oa bb ob n cc n2 d q (us.getD q 0) (ad.getD q 0) m l.1 l.2.1 l.2.2 b1 b2 b3 A1 A2 A3 k1 c1 k2 c2 k3 c3 us ad w e5 e6 e1 e3 g1 g2 g3 (by have := hr.2.2.2.2.1; omega) (by have := hr.2.2.2.2.2; omega) (hid rfl) (hid rfl)
    (hid hb) (hid (by have h1 := hr.1; have h2 := hr.2.1; simp only [Int.toNat_natCast] at h1 h2; omega)) (hid (by have h1 := hr.2.2.1; have h2 := hr.2.2.2.1; simp only [Int.toNat_natCast] at h1 h2; omega)) (hid (by omega))
  exact h
theorem take_next {ws : List Int} {j : Nat} (h : j < ws.length) : ws.take (j + 1) = ws.take j ++ [ws.getD j 0] := by
  rw [List.take_add_one, List.getElem?_eq_getElem h, List.getD_eq_getElem?_getD, List.getElem?_eq_getElem h]; rfl
theorem line_next (m : Int) (us ad : List Int) {ws : List Int} {j : Nat} (h : j < ws.length) : lineI m us ad (ws.take (j + 1)) = thenL m us ad (lineI m us ad (ws.take j)) (ws.getD j 0) := by
  rw [take_next h, lineI_snoc]
theorem word_at {m : Int} {ws : List Int} (hW : wordB m ws = true) {j : Nat} (h : j < ws.length) : 0 ≤ ws.getD j 0 ∧ ws.getD j 0 < m := by
  refine (wordB_iff.1 hW).2 _ ?_
  rw [List.getD_eq_getElem?_getD, List.getElem?_eq_getElem h]
  exact List.getElem_mem h
theorem take_B {m : Int} {us ad ws : List Int} (hM : mapP m us ad) (hW : wordB m ws = true) {j : Nat} (h : j ≤ ws.length) : LineB j (lineI m us ad (ws.take j)) := by
  have := lineI_B hM (ws.take j) (fun r hr => (wordB_iff.1 hW).2 r (List.mem_of_mem_take hr))
  rwa [List.length_take, Nat.min_eq_left h] at this
/-- a linear map's box written over -/
theorem LineR.over {w3 : World} {l : Int × Int × Int} {H : Nat} {b1 b2 b3 p1 p2 p3 : Bool} {A1 A2 A3 P1 P2 P3 : Option Addr} {k1 c1 k2 c2 k3 c3 q1 d1 q2 d2 q3 d3 : Nat} (r : Row w3 H 82 [.bool b1, .slice A1 k1 c1, .bool b2, .slice A2 k2 c2, .bool b3, .slice A3 k3 c3]) (h : LineR w3 (.agg #[.bool p1, .slice P1 q1 d1, .bool p2, .slice P2 q2 d2, .bool p3, .slice P3 q3 d3]) l) :
    LineR (((((((w3.setCell ⟨H, 0, none⟩ (.bool p1)).setCell ⟨H, 1, none⟩ (.slice P1 q1 d1)).setCell ⟨H, 2, none⟩ (.bool p2)).setCell ⟨H, 3, none⟩ (.slice P2 q2 d2)).setCell ⟨H, 4, none⟩ (.bool p3)).setCell ⟨H, 5, none⟩ (.slice P3 q3 d3))) (.agg #[.bool p1, .slice P1 q1 d1, .bool p2, .slice P2 q2 d2, .bool p3, .slice P3 q3 d3]) l := by
  have ho : Off w3 (((((((w3.setCell ⟨H, 0, none⟩ (.bool p1)).setCell ⟨H, 1, none⟩ (.slice P1 q1 d1)).setCell ⟨H, 2, none⟩ (.bool p2)).setCell ⟨H, 3, none⟩ (.slice P2 q2 d2)).setCell ⟨H, 4, none⟩ (.bool p3)).setCell ⟨H, 5, none⟩ (.slice P3 q3 d3))) H := (((((((Off.rfl' _ _).set _ _).set _ _).set _ _).set _ _).set _ _).set _ _)
  exact h.kept (ho.keep r (no_int6 _ _ _ _ _ _ _ _ _ _ _ _))
theorem Ext.set6 {w w3 : World} {H : Nat} {a b c d e f : Value} (hw : Ext w w3) (hH : w.heap.size ≤ H) : Ext w (((((((w3.setCell ⟨H, 0, none⟩ (a)).setCell ⟨H, 1, none⟩ (b)).setCell ⟨H, 2, none⟩ (c)).setCell ⟨H, 3, none⟩ (d)).setCell ⟨H, 4, none⟩ (e)).setCell ⟨H, 5, none⟩ (f))) :=
  ((((((hw.set' (by show _ ≤ H; omega) _).set' (by show _ ≤ H; omega) _).set' (by show _ ≤ H; omega) _).set' (by show _ ≤ H; omega) _).set' (by show _ ≤ H; omega) _).set' (by show _ ≤ H; omega) _)
theorem Off.six {w3 : World} {H : Nat} {a b c d e f : Value} : Off w3 (((((((w3.setCell ⟨H, 0, none⟩ (a)).setCell ⟨H, 1, none⟩ (b)).setCell ⟨H, 2, none⟩ (c)).setCell ⟨H, 3, none⟩ (d)).setCell ⟨H, 4, none⟩ (e)).setCell ⟨H, 5, none⟩ (f))) H := (((((((Off.rfl' _ _).set _ _).set _ _).set _ _).set _ _).set _ _).set _ _)
set_option maxRecDepth 100000 in
set_option maxHeartbeats 6400000 in
theorem text_l (b1 b2 b3 : Bool) (A1 A2 A3 : Option Addr) (k1 c1 k2 c2 k3 c3 : Nat) (X Y Z : Int) (s1 s2 s3 : ByteArray) (w : World) (h1 : RefV w (.agg #[.bool b1, .slice A1 k1 c1]) X) (h2 : RefV w (.agg #[.bool b2, .slice A2 k2 c2]) Y) (h3 : RefV w (.agg #[.bool b3, .slice A3 k3 c3]) Z)
    (HB : Hid (X.natAbs ≤ BIG ∧ Y.natAbs ≤ BIG ∧ Z.natAbs ≤ BIG)) (Hs1 : Hid (Str (K.txt X) = s1)) (Hs2 : Hid (Str (K.txt Y) = s2)) (Hs3 : Hid (Str (K.txt Z) = s3)) :
    Calls Tryz.prog 51 #[.agg #[.bool b1, .slice A1 k1 c1, .bool b2, .slice A2 k2 c2, .bool b3, .slice A3 k3 c3]] w (fun e w' => e = .returned (.agg #[.string s1, .string s2, .string s3]) ∧ Ext w w') := by
  have hx : Ext w ((w.alloc (.cells #[.bool b1, .slice A1 k1 c1, .bool b2, .slice A2 k2 c2, .bool b3, .slice A3 k3 c3] 82)).alloc (.cells #[.string ⟨#[]⟩, .string ⟨#[]⟩, .string ⟨#[]⟩] 38)) := ((Ext.rfl' w).alloc' _).alloc' _
  have hr1 : Row ((w.alloc (.cells #[.bool b1, .slice A1 k1 c1, .bool b2, .slice A2 k2 c2, .bool b3, .slice A3 k3 c3] 82)).alloc (.cells #[.string ⟨#[]⟩, .string ⟨#[]⟩, .string ⟨#[]⟩] 38)) w.heap.size 82 [.bool b1, .slice A1 k1 c1, .bool b2, .slice A2 k2 c2, .bool b3, .slice A3 k3 c3] := (Row.new w _ _).alloc _
  have hr2 : Row ((w.alloc (.cells #[.bool b1, .slice A1 k1 c1, .bool b2, .slice A2 k2 c2, .bool b3, .slice A3 k3 c3] 82)).alloc (.cells #[.string ⟨#[]⟩, .string ⟨#[]⟩, .string ⟨#[]⟩] 38)) (w.heap.size + 1) 38 [.string ⟨#[]⟩, .string ⟨#[]⟩, .string ⟨#[]⟩] := by
    have := Row.new (w.alloc (.cells #[.bool b1, .slice A1 k1 c1, .bool b2, .slice A2 k2 c2, .bool b3, .slice A3 k3 c3] 82)) 38 [.string ⟨#[]⟩, .string ⟨#[]⟩, .string ⟨#[]⟩]
    rwa [World.size_alloc] at this
  obtain ⟨W2, hW2⟩ : ∃ W2, ((w.alloc (.cells #[.bool b1, .slice A1 k1 c1, .bool b2, .slice A2 k2 c2, .bool b3, .slice A3 k3 c3] 82)).alloc (.cells #[.string ⟨#[]⟩, .string ⟨#[]⟩, .string ⟨#[]⟩] 38)) = W2 := ⟨_, rfl⟩
  rw [hW2] at hx hr1 hr2
  have HW2 := hid hW2
  have HX := hid hx
  have R1 := hid hr1
  have R2 := hid hr2
  have HL1 := hid (h1.ext hx)
  have HL2 := hid (h2.ext hx)
  have HL3 := hid (h3.ext hx)
  have HSO : Hid (∀ W' W'', Ext W2 W' → Off W' W'' (w.heap.size + 1) → W''.cell? ⟨w.heap.size, 0, none⟩ = some (.bool b1) ∧ W''.cell? ⟨w.heap.size, 1, none⟩ = some (.slice A1 k1 c1) ∧ W''.cell? ⟨w.heap.size, 2, none⟩ = some (.bool b2) ∧ W''.cell? ⟨w.heap.size, 3, none⟩ = some (.slice A2 k2 c2) ∧ W''.cell? ⟨w.heap.size, 4, none⟩ = some (.bool b3) ∧ W''.cell? ⟨w.heap.size, 5, none⟩ = some (.slice A3 k3 c3)) := hid (by
    intro W' W'' e ho
    obtain ⟨⟨q0, q1, q2, q3, q4, q5⟩, -⟩ := row_facts6 (ho.row (R1.out.ext e) (by omega))
    exact ⟨q0, q1, q2, q3, q4, q5⟩)
  have HS : Hid (∀ W', Ext W2 W' → W'.cell? ⟨w.heap.size, 0, none⟩ = some (.bool b1) ∧ W'.cell? ⟨w.heap.size, 1, none⟩ = some (.slice A1 k1 c1) ∧ W'.cell? ⟨w.heap.size, 2, none⟩ = some (.bool b2) ∧ W'.cell? ⟨w.heap.size, 3, none⟩ = some (.slice A2 k2 c2) ∧ W'.cell? ⟨w.heap.size, 4, none⟩ = some (.bool b3) ∧ W'.cell? ⟨w.heap.size, 5, none⟩ = some (.slice A3 k3 c3)) := hid fun W' e => HSO.out W' W' e (Off.rfl' _ _)
  clear hW2 hx hr1 hr2 h1 h2 h3
  go_enter Tryz.func51, Tryz.ntmps51
  have hcur : Ext W2 W2 := Ext.rfl' _
  go_upto_region 1 with fail
  rw [HW2.out]
  go_region_held3 (fun W' => W'.cell? ⟨w.heap.size, 0, none⟩ = some (.bool b1) ∧ W'.cell? ⟨w.heap.size, 1, none⟩ = some (.slice A1 k1 c1) ∧ W'.cell? ⟨w.heap.size, 2, none⟩ = some (.bool b2) ∧ W'.cell? ⟨w.heap.size, 3, none⟩ = some (.slice A2 k2 c2) ∧ W'.cell? ⟨w.heap.size, 4, none⟩ = some (.bool b3) ∧ W'.cell? ⟨w.heap.size, 5, none⟩ = some (.slice A3 k3 c3))
    (first | (with_reducible exact HS.out _ hcur) | (with_reducible exact HS.out _ hcur.drew') | (with_reducible exact HSO.out _ _ hcur ((((Off.rfl' _ _).set _ _).set _ _).set _ _)) | go_keep)
    (first
      | (go_at_call_of 26 (Value.agg #[Value.bool b1, Value.slice A1 k1 c1]); refine (rtext_s _ (HL1.out.ext ?_) HB.out.1 Hs1).mono ?_; (first | exact hcur | exact hcur.drew' | exact hcur.alloc' _ | exact hcur.drew'.alloc' _ | exact (hcur.alloc' _).drew'); rintro e w31 ⟨rfl, hx⟩; have hcur := Ext.step hcur (by first | exact hx | exact Ext.undrew hx | exact Ext.step ((Ext.rfl' _).alloc' _) hx | exact Ext.step ((Ext.rfl' _).drew'.alloc' _) hx))
      | (go_at_call_of 26 (Value.agg #[Value.bool b2, Value.slice A2 k2 c2]); refine (rtext_s _ (HL2.out.ext ?_) HB.out.2.1 Hs2).mono ?_; (first | exact hcur | exact hcur.drew' | exact hcur.alloc' _ | exact hcur.drew'.alloc' _ | exact (hcur.alloc' _).drew'); rintro e w32 ⟨rfl, hx⟩; have hcur := Ext.step hcur (by first | exact hx | exact Ext.undrew hx | exact Ext.step ((Ext.rfl' _).alloc' _) hx | exact Ext.step ((Ext.rfl' _).drew'.alloc' _) hx))
      | (go_at_call_of 26 (Value.agg #[Value.bool b3, Value.slice A3 k3 c3]); refine (rtext_s _ (HL3.out.ext ?_) HB.out.2.2 Hs3).mono ?_; (first | exact hcur | exact hcur.drew' | exact hcur.alloc' _ | exact hcur.drew'.alloc' _ | exact (hcur.alloc' _).drew'); rintro e w33 ⟨rfl, hx⟩; have hcur := Ext.step hcur (by first | exact hx | exact Ext.undrew hx | exact Ext.step ((Ext.rfl' _).alloc' _) hx | exact Ext.step ((Ext.rfl' _).drew'.alloc' _) hx); (have hyy := row_facts3 (R2.out.ext hcur); obtain ⟨y0, y1, y2, y3, y4, y5⟩ := hyy)))
  all_goals
    have HF := hid ((HX.out.step hcur).set3 (H := w.heap.size + 1) (a := .string s1) (b := .string s2) (c := .string s3) (by omega))
    go_wp2
    refine bodyPost_ret (v := .agg #[.string s1, .string s2, .string s3]) (by simp [results, Tryz.results51, go_sem, y0, y1, y2]) rfl ⟨rfl, HF.out⟩
/-- the reference's Text, in the words of Line -/
theorem text_line (v : Value) (l : Int × Int × Int) (w : World) (h : LineR w v l) (s1 s2 s3 : ByteArray) (HB : Hid (K.fits l.1 ∧ K.fits l.2.1 ∧ K.fits l.2.2)) (Hs1 : Hid (Str (K.txt l.1) = s1)) (Hs2 : Hid (Str (K.txt l.2.1) = s2)) (Hs3 : Hid (Str (K.txt l.2.2) = s3)) :
    Calls Tryz.prog 51 #[v] w (fun e w' => e = .returned (.agg #[.string s1, .string s2, .string s3]) ∧ Ext w w') := by
  obtain ⟨b1, A1, k1, c1, b2, A2, k2, c2, b3, A3, k3, c3, rfl, h1, h2, h3⟩ := h
  exact text_l b1 b2 b3 A1 A2 A3 k1 c1 k2 c2 k3 c3 l.1 l.2.1 l.2.2 s1 s2 s3 w h1 h2 h3 (hid ⟨fits_big HB.out.1, fits_big HB.out.2.1, fits_big HB.out.2.2⟩) Hs1 Hs2 Hs3
end Go.Proofs.YtimokpcopeldfaaGreatDoor
/- package sieve: root, falls, stays, floor, decimal, restsOf -/
namespace Go.Proofs.YtimokpcopeldfaaGreatDoor
open Go.RowKit
/-- a place: steps, rest, the linear map of its word -/
def PlV (s r mu ad di : Int) : Value := .agg #[.int .i64 s, .int .i64 r, .int .i64 mu, .int .i64 ad, .int .i64 di]
theorem row_facts5 {w : World} {g : Nat} {t : TypeId} {a b c d e : Value} (h : Row w g t [a, b, c, d, e]) :
    w.cell? ⟨g, 0, none⟩ = some a ∧ w.cell? ⟨g, 1, none⟩ = some b ∧ w.cell? ⟨g, 2, none⟩ = some c ∧ w.cell? ⟨g, 3, none⟩ = some d ∧ w.cell? ⟨g, 4, none⟩ = some e :=
  ⟨by rw [h.cell]; rfl, by rw [h.cell]; rfl, by rw [h.cell]; rfl, by rw [h.cell]; rfl, by rw [h.cell]; rfl⟩
set_option maxRecDepth 100000 in
set_option maxHeartbeats 800000 in
theorem root_any (w : World) : Calls Tryz.prog 61 #[] w (fun e w' => e = .returned (PlV 0 0 1 0 1) ∧ Ext w w') := by
  go_enter Tryz.func61, Tryz.ntmps61
  go_wp2
  refine bodyPost_ret (v := PlV 0 0 1 0 1) (by simp [results, Tryz.results61, go_sem, PlV]) rfl ⟨rfl, (Ext.rfl' w).alloc' _⟩
set_option maxRecDepth 100000 in
set_option maxHeartbeats 800000 in
theorem falls_any (s r mu ad di : Int) (w : World) {b : Bool} (hb : Hid (b = true ↔ mu < di)) :
    Calls Tryz.prog 56 #[PlV s r mu ad di] w (fun e w' => e = .returned (.bool b) ∧ Ext w w') := by
  unfold PlV
  have hx : Ext w (w.alloc (.cells #[.int .i64 s, .int .i64 r, .int .i64 mu, .int .i64 ad, .int .i64 di] 91)) := (Ext.rfl' w).alloc' _
  have hr : Row (w.alloc (.cells #[.int .i64 s, .int .i64 r, .int .i64 mu, .int .i64 ad, .int .i64 di] 91)) w.heap.size 91 [.int .i64 s, .int .i64 r, .int .i64 mu, .int .i64 ad, .int .i64 di] := Row.new w _ _
  obtain ⟨W1, hW1⟩ : ∃ W1, (w.alloc (.cells #[.int .i64 s, .int .i64 r, .int .i64 mu, .int .i64 ad, .int .i64 di] 91)) = W1 := ⟨_, rfl⟩
  rw [hW1] at hx hr
  have HX := hid hx
  have HW1 := hid hW1
  obtain ⟨p0, p1, p2, p3, p4⟩ := row_facts5 hr
  clear hW1 hx hr
  have hbb : decide (mu < di) = b := by
    cases b with
    | true => exact decide_eq_true (hb.out.1 rfl)
    | false => exact decide_eq_false (fun h => by have := hb.out.2 h; cases this)
  go_enter Tryz.func56, Tryz.ntmps56
  go_upto_region 1 with fail
  rw [HW1.out]
  go_wp2
  go_ret
  exact ⟨rfl, HX.out⟩
set_option maxRecDepth 100000 in
set_option maxHeartbeats 800000 in
theorem stays_any (s r mu ad di wh : Int) (w : World) {b : Bool} (hb : Hid (b = true ↔ (wh ≤ mu ∨ di = wh))) :
    Calls Tryz.prog 58 #[PlV s r mu ad di, .int .i64 wh] w (fun e w' => e = .returned (.bool b) ∧ Ext w w') := by
  unfold PlV
  have hx : Ext w (w.alloc (.cells #[.int .i64 s, .int .i64 r, .int .i64 mu, .int .i64 ad, .int .i64 di] 91)) := (Ext.rfl' w).alloc' _
  have hr : Row (w.alloc (.cells #[.int .i64 s, .int .i64 r, .int .i64 mu, .int .i64 ad, .int .i64 di] 91)) w.heap.size 91 [.int .i64 s, .int .i64 r, .int .i64 mu, .int .i64 ad, .int .i64 di] := Row.new w _ _
  obtain ⟨W1, hW1⟩ : ∃ W1, (w.alloc (.cells #[.int .i64 s, .int .i64 r, .int .i64 mu, .int .i64 ad, .int .i64 di] 91)) = W1 := ⟨_, rfl⟩
  rw [hW1] at hx hr
  have HX := hid hx
  have HW1 := hid hW1
  obtain ⟨p0, p1, p2, p3, p4⟩ := row_facts5 hr
  clear hW1 hx hr
  by_cases h1 : wh ≤ mu
  · obtain rfl : b = true := hb.out.2 (.inl h1)
    clear hb
    go_enter Tryz.func58, Tryz.ntmps58
    go_upto_region 1 with fail
    rw [HW1.out]
    go_wp2
    go_ret
    exact ⟨rfl, HX.out⟩
  · by_cases h2 : di = wh
    · obtain rfl : b = true := hb.out.2 (.inr h2)
      subst h2
      clear hb
      go_enter Tryz.func58, Tryz.ntmps58
      go_upto_region 1 with fail
      rw [HW1.out]
      go_wp2
      go_ret
      exact ⟨by simp, HX.out⟩
    · obtain rfl : b = false := by
        cases b with
        | false => rfl
        | true => rcases hb.out.1 rfl with h | h <;> contradiction
      have q1 : (di == wh) = false := beq_eq_false_iff_ne.2 h2
      clear hb
      go_enter Tryz.func58, Tryz.ntmps58
      go_upto_region 1 with fail
      rw [HW1.out]
      go_wp2
      go_ret
      exact ⟨by simp [q1], HX.out⟩
theorem floor_eq {a b : Int} (hb : 0 < b) : a / b = if Int.tmod a b < 0 then Int.tdiv a b - 1 else Int.tdiv a b := by
  obtain ⟨n, rfl⟩ := Int.eq_ofNat_of_zero_le (show 0 ≤ b by omega)
  rcases Int.le_total 0 a with h | h
  · obtain ⟨k, rfl⟩ := Int.eq_ofNat_of_zero_le h
    rw [Int.tmod_eq_emod_of_nonneg h, Int.tdiv_eq_ediv_of_nonneg h, if_neg (by have := Int.emod_nonneg (k : Int) (show (n : Int) ≠ 0 by omega); omega)]
  · obtain ⟨k, hk⟩ := Int.eq_ofNat_of_zero_le (show 0 ≤ -a by omega)
    obtain rfl : a = -(k : Int) := by omega
    rw [Int.neg_tmod, Int.neg_tdiv, Int.tmod_eq_emod_of_nonneg (by omega), Int.tdiv_eq_ediv_of_nonneg (by omega)]
    have h1 := Int.emod_nonneg (k : Int) (show (n : Int) ≠ 0 by omega)
    have h2 := Int.emod_lt_of_pos (k : Int) hb
    have h3 := Int.emod_add_mul_ediv (k : Int) (n : Int)
    by_cases h0 : (k : Int) % (n : Int) = 0
    · rw [if_neg (by omega)]
      have e : -(k : Int) = (n : Int) * (-((k : Int) / (n : Int))) := by rw [Int.mul_neg]; omega
      rw [e, Int.mul_ediv_cancel_left _ (by omega)]
    · rw [if_pos (by omega)]
      have e : -(k : Int) = ((n : Int) - (k : Int) % (n : Int)) + (n : Int) * (-((k : Int) / (n : Int)) - 1) := by rw [Int.mul_sub, Int.mul_neg, Int.mul_one]; omega
      rw [e, Int.add_mul_ediv_left _ _ (by omega), Int.ediv_eq_zero_of_lt (by omega) (by omega)]
      omega
set_option maxRecDepth 100000 in
set_option maxHeartbeats 1600000 in
theorem floor_any (a b : Int) (w : World) (hb : 0 < b) (h0 : -9223372036854775808 < a) (h1 : a ≤ 9223372036854775807) (h2 : b ≤ 9223372036854775807) :
    Calls Tryz.prog 99 #[.int .i64 a, .int .i64 b] w (fun e w' => e = .returned (.int .i64 (a / b)) ∧ Ext w w') := by
  have hb0 : ¬ b = 0 := by omega
  have hq : (Int.tdiv a b).natAbs ≤ a.natAbs := by rw [Int.natAbs_tdiv]; exact Nat.div_le_self _ _
  have e := floor_eq (a := a) hb
  have HQ : IntKind.i64.wrap (Int.tdiv a b) = Int.tdiv a b := IntWalk.i64_in _ (by omega)
  by_cases hn : Int.tmod a b < 0
  · rw [if_pos hn] at e
    have hlt : -9223372036854775808 ≤ Int.tdiv a b - 1 := by
      have h3 : Int.tdiv a b - 1 = a / b := e.symm
      omega
    have HQ2 : IntKind.i64.wrap (Int.tdiv a b - 1) = Int.tdiv a b - 1 := IntWalk.i64_in _ (by omega)
    have HE := hid e
    clear e hq hlt
    go_enter Tryz.func99, Tryz.ntmps99
    go_wp2
    go_ret
    exact ⟨by rw [HE.out]; rfl, Ext.rfl' _⟩
  · rw [if_neg hn] at e
    have HE := hid e
    clear e hq
    go_enter Tryz.func99, Tryz.ntmps99
    go_wp2
    go_ret
    exact ⟨by rw [HE.out]; rfl, Ext.rfl' _⟩
set_option maxRecDepth 100000 in
set_option maxHeartbeats 800000 in
theorem decimal_s (n : Int) (s : ByteArray) (w : World) (hs : Hid (Str (K.txt n) = s)) (h0 : -9223372036854775808 ≤ n) (h1 : n ≤ 9223372036854775807) (ht : Tab w) :
    Calls Tryz.prog 98 #[.int .i64 n] w (fun e w' => e = .returned (.string s) ∧ Ext w w') := by
  have HT := hid ht
  go_enter Tryz.func98, Tryz.ntmps98
  go_wp2_with fail
  refine (format_any n w h0 h1 HT.out).mono ?_
  rintro e w2 ⟨rfl, hx⟩
  rw [hs.out]
  have HX := hid hx
  clear hx
  go_wp2
  go_ret
  exact ⟨rfl, HX.out⟩
end Go.Proofs.YtimokpcopeldfaaGreatDoor
/- package sieve: restsOf -/
namespace Go.Proofs.YtimokpcopeldfaaGreatDoor
open Go.RowKit
/-- the map and k suit a sieve -/
def SuitP (m : Int) (us : List Int) (k : Int) : Prop := regB m us = true ∧ 1 ≤ k ∧ m ^ k.toNat ≤ 65536
/-- what restsOf tells -/
def RestsC (m : Int) (us : List Int) (k wh c : Int) : Prop := (SuitP m us k ∧ wh = m ^ k.toNat ∧ c = 0) ∨ (¬ SuitP m us k ∧ wh = 0 ∧ c = 2)
theorem pow_grow {m : Int} (hm : 2 ≤ m) {i j : Nat} (h : i ≤ j) : m ^ i ≤ m ^ j := by
  obtain ⟨d, rfl⟩ := Nat.exists_eq_add_of_le h
  rw [Int.pow_add]
  have h1 : 0 < m ^ i := Int.pow_pos (by omega)
  have h2 : 0 < m ^ d := Int.pow_pos (by omega)
  have : m ^ i * 1 ≤ m ^ i * m ^ d := Int.mul_le_mul_of_nonneg_left (by omega) (by omega)
  omega
set_option maxRecDepth 100000 in
set_option maxHeartbeats 3200000 in
theorem restsOf_any (v : Value) (m : Int) (us ad : List Int) (k : Int) (w : World) (hv : MapV w v m us ad) (hM : Hid (mapP m us ad)) (hk : -9223372036854775808 ≤ k) (hk2 : k ≤ 9223372036854775807) :
    Calls Tryz.prog 54 #[v, .int .i64 k] w (fun e w' => ∃ wh c, e = .returned (.tuple #[.int .i64 wh, .int .i64 c]) ∧ RestsC m us k wh c ∧ Ext w w') := by
  have hm := hM.out.1
  have hm2 := hM.out.2.1
  have HV := hid hv
  obtain ⟨A, n, cc, B, n2, d, rfl, -⟩ := hv
  have hx : Ext w (w.alloc (.cells #[.int .i64 m, .slice A n cc, .slice B n2 d] 24)) := (Ext.rfl' w).alloc' _
  have hr : Row (w.alloc (.cells #[.int .i64 m, .slice A n cc, .slice B n2 d] 24)) w.heap.size 24 [.int .i64 m, .slice A n cc, .slice B n2 d] := Row.new w _ _
  obtain ⟨W1, hW1⟩ : ∃ W1, (w.alloc (.cells #[.int .i64 m, .slice A n cc, .slice B n2 d] 24)) = W1 := ⟨_, rfl⟩
  rw [hW1] at hx hr
  have HX := hid hx
  have HR := hid hr
  have HW1 := hid hW1
  obtain ⟨f0, f1, f2, -, -, -⟩ := row_facts3 hr
  obtain ⟨rb, hrb⟩ : ∃ rb, regB m us = rb := ⟨_, rfl⟩
  have HRB := hid hrb
  have hcon := regular_ok (.agg #[.int .i64 m, .slice A n cc, .slice B n2 d]) m us ad W1 (HV.out.ext hx) hM
  rw [hrb] at hcon
  have HC := hid hcon
  clear hW1 hx hr hrb hcon
  go_enter Tryz.func54, Tryz.ntmps54
  go_upto_region 1 with fail
  rw [HW1.out]
  go_wp2_with fail
  refine HC.out.mono ?_
  rintro e w2 ⟨rfl, hx2⟩
  have HX2 := hid (HX.out.step hx2)
  have H12 := hid hx2
  clear f0 f1 f2 hx2
  cases rb with
  | false =>
    have HN : Hid (RestsC m us k 0 2) := hid (.inr ⟨(fun h => by have e := HRB.out; rw [h.1] at e; cases e), rfl, rfl⟩)
    go_wp2
    go_ret2
    exact ⟨0, 2, rfl, HN.out, HX2.out⟩
  | true =>
    by_cases h1 : k < 1
    · have HN : Hid (RestsC m us k 0 2) := hid (.inr ⟨(fun h => by have := h.2.1; omega), rfl, rfl⟩)
      go_wp2
      go_ret2
      exact ⟨0, 2, rfl, HN.out, HX2.out⟩
    · obtain ⟨q, rfl⟩ : ∃ q : Nat, k = (q : Int) := ⟨k.toNat, by omega⟩
      have HK1 := hid h1
      go_wp2_with fail
      go_loopw [8, 24] (fun wv iv wr => ∃ j : Nat, j ≤ q ∧ wv = .int .i64 (m ^ j) ∧ iv = .int .i64 (j : Int) ∧ Hid (m ^ j ≤ 65536) ∧ Ext w2 wr) (fun _ iv _ => q - (intOf iv).toNat)
      case atStart => exact ⟨0, by omega, by simp, rfl, hid (by simp), Ext.rfl' _⟩
      case round =>
        obtain ⟨j, hj, rfl, rfl, HP, hex⟩ := hrel
        by_cases hlt : j < q
        · obtain ⟨P, hP⟩ : ∃ P, m ^ j = P := ⟨_, rfl⟩
          have hp0 : 0 < m ^ j := Int.pow_pos (by omega)
          rw [hP] at hp0
          have hp1 : P ≤ 65536 := by rw [← hP]; exact HP.out
          have c1 : (P * m).natAbs ≤ 65536 * 12 := by rw [Int.natAbs_mul]; exact Nat.mul_le_mul (by omega) (by omega)
          have W1w : IntKind.i64.wrap (P * m) = P * m := IntWalk.i64_in _ (by omega)
          have HPE := hid hP
          have HEX := hid hex
          rw [hP]
          obtain ⟨f0, f1, f2, -, -, -⟩ := row_facts3 (HR.out.ext (H12.out.step hex))
          clear hP hp0 hp1 c1 hex
          by_cases hg : 65536 < P * m
          · have HN : Hid (RestsC m us (q : Int) 0 2) := hid (.inr ⟨(fun h => by
              have h2 := h.2.2
              rw [Int.toNat_natCast] at h2
              have h3 := pow_grow (m := m) hm (show j + 1 ≤ q by omega)
              rw [Int.pow_succ, HPE.out] at h3
              omega), rfl, rfl⟩)
            have HF := hid (HX2.out.step HEX.out)
            go_wp2
            go_ret2
            exact ⟨0, 2, rfl, HN.out, HF.out⟩
          · have HPN := hid (show m ^ (j + 1) ≤ 65536 by rw [Int.pow_succ, HPE.out]; omega)
            go_wp2
            go_roundw
            case rel => exact ⟨j + 1, by omega, by rw [Int.pow_succ, HPE.out], by simp, HPN, HEX.out⟩
            case measure => first | (simp [intOf]; done) | (simp [intOf]; omega)
        · obtain rfl : j = q := by omega
          have HN : Hid (RestsC m us (j : Int) (m ^ j) 0) := hid (.inl ⟨⟨HRB.out, by have := HK1.out; omega, by rw [Int.toNat_natCast]; exact HP.out⟩, by rw [Int.toNat_natCast], rfl⟩)
          have HF := hid (HX2.out.step hex)
          go_wp2
          go_ret2
          exact ⟨m ^ j, 0, rfl, HN.out, HF.out⟩
end Go.Proofs.YtimokpcopeldfaaGreatDoor
/- package sieve: the mathematics of places along a word -/
namespace Go.Proofs.YtimokpcopeldfaaGreatDoor
open Go.RowKit
theorem mod_diff {X Y M : Int} (h : X % M = Y % M) : ∃ D, Y = X + D * M := by
  refine ⟨Y / M - X / M, ?_⟩
  have h1 := Int.emod_add_mul_ediv X M
  have h2 := Int.emod_add_mul_ediv Y M
  rw [Int.sub_mul, Int.mul_comm (Y / M), Int.mul_comm (X / M)]
  omega
theorem wordI_congr {m : Int} {us ad : List Int} (hm : 0 < m) {s : Nat} {X Y : Int} (h : X % m ^ s = Y % m ^ s) : wordI m us ad s Y = wordI m us ad s X := by
  obtain ⟨D, rfl⟩ := mod_diff h
  unfold wordI
  refine List.map_congr_left fun i hi => ?_
  exact alike_rest hm s X D i (List.mem_range.1 hi)
theorem orb_congr {m : Int} {us ad : List Int} (hm : 0 < m) {s : Nat} {X Y : Int} (h : X % m ^ (s + 1) = Y % m ^ (s + 1)) : orbN m us ad s Y % m = orbN m us ad s X % m := by
  obtain ⟨D, rfl⟩ := mod_diff h
  exact alike_rest hm (s + 1) X D s (Nat.lt_succ_self s)
theorem mod_next {m : Int} (hm : 0 < m) (s : Nat) (X : Int) : X % m ^ (s + 1) = X % m ^ s + (X / m ^ s) % m * m ^ s := by
  have hp : 0 < m ^ s := Int.pow_pos hm
  have h1 := Int.emod_add_mul_ediv X (m ^ s)
  have h2 := Int.emod_add_mul_ediv (X / m ^ s) m
  have h3 := Int.emod_nonneg X (show m ^ s ≠ 0 by omega)
  have h4 := Int.emod_lt_of_pos X hp
  have h5 := Int.emod_nonneg (X / m ^ s) (show m ≠ 0 by omega)
  have h6 := Int.emod_lt_of_pos (X / m ^ s) hm
  have e1 : m ^ (s + 1) = m ^ s * m := Int.pow_succ m s
  generalize m ^ s = P at *
  generalize X / P = q at *
  generalize X % P = r at *
  generalize q / m = qq at *
  generalize q % m = t at *
  have e : X = (r + t * P) + m ^ (s + 1) * qq := by
    rw [e1, ← h1, ← h2, Int.mul_add, Int.mul_assoc, Int.mul_comm P t]
    omega
  have b1 : 0 ≤ t * P := Int.mul_nonneg h5 (by omega)
  have b2 : t * P ≤ (m - 1) * P := Int.mul_le_mul_of_nonneg_right (by omega) (by omega)
  have b3 : (m - 1) * P = P * m - P := by rw [Int.sub_mul, Int.one_mul, Int.mul_comm]
  rw [e, Int.add_mul_emod_self_left, Int.emod_eq_of_lt (by omega) (by omega)]
theorem digit_eq {m : Int} (hm : 0 < m) {s k : Nat} (h : s < k) (X : Int) : (X % m ^ k) / m ^ s % m = (X / m ^ s) % m := by
  obtain ⟨d, rfl⟩ := Nat.exists_eq_add_of_lt h
  have hp : 0 < m ^ s := Int.pow_pos hm
  have h1 := Int.emod_add_mul_ediv X (m ^ (s + d + 1))
  have e1 : m ^ (s + d + 1) = m ^ s * (m ^ d * m) := by rw [Nat.add_assoc, Int.pow_add, Int.pow_succ]
  have e2 : X = X % m ^ (s + d + 1) + m ^ s * (m * (m ^ d * (X / m ^ (s + d + 1)))) := by
    rw [e1] at h1 ⊢
    rw [show m ^ s * (m * (m ^ d * (X / (m ^ s * (m ^ d * m))))) = m ^ s * (m ^ d * m) * (X / (m ^ s * (m ^ d * m))) by
      rw [Int.mul_assoc (m ^ s), Int.mul_comm (m ^ d) m, Int.mul_assoc m]]
    exact h1.symm
  conv => rhs; rw [e2]
  rw [Int.add_mul_ediv_left _ _ (by omega), Int.add_mul_emod_self_left]
/-- the linear map of the word of X, s steps long -/
def lnX (m : Int) (us ad : List Int) (X : Int) (s : Nat) : Int × Int × Int := lineI m us ad (wordI m us ad s X)
theorem lnX_div (m : Int) (us ad : List Int) (X : Int) (s : Nat) : (lnX m us ad X s).2.2 = m ^ s := by rw [lnX, lineI_div, word_len]
theorem lnX_next (m : Int) (us ad : List Int) (X : Int) (s : Nat) : lnX m us ad X (s + 1) = thenL m us ad (lnX m us ad X s) (orbN m us ad s X % m) := by
  unfold lnX; rw [word_snoc, lineI_snoc]
/-- the word of X falls, s steps long -/
def FallsAt (m : Int) (us ad : List Int) (X : Int) (s : Nat) : Prop := (lnX m us ad X s).1 < m ^ s
theorem rest_ok2 {m : Int} (hm : 0 < m) (x : Int) : 0 ≤ x % m ∧ x % m < m := ⟨Int.emod_nonneg _ (by omega), Int.emod_lt_of_pos _ hm⟩
theorem lnX_grow {m : Int} {us ad : List Int} (hM : mapP m us ad) (X : Int) : ∀ (d s : Nat), 1 ≤ (lnX m us ad X s).1 → (lnX m us ad X s).1 ≤ (lnX m us ad X (s + d)).1
  | 0, s, _ => Int.le_refl _
  | d + 1, s, h => by
    have ih := lnX_grow hM X d s h
    have hr := rest_ok2 (show 0 < m by have := hM.1; omega) (orbN m us ad (s + d) X)
    obtain ⟨u1, u2, -⟩ := rule_of hM hr.1 hr.2
    rw [← Nat.add_assoc, lnX_next]
    show _ ≤ us.getD (orbN m us ad (s + d) X % m).toNat 0 * (lnX m us ad X (s + d)).1
    have : 1 * (lnX m us ad X (s + d)).1 ≤ us.getD (orbN m us ad (s + d) X % m).toNat 0 * (lnX m us ad X (s + d)).1 := Int.mul_le_mul_of_nonneg_right u1 (by omega)
    omega
theorem lnX_pos {m : Int} {us ad : List Int} (hM : mapP m us ad) (X : Int) (s : Nat) : 1 ≤ (lnX m us ad X s).1 := by
  have h := lnX_grow hM X s 0 (by show (1 : Int) ≤ 1; omega)
  rw [Nat.zero_add] at h
  have : (lnX m us ad X 0).1 = 1 := rfl
  omega
theorem no_fall {m : Int} {us ad : List Int} (hM : mapP m us ad) {X : Int} {k s : Nat} (h : m ^ k ≤ (lnX m us ad X s).1) (j : Nat) (h1 : s ≤ j) (h2 : j ≤ k) : ¬ FallsAt m us ad X j := by
  obtain ⟨d, rfl⟩ := Nat.exists_eq_add_of_le h1
  have h3 := lnX_grow hM X d s (lnX_pos hM X s)
  have h4 := pow_grow (m := m) hM.1 h2
  unfold FallsAt
  omega
theorem lnX_add {m : Int} {us ad : List Int} (hM : mapP m us ad) (X : Int) : ∀ s : Nat, (lnX m us ad X s).2.1.natAbs ≤ 1000000 * ((lnX m us ad X s).1.natAbs * (m ^ s).natAbs)
  | 0 => by show (0 : Int).natAbs ≤ _; simp
  | s + 1 => by
    have ih := lnX_add hM X s
    have hp := lnX_pos hM X s
    have hm := hM.1
    have hr := rest_ok2 (show 0 < m by omega) (orbN m us ad s X)
    obtain ⟨u1, u2, a1, a2, -⟩ := rule_of hM hr.1 hr.2
    have hd := lnX_div m us ad X s
    rw [lnX_next]
    unfold thenL
    rw [hd]
    generalize us.getD (orbN m us ad s X % m).toNat 0 = u at *
    generalize ad.getD (orbN m us ad s X % m).toNat 0 = a at *
    generalize (lnX m us ad X s).1 = M at *
    generalize (lnX m us ad X s).2.1 = A at *
    rw [Int.pow_succ]
    generalize m ^ s = P at *
    show (u * A + a * P).natAbs ≤ 1000000 * ((u * M).natAbs * (P * m).natAbs)
    have e1 : (u * A + a * P).natAbs ≤ u.natAbs * A.natAbs + a.natAbs * P.natAbs := by
      have := Int.natAbs_add_le (u * A) (a * P)
      rwa [Int.natAbs_mul, Int.natAbs_mul] at this
    have e2 : u.natAbs * A.natAbs ≤ u.natAbs * (1000000 * (M.natAbs * P.natAbs)) := Nat.mul_le_mul_left _ ih
    have e3 : a.natAbs * P.natAbs ≤ 1000000 * (u.natAbs * M.natAbs * P.natAbs) := by
      have h1 : 1 ≤ u.natAbs * M.natAbs := Nat.mul_pos (by omega) (by omega)
      have h2 : a.natAbs * P.natAbs ≤ 1000000 * P.natAbs := Nat.mul_le_mul_right _ (by omega)
      have h3 : 1 * P.natAbs ≤ u.natAbs * M.natAbs * P.natAbs := Nat.mul_le_mul_right _ h1
      omega
    have e4 : u.natAbs * (1000000 * (M.natAbs * P.natAbs)) = 1000000 * (u.natAbs * M.natAbs * P.natAbs) := by
      rw [Nat.mul_left_comm, Nat.mul_assoc u.natAbs M.natAbs P.natAbs]
    have e5 : (u * M).natAbs * (P * m).natAbs = (u.natAbs * M.natAbs * P.natAbs) * m.natAbs := by
      rw [Int.natAbs_mul, Int.natAbs_mul]
      exact (Nat.mul_assoc (u.natAbs * M.natAbs) P.natAbs m.natAbs).symm
    have e6 : (u.natAbs * M.natAbs * P.natAbs) * 2 ≤ (u.natAbs * M.natAbs * P.natAbs) * m.natAbs := Nat.mul_le_mul_left _ (by omega)
    rw [e5]
    omega
end Go.Proofs.YtimokpcopeldfaaGreatDoor
/- TopWords: the mathematics: bounds of numbers of at most 601 signs along 40 steps -/
namespace Go.Proofs.YtimokpcopeldfaaGreatDoor
open Go.RowKit
/-- less than 10^(9 e), with room for a million -/
def Sm (e : Nat) (x : Int) : Prop := x.natAbs + 1000000 ≤ TOP e
theorem top_lim : TOP 222 ≤ K.LIM := by rw [← pw_top]; exact K.pw_mono (by omega)
theorem Sm.mono {e f : Nat} {x : Int} (h : Sm e x) (hf : e ≤ f) : Sm f x := Nat.le_trans h (TOP_mono hf)
theorem Sm.fits {e : Nat} {x : Int} (h : Sm e x) (he : e ≤ 222) : K.fits x := by
  have h1 : x.natAbs + 1000000 ≤ TOP 222 := h.mono he
  have h2 := top_lim
  have h3 : x.natAbs < K.LIM := by omega
  exact h3
theorem Sm.big {e : Nat} {x : Int} (h : Sm e x) (he : e ≤ 222) : x.natAbs ≤ BIG := fits_big (h.fits he)
theorem top_step (e f : Nat) (h : e < f) : 1000000000 * TOP e ≤ TOP f := by
  have h1 : TOP (1 + e) ≤ TOP f := TOP_mono (by omega)
  rw [TOP_add] at h1
  exact h1
theorem Sm.add {e f : Nat} {x y : Int} (hx : Sm e x) (hy : Sm e y) (h : e < f) : Sm f (x + y) := by
  have h1 := top_step e f h
  have h2 := Int.natAbs_add_le x y
  unfold Sm at *
  omega
theorem Sm.mul {e d f : Nat} {x y : Int} (hx : Sm e x) (hy : y.natAbs ≤ TOP d) (h : e + d < f) : Sm f (x * y) := by
  have h1 := top_step (e + d) f h
  have h3 := TOP_pos (e + d)
  have h4 : x.natAbs * y.natAbs ≤ TOP e * TOP d := Nat.mul_le_mul (by unfold Sm at hx; omega) hy
  rw [← TOP_add] at h4
  unfold Sm
  rw [Int.natAbs_mul]
  omega
theorem pw_plus (a b : Nat) : K.pw (a + b) = K.pw a * K.pw b := Nat.pow_add _ _ _
theorem valid_sm {l : List UInt8} (hv : K.validL l = true) (hl : l.length ≤ 601) : Sm 67 (K.numL l) := by
  have h1 := (K.txt_numL l hv).1
  have h2 : (K.dgs (K.numL l).natAbs).length ≤ l.length := by
    have : (K.dgs (K.numL l).natAbs).length ≤ (K.txt (K.numL l)).length := by unfold K.txt; split <;> simp
    rwa [h1] at this
  have h3 := (K.dgs_lenp (K.numL l).natAbs 601 (by omega)).1 (by omega)
  have h4 : K.pw 2 * K.pw 601 = TOP 67 := by
    rw [← pw_top, ← pw_plus]
  have h7 : K.pw 2 = 100 := rfl
  rw [h7] at h4
  have h5 : K.pw 6 ≤ K.pw 601 := K.pw_mono (by omega)
  have h6 : K.pw 6 = 1000000 := rfl
  unfold Sm
  omega
theorem pow_le_top {m : Int} (hm : 0 ≤ m) (hm2 : m ≤ 1000) {k : Nat} (hk : k ≤ 40) : (m ^ k).natAbs ≤ TOP 14 := by
  have h2 : (m ^ k).natAbs ≤ 1000 ^ k := by rw [Int.natAbs_pow]; exact Nat.pow_le_pow_left (by omega) k
  exact Nat.le_trans h2 (thousand_le k 14 (by omega))
theorem orb_le {m : Int} {us ad : List Int} (hM : mapP m us ad) (x : Int) : ∀ k, (orbN m us ad k x).natAbs + 1000000 ≤ 1000 ^ k * (x.natAbs + 1000000)
  | 0 => by simp [orbN]
  | k + 1 => by
    have ih := orb_le hM x k
    have h := stepI_le hM (x := orbN m us ad k x)
    show (stepI m us ad (orbN m us ad k x)).natAbs + 1000000 ≤ _
    rw [Nat.pow_succ, Nat.mul_assoc, Nat.mul_left_comm]
    omega
theorem Sm.orb {m : Int} {us ad : List Int} (hM : mapP m us ad) {e f : Nat} {x : Int} (hx : Sm e x) {k : Nat} (hk : k ≤ 40) (h : e + 14 ≤ f) : Sm f (orbN m us ad k x) := by
  have h1 := orb_le hM x k
  have h2 : 1000 ^ k ≤ TOP 14 := thousand_le k 14 (by omega)
  have h3 : 1000 ^ k * (x.natAbs + 1000000) ≤ TOP 14 * TOP e := Nat.mul_le_mul h2 hx
  rw [← TOP_add] at h3
  have h4 : TOP (14 + e) ≤ TOP f := TOP_mono (by omega)
  unfold Sm
  omega
theorem grow_top14 {m : Int} {us ad : List Int} (hM : mapP m us ad) (x : Int) {k : Nat} (hk : k ≤ 40) : (growN m us ad k x).natAbs ≤ TOP 14 :=
  Nat.le_trans (grow_le hM x k) (thousand_le k 14 (by omega))
/-- the other number, and all along its orbit -/
theorem words_sm {m : Int} {us ad : List Int} (hM : mapP m us ad) {X D : Int} {k : Nat} (hX : Sm 67 X) (hD : Sm 67 D) (hk : k ≤ 40) : Sm 83 (X + D * m ^ k) ∧ Sm 82 (D * m ^ k) ∧ Sm 82 (D * growN m us ad k X) := by
  have hm := hM.1
  have hm2 := hM.2.1
  have h1 : Sm 82 (D * m ^ k) := hD.mul (pow_le_top (by omega) (by omega) hk) (by omega)
  have h2 : Sm 82 (D * growN m us ad k X) := hD.mul (grow_top14 hM X hk) (by omega)
  have h3 : Sm 82 X := hX.mono (by omega)
  exact ⟨h3.add h1 (by omega), h1, h2⟩
theorem run_all {m : Int} {us ad : List Int} : ∀ (k : Nat) (x : Int), (∀ j, j ≤ k → K.fits (orbN m us ad j x)) → none ∉ seqO m us ad k x
  | 0, x, _ => by simp [seqO]
  | k + 1, x, h => by
    have h1 : K.fits (stepI m us ad x) := h 1 (by omega)
    have ih := run_all k (stepI m us ad x) (fun j hj => by rw [← orbN_cons]; exact h (j + 1) (by omega))
    rw [seqO_succ, if_pos (by unfold fitsB; exact decide_eq_true h1)]
    intro h2
    rcases List.mem_cons.1 h2 with h2 | h2
    · cases h2
    · exact ih h2
theorem word_is {m : Int} {us ad : List Int} (k : Nat) (x : Int) : IsWord m us ad (wordI m us ad k x) x := by
  have h : wordI m us ad (wordI m us ad k x).length x = wordI m us ad k x := by rw [word_len]
  exact wordI_iff.1 h
theorem grow_word {m : Int} {us ad : List Int} (k : Nat) (x : Int) : growN m us ad k x = (lineI m us ad (wordI m us ad k x)).1 := growN_line k _ (word_len m us ad k x) (word_is k x)
theorem words_same {m : Int} {us ad : List Int} (hm : 0 < m) (k : Nat) (X D : Int) : wordI m us ad k (X + D * m ^ k) = wordI m us ad k X := by
  apply wordI_congr hm
  rw [Int.add_mul_emod_self_right]
theorem words_end {m : Int} {us ad : List Int} (hm : 0 < m) (k : Nat) (X D : Int) : orbN m us ad k (X + D * m ^ k) = orbN m us ad k X + D * growN m us ad k X := by
  have := alike_end (us := us) (ad := ad) hm k X D
  omega
/-- the line of the word, at the other number -/
theorem words_line {m : Int} {us ad : List Int} (hM : mapP m us ad) {X D : Int} {k : Nat} (hX : Sm 67 X) (hD : Sm 67 D) (hk : k ≤ 40) :
    let l := lineI m us ad (wordI m us ad k X)
    K.fits (l.1 * (X + D * m ^ k) + l.2.1) ∧ l.1 * (X + D * m ^ k) + l.2.1 = l.2.2 * orbN m us ad k (X + D * m ^ k) ∧ 0 < l.2.2 ∧ l.2.2 = m ^ k := by
  have hm := hM.1
  have hm2 := hM.2.1
  have h1 := lin_orb (us := us) (ad := ad) hM (X + D * m ^ k) k
  rw [words_same (by omega)] at h1
  have h2 : (lineI m us ad (wordI m us ad k X)).2.2 = m ^ k := by rw [lineI_div, word_len]
  have h3 := (words_sm (us := us) (ad := ad) hM hX hD hk).1
  have h4 : Sm 97 (orbN m us ad k (X + D * m ^ k)) := h3.orb hM hk (by omega)
  refine ⟨?_, h1, ?_, h2⟩
  · rw [h1, h2, Int.mul_comm]
    exact (h4.mul (pow_le_top (by omega) (by omega) hk) (show 97 + 14 < 112 by omega)).fits (by omega)
  · rw [h2]; exact Int.pow_pos (by omega)
end Go.Proofs.YtimokpcopeldfaaGreatDoor
/- package katabasistop: wrapped, power, sameInts, short -/
namespace Go.Proofs.YtimokpcopeldfaaGreatDoor
open Go.RowKit
theorem tmod_lt {i n : Int} (hn : 0 < n) : -n < i.tmod n ∧ i.tmod n < n := by
  rcases Int.le_total 0 i with h | h
  · rw [Int.tmod_eq_emod_of_nonneg h]
    have := Int.emod_nonneg i (show n ≠ 0 by omega)
    have := Int.emod_lt_of_pos i hn
    omega
  · have e : i.tmod n = -((-i).tmod n) := by rw [Int.neg_tmod]; omega
    rw [e, Int.tmod_eq_emod_of_nonneg (by omega)]
    have := Int.emod_nonneg (-i) (show n ≠ 0 by omega)
    have := Int.emod_lt_of_pos (-i) hn
    omega
theorem wrapped_mod {i n : Int} (hn : 0 < n) : (i.tmod n + n).tmod n = i % n := by
  have h1 := tmod_lt (i := i) hn
  rw [Int.tmod_eq_emod_of_nonneg (by omega), Int.add_emod_right]
  have h2 : i.tmod n = i - n * (i.tdiv n) := by have := Int.mul_tdiv_add_tmod i n; omega
  rw [h2, Int.sub_mul_emod_self_left]
set_option maxRecDepth 100000 in
set_option maxHeartbeats 800000 in
theorem wrapped_any (i n : Int) (w : World) (hn : 1 ≤ n) (hn2 : n ≤ 1000000) :
    Calls Tryz.prog 47 #[.int .i64 i, .int .i64 n] w (fun e w' => e = .returned (.int .i64 (i % n)) ∧ w = w') := by
  have h1 := tmod_lt (i := i) (n := n) (by omega)
  have hw := wrapped_mod (i := i) (n := n) (by omega)
  have q0 : ¬ n = 0 := by omega
  have q1 : (n == 0) = false := beq_eq_false_iff_ne.2 q0
  obtain ⟨a, ha⟩ : ∃ a, i.tmod n = a := ⟨_, rfl⟩
  rw [ha] at h1 hw
  obtain ⟨b, hb⟩ : ∃ b, (a + n).tmod n = b := ⟨_, rfl⟩
  rw [hb] at hw
  have h2 : (IntKind.wrap .i64 (a + n)) = a + n := IntWalk.i64_in _ ⟨by omega, by omega⟩
  go_enter Tryz.func47, Tryz.ntmps47
  go_wp2_with fail
  go_ret
  exact ⟨by rw [← hw]; rfl, rfl⟩
set_option maxRecDepth 100000 in
set_option maxHeartbeats 6400000 in
theorem hpower_any (m : Int) (n : Nat) (w : World) (hm : 0 ≤ m) (hm2 : m ≤ 1000) (hn : n ≤ 40) :
    Calls Tryz.prog 38 #[.int .i64 m, .int .i64 (n : Int)] w (RefPost (m ^ n) w) := by
  have HMS := hid (show m.natAbs < 1000000000000000000 by omega)
  have HMB := hid (small_big (show m.natAbs < 1000000000 by omega))
  have hx : Ext w (w.alloc (.cells #[.bool false, .slice none 0 0] 47)) := (Ext.rfl' w).alloc' _
  have r0 : Row (w.alloc (.cells #[.bool false, .slice none 0 0] 47)) w.heap.size 47 [.bool false, .slice none 0 0] := Row.new w _ _
  have hz1 : w.heap.size < (w.alloc (.cells #[.bool false, .slice none 0 0] 47)).heap.size := by simp
  obtain ⟨W1, hW1⟩ : ∃ W1, (w.alloc (.cells #[.bool false, .slice none 0 0] 47)) = W1 := ⟨_, rfl⟩
  rw [hW1] at hx r0 hz1
  have HX := hid hx
  have HW1 := hid hW1
  have R0 := hid r0
  clear hW1 hx r0
  go_enter Tryz.func38, Tryz.ntmps38
  go_upto_region 1 with fail
  rw [HW1.out]
  go_wp2_with fail
  refine (of_one W1).mono ?_
  rintro e w2 ⟨v2, rfl, hv2, hx2⟩
  have HV2 := hid hv2
  obtain ⟨A2, k2, c2, xs2, b2, rfl, -⟩ := hv2
  have hz2 : w.heap.size < w2.heap.size := Nat.lt_of_lt_of_le hz1 hx2.size
  have hx3 : Ext W1 (w2.alloc (.cells #[.bool b2, .slice A2 k2 c2] 47)) := hx2.alloc' _
  have r2 : Row (w2.alloc (.cells #[.bool b2, .slice A2 k2 c2] 47)) w2.heap.size 47 [.bool b2, .slice A2 k2 c2] := Row.new w2 _ _
  have hv3 := HV2.out.ext ((Ext.rfl' w2).alloc' (.cells #[.bool b2, .slice A2 k2 c2] 47))
  obtain ⟨W3, hW3⟩ : ∃ W3, (w2.alloc (.cells #[.bool b2, .slice A2 k2 c2] 47)) = W3 := ⟨_, rfl⟩
  rw [hW3] at hx3 r2 hv3
  have HW3 := hid hW3
  have HX3 := hid (HX.out.step hx3)
  have R03 := hid (R0.out.ext hx3)
  have R23 := hid r2
  have HV3 := hid hv3
  clear hW3 hx3 r2 hv3 hx2 HV2 R0 HX
  go_upto_region 2 with fail
  rw [HW3.out]
  go_wp2_with fail
  go_loopw [6] (fun iz wr => ∃ (j : Nat) (b : Bool) (P : Option Addr) (q c : Nat), j ≤ n ∧ iz = .int .i64 (j : Int) ∧ Row wr w.heap.size 47 [.bool false, .slice none 0 0] ∧ Row wr w2.heap.size 47 [.bool b, .slice P q c] ∧ RefV wr (.agg #[.bool b, .slice P q c]) (m ^ j) ∧ Ext w wr) (fun iz _ => n - (intOf iz).toNat)
  case atStart => exact ⟨0, b2, A2, k2, c2, by omega, rfl, R03.out, R23.out, by rw [Int.pow_zero]; exact HV3.out, HX3.out⟩
  case round =>
    obtain ⟨j, b, P, q, c, hj, rfl, hr0, hr2, hvz, hex⟩ := hrel
    have RZ := hid hr0
    have RP := hid hr2
    have VZ := hid hvz
    have EX := hid hex
    clear hr0 hr2 hvz hex R03 R23 HV3
    obtain ⟨y0, y1, y2, y3⟩ := row_facts RP.out
    by_cases hlt : j < n
    · have HB := hid (show (m ^ j).natAbs ≤ BIG from le_big (Nat.lt_of_le_of_lt (pow_le_top hm hm2 (by omega)) (Nat.lt_of_lt_of_le (show TOP 14 < 1000000000 * TOP 14 by have := TOP_pos 14; omega) (top_step 14 15 (by omega)))) (by omega))
      have hcur : Ext wr wr := Ext.rfl' _
      go_wp2_with fail
      go_region_with (first
        | (go_at_call 29; refine (of_any m _ HMS.out).mono ?_; rintro e w10 ⟨v10, rfl, hv10, hx⟩; have hcur := Ext.step hcur (by first | exact hx | exact Ext.undrew hx | exact Ext.step ((Ext.rfl' _).alloc' _) hx | exact Ext.step ((Ext.rfl' _).drew'.alloc' _) hx); have HV10 := hid hv10; obtain ⟨A10, k10, c10, xs10, b10, rfl, -⟩ := hv10; obtain ⟨y0, y1, y2, y3⟩ := row_facts (RP.out.ext hcur))
        | (go_at_call 31; refine (rmul_any _ _ (m ^ j) m _ (VZ.out.ext ?_) (HV10.out.ext ?_) HB.out HMB.out).mono ?_; (first | exact hcur | exact hcur.drew' | exact hcur.alloc' _ | exact hcur.drew'.alloc' _ | exact (hcur.alloc' _).drew'); (first | exact Ext.rfl' _ | exact (Ext.rfl' _).drew' | exact (Ext.rfl' _).alloc' _ | exact (Ext.rfl' _).drew'.alloc' _); rintro e w11 ⟨v11, rfl, hv11, hx⟩; have hcur := Ext.step hcur (by first | exact hx | exact Ext.undrew hx | exact Ext.step ((Ext.rfl' _).alloc' _) hx | exact Ext.step ((Ext.rfl' _).drew'.alloc' _) hx); have HV11 := hid hv11; obtain ⟨A11, k11, c11, xs11, b11, rfl, -⟩ := hv11; obtain ⟨y0, y1, y2, y3⟩ := row_facts (RP.out.ext hcur)))
      all_goals
        have HFIN : Hid (∀ WF, WF = ((w11.setCell ⟨w2.heap.size, 0, none⟩ (.bool b11)).setCell ⟨w2.heap.size, 1, none⟩ (.slice A11 k11 c11)) → ∃ (j' : Nat) (b : Bool) (P : Option Addr) (q c : Nat), j' ≤ n ∧ Value.int .i64 ((j : Int) + 1) = .int .i64 (j' : Int) ∧ Row WF w.heap.size 47 [.bool false, .slice none 0 0] ∧ Row WF w2.heap.size 47 [.bool b, .slice P q c] ∧ RefV WF (.agg #[.bool b, .slice P q c]) (m ^ j') ∧ Ext w WF) := hid (by
          rintro WF rfl
          refine ⟨j + 1, b11, A11, k11, c11, by omega, by simp, ((RZ.out.ext hcur).far (by show w.heap.size ≠ w2.heap.size; omega) _).far (by show w.heap.size ≠ w2.heap.size; omega) _, ((RP.out.ext hcur).set 0 _).set 1 _, ?_, ((EX.out.step hcur).set' (by show w.heap.size ≤ w2.heap.size; omega) _).set' (by show w.heap.size ≤ w2.heap.size; omega) _⟩
          rw [Int.pow_succ]
          exact HV11.out.box (RP.out.ext hcur))
        clear hcur
        go_wp2
        go_roundw
        case rel => exact HFIN.out _ rfl
        case measure => first | (simp [intOf]; done) | (simp [intOf]; omega)
    · obtain rfl : j = n := by omega
      obtain ⟨z0, z1, z2, z3⟩ := row_facts RZ.out
      have HF : Hid (RefPost (m ^ j) w (.returned (.agg #[.bool b, .slice P q c])) ((wr.setCell ⟨w.heap.size, 0, none⟩ (.bool b)).setCell ⟨w.heap.size, 1, none⟩ (.slice P q c))) := hid (RefPost.put RZ.out EX.out (Nat.le_refl _) VZ.out)
      go_wp2
      refine bodyPost_ret (v := .agg #[.bool b, .slice P q c]) (by simp [results, Tryz.results38, go_sem, z0, z1]) rfl HF.out
set_option maxRecDepth 100000 in
set_option maxHeartbeats 1600000 in
theorem sames_any (A B : Option Addr) (n c k d : Nat) (xs ys : List Int) (w : World) (ra : Rd w A (Is xs)) (rb : Rd w B (Is ys)) (hn : xs.length = n) (hk : ys.length = k) (hb : n ≤ 140737488351232) (hb2 : k ≤ 140737488351232) {b : Bool} (hb3 : Hid (b = true ↔ xs = ys)) :
    Calls Tryz.prog 42 #[.slice A n c, .slice B k d] w (fun e w' => e = .returned (.bool b) ∧ Ext w w') := by
  have HN := hid hn
  have HK := hid hk
  have HA := hid ra
  have HB := hid rb
  by_cases hnk : n = k
  case neg =>
    obtain rfl : b = false := by
      cases b with
      | false => rfl
      | true => exact absurd (by rw [← hn, ← hk, hb3.out.1 rfl]) hnk
    have q0 : ¬ ((n : Int) = (k : Int)) := by omega
    have q1 : ((n : Int) == (k : Int)) = false := beq_eq_false_iff_ne.2 q0
    have q2 : ((n : Int) != (k : Int)) = true := by rw [bne, q1]; rfl
    clear hn hk ra rb hb3
    go_enter Tryz.func42, Tryz.ntmps42
    go_wp2_with fail
    go_ret
    exact ⟨rfl, Ext.rfl' _⟩
  case pos =>
    subst hnk
    have hb4 : n ≤ 9223372036854775807 := by omega
    clear hn hk ra rb
    go_enter Tryz.func42, Tryz.ntmps42
    go_wp2_with fail
    go_loopw [5] (fun iz wr => ∃ j : Nat, j ≤ n ∧ iz = .int .i64 (j : Int) ∧ Hid (∀ i, i < j → xs.getD i 0 = ys.getD i 0) ∧ Ext w wr) (fun iz _ => n - (intOf iz).toNat)
    case atStart => exact ⟨0, by omega, rfl, hid (fun i hi => absurd hi (by omega)), Ext.rfl' _⟩
    case round =>
      obtain ⟨j, hj, rfl, HJ, hex⟩ := hrel
      by_cases hlt : j < n
      · obtain ⟨b1, o1, e1, -, hc1⟩ := (HA.out.ext hex).atI (k := j) (by rw [HN.out]; exact hlt)
        obtain ⟨b2, o2, e2, -, hc2⟩ := (HB.out.ext hex).atI (k := j) (by rw [HK.out]; exact hlt)
        subst e1 e2
        obtain ⟨u, hu⟩ : ∃ u, xs.getD j 0 = u := ⟨_, rfl⟩
        obtain ⟨v, hv⟩ : ∃ v, ys.getD j 0 = v := ⟨_, rfl⟩
        rw [hu] at hc1
        rw [hv] at hc2
        have HU := hid hu
        have HV := hid hv
        clear hu hv
        by_cases huv : u = v
        · subst huv
          go_wp2_with fail
          go_quiet (fail)
          have hex2 := hex.drewN nq
          go_wp2
          go_roundw
          case rel => exact ⟨j + 1, by omega, by simp, hid (fun i hi => by
            rcases Nat.lt_or_ge i j with h | h
            · exact HJ.out i h
            · obtain rfl : i = j := by omega
              rw [HU.out, HV.out]), hex2⟩
          case measure => simp [intOf]; omega
        · obtain rfl : b = false := by
            cases b with
            | false => rfl
            | true => exact absurd (by rw [← HU.out, ← HV.out, hb3.out.1 rfl]) huv
          have q1 : (u == v) = false := beq_eq_false_iff_ne.2 huv
          have q2 : (u != v) = true := by rw [bne, q1]; rfl
          go_wp2_with fail
          go_quiet (fail)
          have hex2 := hex.drewN nq
          have HX := hid hex2
          go_wp2
          go_ret
          exact ⟨rfl, HX.out⟩
      · have HX := hid hex
        obtain rfl : j = n := by omega
        obtain rfl : b = true := hb3.out.2 (List.ext_getElem (by rw [HN.out, HK.out]) fun i h1 h2 => by
          have := HJ.out i (by rw [← HN.out]; exact h1)
          rwa [List.getD_eq_getElem?_getD, List.getElem?_eq_getElem h1, List.getD_eq_getElem?_getD, List.getElem?_eq_getElem h2] at this)
        go_wp2
        go_ret
        exact ⟨rfl, HX.out⟩
/-- the strings of a list -/
def Strs (ls : List (List UInt8)) : List Value := ls.map (fun l => .string (Str l))
def shortB (l : List UInt8) : Bool := decide (l.length ≤ 601) && K.validL l
theorem Rd.atStr {w : World} {A : Option Addr} {ls : List (List UInt8)} (h : Rd w A (Strs ls)) {k : Nat} (hk : k < ls.length) : ∃ b o, A = some ⟨b, o, none⟩ ∧ w.cell? ⟨b, o + k, none⟩ = some (.string (Str ls[k])) := by
  rcases h with h | ⟨b, o, rfl, -, hc⟩
  · simp [Strs] at h; subst h; simp at hk
  · exact ⟨b, o, rfl, hc k _ (by simp [Strs, hk])⟩
set_option maxRecDepth 100000 in
set_option maxHeartbeats 3200000 in
theorem hshort_any (A : Option Addr) (n c : Nat) (ls : List (List UInt8)) (w : World) (hr : Rd w A (Strs ls)) (hl : ls.length = n) (hn : n ≤ 1000) (hlen : ∀ l ∈ ls, l.length ≤ 140737488351232) {b : Bool} (hb : Hid (ls.all shortB = b)) :
    Calls Tryz.prog 35 #[.slice A n c] w (fun e w' => e = .returned (.bool b) ∧ Ext w w') := by
  have HR := hid hr
  have HL := hid hl
  have HLN := hid hlen
  clear hr hl hlen
  go_enter Tryz.func35, Tryz.ntmps35
  go_wp2_with fail
  go_loopw [3] (fun iz wr => ∃ j : Nat, j ≤ n ∧ iz = .int .i64 (j : Int) ∧ Hid (∀ i (h : i < ls.length), i < j → shortB ls[i] = true) ∧ Ext w wr) (fun iz _ => n - (intOf iz).toNat)
  case atStart => exact ⟨0, by omega, rfl, hid (fun i _ hi => absurd hi (by omega)), Ext.rfl' _⟩
  case round =>
    obtain ⟨j, hj, rfl, HJ, hex⟩ := hrel
    have EX := hid hex
    by_cases hlt : j < n
    · have hjl : j < ls.length := by rw [HL.out]; exact hlt
      obtain ⟨bl, o, e1, hc1⟩ := (HR.out.ext hex).atStr hjl
      subst e1
      have HAT : Hid (∀ b : Bool, shortB ls[j] = b → b = false → ls.all shortB = false) := hid (fun b h1 h2 => by
        rw [h2] at h1
        rw [← Bool.not_eq_true]
        intro h3
        rw [List.all_eq_true.1 h3 _ (List.getElem_mem hjl)] at h1
        cases h1)
      have HJ2 : Hid (shortB ls[j] = true → ∀ i (h : i < ls.length), i < j + 1 → shortB ls[i] = true) := hid (fun h1 i h hi => by
        rcases Nat.lt_or_ge i j with h2 | h2
        · exact HJ.out i h h2
        · obtain rfl : i = j := by omega
          exact h1)
      have HLJ := hid (HLN.out ls[j] (List.getElem_mem hjl))
      obtain ⟨l, hle⟩ : ∃ l, ls[j] = l := ⟨_, rfl⟩
      rw [hle] at hc1 HAT HJ2 HLJ
      obtain ⟨s, hs⟩ : ∃ s, s = l.length := ⟨_, rfl⟩
      have hss : (Str l).size = s := by rw [Str_size, hs]
      have i0 : (0 : Int) ≤ (j : Int) := by omega
      have i1 : (j : Int) < (n : Int) := by omega
      clear hle hex hjl
      by_cases h6 : s ≤ 601
      · have q0 : ¬ (601 : Int) < (s : Int) := by omega
        cases hv : K.validL l with
        | true =>
          have HFIN := hid (show shortB l = true by unfold shortB; rw [hv, ← hs, decide_eq_true h6]; rfl)
          go_wp2_with fail
          refine (rvalid_at l wr (hid hv) HLJ.out).mono ?_
          rintro e wz ⟨rfl, rfl⟩
          go_wp2_with fail
          go_roundw
          case rel => exact ⟨j + 1, by omega, by simp, hid (HJ2.out HFIN.out), EX.out⟩
          case measure => first | (simp [intOf]; done) | (simp [intOf]; omega)
        | false =>
          have HFIN := hid (HAT.out false (by unfold shortB; rw [hv, Bool.and_false]) rfl)
          obtain rfl : b = false := by rw [← hb.out]; exact HFIN.out
          go_wp2_with fail
          refine (rvalid_at l wr (hid hv) HLJ.out).mono ?_
          rintro e wz ⟨rfl, rfl⟩
          go_wp2
          go_ret
          exact ⟨rfl, EX.out⟩
      · have q0 : (601 : Int) < (s : Int) := by omega
        have HFIN := hid (HAT.out false (by unfold shortB; rw [← hs, decide_eq_false h6]; rfl) rfl)
        obtain rfl : b = false := by rw [← hb.out]; exact HFIN.out
        go_wp2_with fail
        go_ret
        exact ⟨rfl, EX.out⟩
    · obtain rfl : j = n := by omega
      have HFIN : Hid (b = true) := hid (by
        rw [← hb.out, List.all_eq_true]
        intro x hx
        obtain ⟨i, hi, rfl⟩ := List.getElem_of_mem hx
        exact HJ.out i hi (by rw [← HL.out]; exact hi))
      go_wp2_with fail
      go_ret
      exact ⟨by rw [HFIN.out]; rfl, EX.out⟩
end Go.Proofs.YtimokpcopeldfaaGreatDoor
/- the program's calls as TopWords meets them, every text a letter -/
namespace Go.Proofs.YtimokpcopeldfaaGreatDoor
open Go.RowKit
theorem word_h (v : Value) (m : Int) (us ad : List Int) (y : Int) (s : ByteArray) (k : Nat) (ws : List Int) (w : World) (hv : MapV w v m us ad) (hb1 : Hid (mapB m us ad = true)) (hs : Hid (Str (K.txt y) = s)) (hk : k ≤ 200) (ht : Tab w) (hF : Hid (∀ j, j ≤ k → K.fits (orbN m us ad j y))) (hw : Hid (wordI m us ad k y = ws)) :
    Calls Tryz.prog 40 #[v, .string s, .int .i64 (k : Int)] w (fun e w' => ∃ A, e = .returned (.tuple #[.slice A k k, .int .i64 0]) ∧ Rd w' A (Is ws) ∧ Ext w w') := by
  refine (wordc_s v m us ad y s k w hv hb1 (hF.out 0 (by omega)) hs hk ht).mono ?_
  rintro e w' ⟨A, wn, f, xs, rfl, h1, h2, h3, h4, h5⟩
  rcases h4 with ⟨rfl, h6, -⟩ | ⟨-, -, i, h7, h8⟩
  · rw [hw.out] at h6
    subst h6
    have e2 : wn = k := by rw [← h2, ← hw.out, word_len]
    subst e2
    exact ⟨A, rfl, h1, h5⟩
  · exact absurd (hF.out i (by omega)) h8
theorem run_h (v : Value) (m : Int) (us ad : List Int) (y z : Int) (s sz : ByteArray) (k : Nat) (w : World) (hv : MapV w v m us ad) (hM : Hid (mapP m us ad)) (hs : Hid (Str (K.txt y) = s)) (hk : k ≤ 20000) (ht : Tab w) (hF : Hid (∀ j, j ≤ k → K.fits (orbN m us ad j y))) (hz : Hid (orbN m us ad k y = z)) (hsz : Hid (Str (K.txt z) = sz)) :
    Calls Tryz.prog 24 #[v, .string s, .int .i64 (k : Int)] w (fun e w' => e = .returned (.tuple #[.string sz, .int .i64 0]) ∧ Ext w w') := by
  have h := run_ok v m us ad (K.txt y) k w hv hM (hid (K.valid_txt y (hF.out 0 (by omega)))) hk ht
  rw [hs.out, K.numL_txt, run_orb k y (run_all k y hF.out), hz.out] at h
  refine h.mono ?_
  rintro e w' ⟨rfl, h2⟩
  exact ⟨by rw [← hsz.out]; rfl, h2⟩
theorem line_h (v : Value) (m : Int) (us ad : List Int) (Wd : Option Addr) (wn wc : Nat) (ws : List Int) (M A D : Int) (su sa sd : ByteArray) (w : World) (hv : MapV w v m us ad) (hw : Rd w Wd (Is ws)) (hl : Hid (ws.length = wn)) (hwb : wn ≤ 140737488351232) (hM : Hid (mapP m us ad)) (hW : Hid (wordB m ws = true)) (ht : Tab w)
    (hL : Hid (lineI m us ad ws = (M, A, D))) (h1 : Hid (Str (K.txt M) = su)) (h2 : Hid (Str (K.txt A) = sa)) (h3 : Hid (Str (K.txt D) = sd)) :
    Calls Tryz.prog 41 #[v, .slice Wd wn wc] w (fun e w' => e = .returned (.tuple #[.agg #[.string su, .string sa, .string sd], .int .i64 0]) ∧ Ext w w') :=
  line_s v m us ad Wd wn wc ws su sa sd w hv hw hl.out hwb hM hW ht (hid (by rw [hL.out]; exact h1.out)) (hid (by rw [hL.out]; exact h2.out)) (hid (by rw [hL.out]; exact h3.out))
theorem apply_h (M A D N y : Int) (su sa sd sn sy : ByteArray) (w : World) (ht : Tab w) (HF : Hid (K.fits M ∧ K.fits A ∧ K.fits D ∧ K.fits N ∧ 0 < D ∧ K.fits (M * N + A) ∧ M * N + A = D * y))
    (h1 : Hid (Str (K.txt M) = su)) (h2 : Hid (Str (K.txt A) = sa)) (h3 : Hid (Str (K.txt D) = sd)) (h5 : Hid (Str (K.txt N) = sn)) (h4 : Hid (Str (K.txt y) = sy)) :
    Calls Tryz.prog 25 #[.agg #[.string su, .string sa, .string sd], .string sn] w (fun e w' => e = .returned (.tuple #[.string sy, .bool true, .int .i64 0]) ∧ Ext w w') := by
  obtain ⟨f1, f2, f3, f4, f5, f6, f7⟩ := HF.out
  have h := apply_yes M A D N w (hid f1) (hid f2) (hid f3) (hid f4) ht f5 (hid f6) (by rw [f7]; exact Int.mul_emod_right _ _)
  rw [f7, Int.mul_ediv_cancel_left _ (by omega), h1.out, h2.out, h3.out, h4.out, h5.out] at h
  exact h
/-- the rest of a word whose rest is known -/
theorem wrest_h (v : Value) (m : Int) (us ad : List Int) (Wd : Option Addr) (wn wc : Nat) (ws : List Int) (R D : Int) (sr sd : ByteArray) (w : World) (hv : MapV w v m us ad) (hw : Rd w Wd (Is ws)) (hl : Hid (ws.length = wn)) (hwb : wn ≤ 140737488351232) (hM : Hid (mapP m us ad)) (hW : Hid (wordB m ws = true)) (hR : Hid (regB m us = true)) (ht : Tab w)
    (hD : Hid (m ^ ws.length = D)) (hw0 : Hid (∀ R', 0 ≤ R' → R' < D → IsWord m us ad ws R' → R' = R)) (h1 : Hid (Str (K.txt R) = sr)) (h2 : Hid (Str (K.txt D) = sd)) :
    Calls Tryz.prog 44 #[v, .slice Wd wn wc] w (fun e w' => e = .returned (.tuple #[.string sr, .string sd, .int .i64 0]) ∧ Ext w w') := by
  refine (wrest_ok v m us ad Wd wn wc ws w hv hw hl.out hwb hM hW hR ht).mono ?_
  rintro e w' ⟨R', rfl, h3, h4, h5, h6⟩
  rw [hD.out] at h4
  obtain rfl := hw0.out R' h3 h4 h5
  exact ⟨by rw [hD.out, h1.out, h2.out], h6⟩
/-- a word has one rest -/
theorem rest_exists {m : Int} {us ad : List Int} (hM : mapP m us ad) (hR : regB m us = true) {ws : List Int} (hw : ∀ r ∈ ws, 0 ≤ r ∧ r < m) {R0 : Int} (h0 : 0 ≤ R0) (h1 : R0 < m ^ ws.length) (hI : IsWord m us ad ws R0) : ∀ R', 0 ≤ R' → R' < m ^ ws.length → IsWord m us ad ws R' → R' = R0 := by
  intro R' h2 h3 h4
  have h5 := (word_iff hM hR hw h0 h1 hI R').1 h4
  rwa [Int.emod_eq_of_lt h2 h3] at h5
end Go.Proofs.YtimokpcopeldfaaGreatDoor
/- package katabasistop: proper -/
namespace Go.Proofs.YtimokpcopeldfaaGreatDoor
open Go.RowKit
/-- the rests of the numbers of a list, no more than so many -/
def propI (m : Int) (ws : List Int) (j : Nat) : List Int := (ws.take j).map (fun x => x % m)
theorem propI_succ {m : Int} {ws : List Int} {j : Nat} (h : j < ws.length) : propI m ws (j + 1) = propI m ws j ++ [ws.getD j 0 % m] := by
  unfold propI
  rw [take_succ_I h, List.map_append]
  rfl
theorem propI_len (m : Int) (ws : List Int) (j : Nat) : (propI m ws j).length = min j ws.length := by simp [propI]
theorem propI_in {m : Int} (hm : 0 < m) (ws : List Int) (j : Nat) : ∀ r ∈ propI m ws j, 0 ≤ r ∧ r < m := by
  intro r hr
  obtain ⟨x, -, rfl⟩ := List.mem_map.1 hr
  exact ⟨Int.emod_nonneg _ (by omega), Int.emod_lt_of_pos _ hm⟩
set_option maxRecDepth 100000 in
set_option maxHeartbeats 6400000 in
theorem proper_any (v : Value) (m : Int) (us ad : List Int) (Wd : Option Addr) (wn wc : Nat) (ws : List Int) (w : World) (hv : MapV w v m us ad) (hM : Hid (mapP m us ad)) (hw : Rd w Wd (Is ws)) (hl : ws.length = wn) (hwb : wn ≤ 140737488351232) :
    Calls Tryz.prog 37 #[v, .slice Wd wn wc, .int .i64 40] w (fun e w' => ∃ (L : Option Addr) (k c : Nat), e = .returned (.slice L k c) ∧ k ≤ 40 ∧ Rd w' L (Is (propI m ws 40)) ∧ (propI m ws 40).length = k ∧ Ext w w') := by
  obtain ⟨i0, hi, hz0, hz1, hz2⟩ := info_parts infoI
  have hm1 : 1 ≤ m := by have := hM.out.1; omega
  have hm2 : m ≤ 1000000 := by have := hM.out.2.1; omega
  have HWD := hid hw
  have HL := hid hl
  obtain ⟨A, n, cc, B, n2, d, rfl, -⟩ := hv
  have hx : Ext w (w.alloc (.cells #[.int .i64 m, .slice A n cc, .slice B n2 d] 24)) := (Ext.rfl' w).alloc' _
  have hr1 : Row (w.alloc (.cells #[.int .i64 m, .slice A n cc, .slice B n2 d] 24)) w.heap.size 24 [.int .i64 m, .slice A n cc, .slice B n2 d] := Row.new w _ _
  have hsz : (w.alloc (.cells #[.int .i64 m, .slice A n cc, .slice B n2 d] 24)).heap.size = w.heap.size + 1 := by simp
  obtain ⟨W1, hW1⟩ : ∃ W1, (w.alloc (.cells #[.int .i64 m, .slice A n cc, .slice B n2 d] 24)) = W1 := ⟨_, rfl⟩
  rw [hW1] at hx hr1 hsz
  have HX := hid hx
  have HW1 := hid hW1
  have RM := hid hr1
  have HSZ := hid hsz
  clear hW1 hx hr1 hw hsz
  go_enter Tryz.func37, Tryz.ntmps37
  go_upto_region 1 with fail
  rw [HW1.out]
  go_wp2_with fail
  go_loopw [7, 8] (fun lv iz wr => ∃ (j : Nat) (L : Option Addr) (cap : Nat), j ≤ wn ∧ j ≤ 40 ∧ lv = .slice L j cap ∧ iz = .int .i64 (j : Int) ∧ Row wr w.heap.size 24 [.int .i64 m, .slice A n cc, .slice B n2 d] ∧ wr.ownsRow (w.heap.size + 1) 3 1 (.slice L j cap) j (Is (propI m ws j)) ∧ Ext w wr ∧ Hid (w.heap.size + 1 ≤ wr.heap.size)) (fun _ iz _ => 40 - (intOf iz).toNat)
  case atStart => exact ⟨0, none, 0, by omega, by omega, rfl, rfl, RM.out, World.ownsRow_nil _ _ _ _, HX.out, hid (by rw [HSZ.out]; exact Nat.le_refl _)⟩
  case round =>
    obtain ⟨j, L, cap, hj, hj4, rfl, rfl, hr1, hown, hex, HSI⟩ := hrel
    have RM := hid hr1
    have HOWN := hid hown
    have EX := hid hex
    clear hr1 hown hex
    by_cases hlt : j < wn
    · by_cases hlt4 : j < 40
      · have hjl : j < ws.length := by rw [HL.out]; exact hlt
        obtain ⟨b3, o3, e3, -, hc3⟩ := (HWD.out.ext EX.out).atI (k := j) hjl
        subst e3
        have HPS := hid (propI_succ (m := m) hjl)
        obtain ⟨r, hr⟩ : ∃ r, ws.getD j 0 = r := ⟨_, rfl⟩
        rw [hr] at hc3 HPS
        have HRR := hid hr
        obtain ⟨f0, f1, f2, -, -, -⟩ := row_facts3 RM.out
        have j0 : (0 : Int) ≤ (j : Int) := by omega
        have j1 : (j : Int) < (wn : Int) := by omega
        have j2 : (j : Int) < 40 := by omega
        clear hr
        have hcur : Ext wr wr := Ext.rfl' _
        have HRM : Hid (∀ W', Ext w W' → Row W' w.heap.size 24 [.int .i64 m, .slice A n cc, .slice B n2 d] → W'.cell? ⟨b3, o3 + j, none⟩ = some (.int .i64 r) ∧ W'.cell? ⟨w.heap.size, 0, none⟩ = some (.int .i64 m)) := hid (by
          intro W' e er
          obtain ⟨b4, o4, e4, -, hc4⟩ := (HWD.out.ext e).atI (k := j) hjl
          cases e4
          obtain ⟨p0, -⟩ := row_facts3 er
          exact ⟨by rw [hc4, HRR.out], p0⟩)
        go_wp2_with fail
        go_region_held_law (fun W' => W'.cell? ⟨b3, o3 + j, none⟩ = some (.int .i64 r) ∧ W'.cell? ⟨w.heap.size, 0, none⟩ = some (.int .i64 m))
          (first | (with_reducible exact HRM.out _ ex8 rm8) | (with_reducible exact HRM.out _ (EX.out.step hcur) (RM.out.ext hcur)) | (with_reducible exact HRM.out _ (EX.out.step hcur.drew') (RM.out.ext hcur.drew')) | (with_reducible exact HRM.out _ (EX.out.step (hcur.drew'.alloc' _)) (RM.out.ext (hcur.drew'.alloc' _))) | go_keep)
          (first
            | (go_at_call 47; refine (wrapped_any r m _ hm1 hm2).mono ?_; rintro e w10 ⟨rfl, rfl⟩)
            | (refine step_append_lies _ (by rfl) _ _ _ (by rfl) (w.heap.size + 1) 3 i0 (.int .i64 0) 1 8 Tryz.underlying22 hi hz0 hz1 hz2 rfl (by omega) (.slice L j cap) j (Is (propI m ws j)) (by rfl) (own_keep HOWN.out (fun gg _ h2 => (((Ext.rfl' wr).drew').alloc' _).block gg h2)) ⟨wr.heap.size, 0, none⟩ 1 1 [.int .i64 (r % m)] (by rfl) rfl (cell_one_new _ _ _) (by simp [Value.oneCell']) (by omega) (by have : maxLen = 9223372036854775807 := rfl; omega) (by omega) (by have := HSI.out; simp; omega) _ rfl ?_; intro g' cap' w8 hown8 hgrow hat hlt8; have hfar : ∀ kk, Value.ownBlock (.slice L j cap) = some kk → (w.heap.size + 1) ≤ kk := fun kk hkk => (HOWN.out.lt kk hkk).1; have rm8 := (RM.out.ext hcur.drew').grownO hgrow (fun kk hkk => by have := hfar kk hkk; omega); have ex8 : Ext w w8 := ((EX.out.step hcur.drew').alloc' _).grown hgrow (by have := HSI.out; simp; omega) (fun kk hkk => by have := hfar kk hkk; omega)))
        all_goals
          have hsz8 : w.heap.size + 1 ≤ w8.heap.size := by have h1 := rm8.lt; omega
          have HFIN : Hid (∃ (j' : Nat) (L' : Option Addr) (cap'' : Nat), j' ≤ wn ∧ j' ≤ 40 ∧ Value.slice (some ⟨g', 0, none⟩) (j + 1) cap' = .slice L' j' cap'' ∧ Value.int .i64 ((j : Int) + 1) = .int .i64 (j' : Int) ∧ Row w8 w.heap.size 24 [.int .i64 m, .slice A n cc, .slice B n2 d] ∧ w8.ownsRow (w.heap.size + 1) 3 1 (.slice L' j' cap'') j' (Is (propI m ws j')) ∧ Ext w w8 ∧ Hid (w.heap.size + 1 ≤ w8.heap.size)) := hid (by
            refine ⟨j + 1, some ⟨g', 0, none⟩, cap', by omega, by omega, rfl, by simp, rm8, ?_, ex8, hid hsz8⟩
            rw [HPS.out, show Is (propI m ws j ++ [r % m]) = Is (propI m ws j) ++ [.int .i64 (r % m)] by simp]
            exact hown8)
          clear hown8 hgrow hat hlt8 hfar rm8 ex8 hsz8 hcur
          go_wp2
          go_roundw
          case rel => exact HFIN.out
          case measure => first | (simp [intOf]; done) | (simp [intOf]; omega)
      · obtain rfl : j = 40 := by omega
        have j1 : ((40 : Nat) : Int) < (wn : Int) := by omega
        have HR : Hid (∃ (L' : Option Addr) (k c : Nat), Ending.returned (Value.slice L 40 cap) = .returned (.slice L' k c) ∧ k ≤ 40 ∧ Rd wr L' (Is (propI m ws 40)) ∧ (propI m ws 40).length = k ∧ Ext w wr) := hid ⟨L, 40, cap, rfl, by omega, Rd.of_own HOWN.out, by rw [propI_len, HL.out]; omega, EX.out⟩
        go_wp2_with fail
        go_ret
        exact HR.out
    · obtain rfl : wn = j := by omega
      have HR : Hid (∃ (L' : Option Addr) (k c : Nat), Ending.returned (Value.slice L wn cap) = .returned (.slice L' k c) ∧ k ≤ 40 ∧ Rd wr L' (Is (propI m ws 40)) ∧ (propI m ws 40).length = k ∧ Ext w wr) := hid (by
        have e : propI m ws 40 = propI m ws wn := by
          unfold propI
          rw [List.take_of_length_le (by rw [HL.out]; omega), List.take_of_length_le (by rw [HL.out]; omega)]
        refine ⟨L, wn, cap, rfl, by omega, ?_, ?_, EX.out⟩
        · rw [e]; exact Rd.of_own HOWN.out
        · rw [e, propI_len, HL.out]; omega)
      go_wp2_with fail
      go_ret
      exact HR.out
end Go.Proofs.YtimokpcopeldfaaGreatDoor
