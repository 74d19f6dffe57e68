/- Joined texts: step.kin, step.Collatz; the reference's Collatz, Alike, Same; the law's same; the reference's Of, at negative numbers; numbers whose difference is a multiple of a power of the modulus: plain mathematics; the reference of layer 2: Rest, Step; the reference's Twin: a copy of a map. -/
import Derived.Test.YtlfbgemceeibiaaGreatDoorJG12
import Derived.Deep.RegionHeld3
import Derived.Test.YtlfbgemceeibiaaGreatDoorJG08
import Derived.IntWalk
import Derived.Test.YtlfbgemceeibiaaGreatDoorJG05
import Derived.Test.YtlfbgemceeibiaaGreatDoorJG07
import Derived.Test.YtlfbgemceeibiaaGreatDoorJG10
import Derived.Deep.DeepCutAuto
import Derived.Deep.RegionLawGrows
import Derived.Deep.Upon
set_option linter.unusedSimpArgs false
set_option linter.unusedVariables false
/- step.kin, step.Collatz; the reference's Collatz, Alike, Same; the law's same -/
namespace Go.Proofs.YtlfbgemceeibiaaGreatDoor
open Go.RowKit
/-- a map in new memory -/
def MapNew (m : Int) (us ad : List Int) (b : Nat) (v : Value) (w' : World) : Prop :=
  ∃ g1 g2 k, v = .agg #[.int .i64 m, .slice (some ⟨g1, 0, none⟩) k k, .slice (some ⟨g2, 0, none⟩) k k] ∧ Row w' g1 3 (Is us) ∧ Row w' g2 3 (Is ad) ∧ b ≤ g1 ∧ b ≤ g2 ∧ us.length = k ∧ ad.length = k ∧ k ≤ 12
def MapPost (m : Int) (us ad : List Int) (w : World) (e : Ending) (w' : World) : Prop := ∃ v, e = .returned v ∧ MapNew m us ad w.heap.size v w' ∧ Ext w w'
/-- a map whose lists lie in two new blocks -/
theorem MapV.fresh {W : World} {g1 g2 : Nat} {t : TypeId} {m : Int} {us ad : List Int} {k : Nat} (h1 : Row W g1 t (Is us)) (h2 : Row W g2 t (Is ad)) (e1 : us.length = k) (e2 : ad.length = k) (hk : k ≤ 12) :
    MapV W (.agg #[.int .i64 m, .slice (some ⟨g1, 0, none⟩) k k, .slice (some ⟨g2, 0, none⟩) k k]) m us ad :=
  ⟨_, k, k, _, k, k, rfl, e1, Nat.le_refl _, e2, Nat.le_refl _, h1.rd0, h2.rd0, by omega, by omega⟩
theorem Row.set3 {W : World} {H g : Nat} {t : TypeId} {vs : List Value} {a b c : Value} (h : Row W g t vs) (hne : g ≠ H) : Row (((W.setCell ⟨H, 0, none⟩ a).setCell ⟨H, 1, none⟩ b).setCell ⟨H, 2, none⟩ c) g t vs :=
  ((h.far (by show g ≠ H; exact hne) _).far (by show g ≠ H; exact hne) _).far (by show g ≠ H; exact hne) _
theorem Row.put3 {W : World} {H : Nat} {t : TypeId} {x y z a b c : Value} (h : Row W H t [x, y, z]) : Row (((W.setCell ⟨H, 0, none⟩ a).setCell ⟨H, 1, none⟩ b).setCell ⟨H, 2, none⟩ c) H t [a, b, c] :=
  ((h.set 0 a).set 1 b).set 2 c
theorem Ext.set3 {w W : World} {H : Nat} {a b c : Value} (h : Ext w W) (hH : w.heap.size ≤ H) : Ext w (((W.setCell ⟨H, 0, none⟩ a).setCell ⟨H, 1, none⟩ b).setCell ⟨H, 2, none⟩ c) :=
  ((h.set' (by show _ ≤ H; exact hH) _).set' (by show _ ≤ H; exact hH) _).set' (by show _ ≤ H; exact hH) _
theorem row_facts3 {w : World} {g : Nat} {t : TypeId} {a b c : Value} (h : Row w g t [a, b, c]) : w.cell? ⟨g, 0, none⟩ = some a ∧ w.cell? ⟨g, 1, none⟩ = some b ∧ w.cell? ⟨g, 2, none⟩ = some c ∧ w.frozen? ⟨g, 0, none⟩ = false ∧ w.frozen? ⟨g, 1, none⟩ = false ∧ w.frozen? ⟨g, 2, none⟩ = false :=
  ⟨by rw [h.cell]; rfl, by rw [h.cell]; rfl, by rw [h.cell]; rfl, h.free 0, h.free 1, h.free 2⟩
set_option maxRecDepth 100000 in
set_option maxHeartbeats 800000 in
theorem kin_any (q c : Int) (w : World) : Calls Tryz.prog 137 #[.int .i64 q, .int .i64 c] w (MapPost 2 [1, q] [0, c] w) := by
  have h1 : Row (((w.alloc (.cells #[.int .i64 2, .slice (some ⟨w.heap.size + 1, 0, none⟩) 2 2, .slice (some ⟨w.heap.size + 1 + 1, 0, none⟩) 2 2] 24)).alloc (.cells #[.int .i64 1, .int .i64 q] 3)).alloc (.cells #[.int .i64 0, .int .i64 c] 3)) (w.heap.size + 1) 3 (Is [1, q]) := by
    have := (Row.new (w.alloc (.cells #[.int .i64 2, .slice (some ⟨w.heap.size + 1, 0, none⟩) 2 2, .slice (some ⟨w.heap.size + 1 + 1, 0, none⟩) 2 2] 24)) 3 [.int .i64 1, .int .i64 q]).alloc (.cells #[.int .i64 0, .int .i64 c] 3)
    rwa [World.size_alloc] at this
  have h2 : Row (((w.alloc (.cells #[.int .i64 2, .slice (some ⟨w.heap.size + 1, 0, none⟩) 2 2, .slice (some ⟨w.heap.size + 1 + 1, 0, none⟩) 2 2] 24)).alloc (.cells #[.int .i64 1, .int .i64 q] 3)).alloc (.cells #[.int .i64 0, .int .i64 c] 3)) (w.heap.size + 1 + 1) 3 (Is [0, c]) := by
    have := Row.new ((w.alloc (.cells #[.int .i64 2, .slice (some ⟨w.heap.size + 1, 0, none⟩) 2 2, .slice (some ⟨w.heap.size + 1 + 1, 0, none⟩) 2 2] 24)).alloc (.cells #[.int .i64 1, .int .i64 q] 3)) 3 [.int .i64 0, .int .i64 c]
    rwa [World.size_alloc, World.size_alloc] at this
  have hfin : MapPost 2 [1, q] [0, c] w (.returned (.agg #[.int .i64 2, .slice (some ⟨w.heap.size + 1, 0, none⟩) 2 2, .slice (some ⟨w.heap.size + 1 + 1, 0, none⟩) 2 2])) (((w.alloc (.cells #[.int .i64 2, .slice (some ⟨w.heap.size + 1, 0, none⟩) 2 2, .slice (some ⟨w.heap.size + 1 + 1, 0, none⟩) 2 2] 24)).alloc (.cells #[.int .i64 1, .int .i64 q] 3)).alloc (.cells #[.int .i64 0, .int .i64 c] 3)) :=
    ⟨_, rfl, ⟨_, _, _, rfl, h1, h2, by omega, by omega, rfl, rfl, by omega⟩, (((Ext.rfl' w).alloc' _).alloc' _).alloc' _⟩
  have HF := hid hfin
  clear hfin h1 h2
  go_enter Tryz.func137, Tryz.ntmps137
  go_wp2
  refine bodyPost_ret (v := .agg #[.int .i64 2, .slice (some ⟨w.heap.size + 1, 0, none⟩) 2 2, .slice (some ⟨w.heap.size + 1 + 1, 0, none⟩) 2 2]) (by simp [results, Tryz.results137, go_sem]) rfl HF.out
set_option maxRecDepth 100000 in
set_option maxHeartbeats 800000 in
theorem refCollatz_any (w : World) : Calls Tryz.prog 68 #[] w (MapPost 2 [1, 3] [0, 1] w) := by
  have h1 : Row (((w.alloc (.cells #[.int .i64 2, .slice (some ⟨w.heap.size + 1, 0, none⟩) 2 2, .slice (some ⟨w.heap.size + 1 + 1, 0, none⟩) 2 2] 24)).alloc (.cells #[.int .i64 1, .int .i64 3] 3)).alloc (.cells #[.int .i64 0, .int .i64 1] 3)) (w.heap.size + 1) 3 (Is [1, 3]) := by
    have := (Row.new (w.alloc (.cells #[.int .i64 2, .slice (some ⟨w.heap.size + 1, 0, none⟩) 2 2, .slice (some ⟨w.heap.size + 1 + 1, 0, none⟩) 2 2] 24)) 3 [.int .i64 1, .int .i64 3]).alloc (.cells #[.int .i64 0, .int .i64 1] 3)
    rwa [World.size_alloc] at this
  have h2 : Row (((w.alloc (.cells #[.int .i64 2, .slice (some ⟨w.heap.size + 1, 0, none⟩) 2 2, .slice (some ⟨w.heap.size + 1 + 1, 0, none⟩) 2 2] 24)).alloc (.cells #[.int .i64 1, .int .i64 3] 3)).alloc (.cells #[.int .i64 0, .int .i64 1] 3)) (w.heap.size + 1 + 1) 3 (Is [0, 1]) := by
    have := Row.new ((w.alloc (.cells #[.int .i64 2, .slice (some ⟨w.heap.size + 1, 0, none⟩) 2 2, .slice (some ⟨w.heap.size + 1 + 1, 0, none⟩) 2 2] 24)).alloc (.cells #[.int .i64 1, .int .i64 3] 3)) 3 [.int .i64 0, .int .i64 1]
    rwa [World.size_alloc, World.size_alloc] at this
  have hfin : MapPost 2 [1, 3] [0, 1] w (.returned (.agg #[.int .i64 2, .slice (some ⟨w.heap.size + 1, 0, none⟩) 2 2, .slice (some ⟨w.heap.size + 1 + 1, 0, none⟩) 2 2])) (((w.alloc (.cells #[.int .i64 2, .slice (some ⟨w.heap.size + 1, 0, none⟩) 2 2, .slice (some ⟨w.heap.size + 1 + 1, 0, none⟩) 2 2] 24)).alloc (.cells #[.int .i64 1, .int .i64 3] 3)).alloc (.cells #[.int .i64 0, .int .i64 1] 3)) :=
    ⟨_, rfl, ⟨_, _, _, rfl, h1, h2, by omega, by omega, rfl, rfl, by omega⟩, (((Ext.rfl' w).alloc' _).alloc' _).alloc' _⟩
  have HF := hid hfin
  clear hfin h1 h2
  go_enter Tryz.func68, Tryz.ntmps68
  go_wp2
  refine bodyPost_ret (v := .agg #[.int .i64 2, .slice (some ⟨w.heap.size + 1, 0, none⟩) 2 2, .slice (some ⟨w.heap.size + 1 + 1, 0, none⟩) 2 2]) (by simp [results, Tryz.results68, go_sem]) rfl HF.out
theorem MapNew.ext {m : Int} {us ad : List Int} {b : Nat} {v : Value} {w w' : World} (h : MapNew m us ad b v w) (e : Ext w w') : MapNew m us ad b v w' := by
  obtain ⟨g1, g2, k, h1, h2, h3, h4⟩ := h
  exact ⟨g1, g2, k, h1, h2.ext e, h3.ext e, h4⟩
theorem MapNew.mapV {m : Int} {us ad : List Int} {b : Nat} {v : Value} {w : World} (h : MapNew m us ad b v w) : MapV w v m us ad := by
  obtain ⟨g1, g2, k, rfl, h2, h3, -, -, h6, h7, h8⟩ := h
  exact MapV.fresh h2 h3 h6 h7 h8
/-- a new map stored into an older box -/
theorem MapNew.stored {m : Int} {us ad : List Int} {b H : Nat} {v x y z : Value} {w : World} (h : MapNew m us ad b v w) (hH : H < b) : MapNew m us ad b v (((w.setCell ⟨H, 0, none⟩ x).setCell ⟨H, 1, none⟩ y).setCell ⟨H, 2, none⟩ z) := by
  obtain ⟨g1, g2, k, h1, h2, h3, h4, h5, h6⟩ := h
  exact ⟨g1, g2, k, h1, h2.set3 (by omega), h3.set3 (by omega), h4, h5, h6⟩
theorem MapNew.mono {m : Int} {us ad : List Int} {b c : Nat} {v : Value} {w : World} (h : MapNew m us ad b v w) (hc : c ≤ b) : MapNew m us ad c v w := by
  obtain ⟨g1, g2, k, h1, h2, h3, h4, h5, h6⟩ := h
  exact ⟨g1, g2, k, h1, h2, h3, by omega, by omega, h6⟩
set_option maxRecDepth 100000 in
set_option maxHeartbeats 800000 in
theorem stepCollatz_any (w : World) : Calls Tryz.prog 109 #[] w (MapPost 2 [1, 3] [0, 1] w) := by
  have hx : Ext w (w.alloc (.cells #[.int .i64 0, .slice none 0 0, .slice none 0 0] 24)) := (Ext.rfl' w).alloc' _
  have h0 := Row.new w 24 [.int .i64 0, .slice none 0 0, .slice none 0 0]
  have HX := hid hx
  have H0 := hid h0
  clear hx h0
  go_enter Tryz.func109, Tryz.ntmps109
  go_wp2_with fail
  refine (kin_any 3 1 _).mono ?_
  rintro e w2 ⟨v, rfl, hn, hx2⟩
  rw [World.size_alloc] at hn
  have hr := H0.out.ext hx2
  have hn2 := hn
  obtain ⟨g1, g2, k, rfl, -⟩ := hn
  have hfin : MapPost 2 [1, 3] [0, 1] w (.returned (.agg #[.int .i64 2, .slice (some ⟨g1, 0, none⟩) k k, .slice (some ⟨g2, 0, none⟩) k k])) (((w2.setCell ⟨w.heap.size, 0, none⟩ (.int .i64 2)).setCell ⟨w.heap.size, 1, none⟩ (.slice (some ⟨g1, 0, none⟩) k k)).setCell ⟨w.heap.size, 2, none⟩ (.slice (some ⟨g2, 0, none⟩) k k)) :=
    ⟨_, rfl, (hn2.stored (by omega)).mono (by omega), (HX.out.step hx2).set3 (Nat.le_refl _)⟩
  have HF := hid hfin
  obtain ⟨f0, f1, f2, f3, f4, f5⟩ := row_facts3 hr
  clear hfin hn2 hr hx2
  go_wp2
  refine bodyPost_ret (v := .agg #[.int .i64 2, .slice (some ⟨g1, 0, none⟩) k k, .slice (some ⟨g2, 0, none⟩) k k]) (by simp [results, Tryz.results109, go_sem, f0, f1, f2]) rfl HF.out
/-- the pair that Kin returns -/
def MapErr (m : Int) (us ad : List Int) (w : World) (e : Ending) (w' : World) : Prop := ∃ v, e = .returned (.tuple #[v, .int .i64 0]) ∧ MapNew m us ad w.heap.size v w' ∧ Ext w w'
set_option maxRecDepth 100000 in
set_option maxHeartbeats 800000 in
theorem ralike_eq (A B : Option Addr) (n c d : Nat) (xs : List Int) (w : World) (ra : Rd w A (Is xs)) (rb : Rd w B (Is xs)) (hn : xs.length = n) (hb : n ≤ 140737488351232) :
    Calls Tryz.prog 22 #[.slice A n c, .slice B n d] w (fun e w' => e = .returned (.bool true) ∧ Ext w w') := by
  have HN := hid hn
  have HA := hid ra
  have HB := hid rb
  have hb2 : n ≤ 9223372036854775807 := by omega
  clear hn ra rb
  go_enter Tryz.func22, Tryz.ntmps22
  go_wp2_with fail
  go_loopw [5] (fun iz wr => ∃ j : Nat, j ≤ n ∧ iz = .int .i64 (j : Int) ∧ Ext w wr) (fun iz _ => n - (intOf iz).toNat)
  case atStart => exact ⟨0, by omega, rfl, Ext.rfl' _⟩
  case round =>
    obtain ⟨j, hj, rfl, hex⟩ := hrel
    by_cases hlt : j < n
    · obtain ⟨b1, o1, e1, -, hc1⟩ := (HA.out.ext hex).atI (k := j) (by rw [HN.out]; exact hlt)
      obtain ⟨b2, o2, e2, -, hc2⟩ := (HB.out.ext hex).atI (k := j) (by rw [HN.out]; exact hlt)
      subst e1 e2
      obtain ⟨u, hu⟩ : ∃ u, xs.getD j 0 = u := ⟨_, rfl⟩
      rw [hu] at hc1 hc2
      clear hu
      go_wp2_with fail
      go_quiet (fail)
      have hex2 := hex.drewN nq
      go_wp2
      go_roundw
      case rel => exact ⟨j + 1, by omega, by simp, hex2⟩
      case measure => simp [intOf]; omega
    · have HX := hid hex
      go_wp2
      go_ret
      exact ⟨rfl, HX.out⟩
set_option maxRecDepth 100000 in
set_option maxHeartbeats 1600000 in
theorem rsame_eq (va vb : Value) (m : Int) (us ad : List Int) (w : World) (ha : MapV w va m us ad) (hb : MapV w vb m us ad) :
    Calls Tryz.prog 16 #[va, vb] w (fun e w' => e = .returned (.bool true) ∧ Ext w w') := by
  obtain ⟨A, n, c, B, n2, d, rfl, h1, h2, h3, h4, h5, h6, h7, h8⟩ := ha
  obtain ⟨C, n', c', D, n2', d', rfl, k1, k2, k3, k4, k5, k6, k7, k8⟩ := hb
  obtain rfl : n' = n := by omega
  obtain rfl : n2' = n2 := by omega
  have hx : Ext w ((w.alloc (.cells #[.int .i64 m, .slice A n' c, .slice B n2' d] 24)).alloc (.cells #[.int .i64 m, .slice C n' c', .slice D n2' d'] 24)) := ((Ext.rfl' w).alloc' _).alloc' _
  have q0 : Row ((w.alloc (.cells #[.int .i64 m, .slice A n' c, .slice B n2' d] 24)).alloc (.cells #[.int .i64 m, .slice C n' c', .slice D n2' d'] 24)) w.heap.size 24 [.int .i64 m, .slice A n' c, .slice B n2' d] := (Row.new w _ _).alloc _
  have q1 : Row ((w.alloc (.cells #[.int .i64 m, .slice A n' c, .slice B n2' d] 24)).alloc (.cells #[.int .i64 m, .slice C n' c', .slice D n2' d'] 24)) (w.heap.size + 1) 24 [.int .i64 m, .slice C n' c', .slice D n2' d'] := by
    have := Row.new (w.alloc (.cells #[.int .i64 m, .slice A n' c, .slice B n2' d] 24)) 24 [.int .i64 m, .slice C n' c', .slice D n2' d']
    rwa [World.size_alloc] at this
  obtain ⟨W2, hW2⟩ : ∃ W2, ((w.alloc (.cells #[.int .i64 m, .slice A n' c, .slice B n2' d] 24)).alloc (.cells #[.int .i64 m, .slice C n' c', .slice D n2' d'] 24)) = W2 := ⟨_, rfl⟩
  rw [hW2] at hx q0 q1
  have HW2 := hid hW2
  have HX := hid hx
  have Q0 := hid q0
  have Q1 := hid q1
  have HA := hid h5
  have HB := hid h6
  have HC := hid k5
  have HD := hid k6
  have H1 := hid h1
  have H3 := hid h3
  obtain ⟨f0, f1, f2, -, -, -⟩ := row_facts3 q0
  obtain ⟨e0, e1, e2, -, -, -⟩ := row_facts3 q1
  have hmm : (m == m) = true := by simp
  clear hW2 hx q0 q1 h5 h6 k5 k6 h1 h3 k1 k3
  go_enter Tryz.func16, Tryz.ntmps16
  go_upto_region 1 with fail
  rw [HW2.out]
  go_wp2_with fail
  refine (ralike_eq A C n' c c' us W2 (HA.out.ext HX.out) (HC.out.ext HX.out) H1.out h7).mono ?_
  rintro e w3 ⟨rfl, hx3⟩
  clear f0 f1 f2 e0 e1 e2
  obtain ⟨f0, f1, f2, -, -, -⟩ := row_facts3 (Q0.out.ext hx3)
  obtain ⟨e0, e1, e2, -, -, -⟩ := row_facts3 (Q1.out.ext hx3)
  have H2 := hid (HX.out.step hx3)
  clear hx3
  go_wp2_with fail
  refine (ralike_eq B D n2' d d' ad w3 (HB.out.ext H2.out) (HD.out.ext H2.out) H3.out h8).mono ?_
  rintro e w4 ⟨rfl, hx4⟩
  have HZ := hid (H2.out.step hx4)
  clear f0 f1 f2 e0 e1 e2 hx4
  go_wp2
  go_ret
  exact ⟨rfl, HZ.out⟩
end Go.Proofs.YtlfbgemceeibiaaGreatDoor
/- the reference's Of, at negative numbers -/
namespace Go.Proofs.YtlfbgemceeibiaaGreatDoor
open Go.RowKit
set_option maxRecDepth 100000 in
set_option maxHeartbeats 3200000 in
theorem of_neg (n : Nat) (w : World) (hn : n < 1000000000000000000) (hp : 0 < n) :
    Calls Tryz.prog 50 #[.int .i64 (-(n : Int))] w (RefPost (-(n : Int)) w) := by
  obtain ⟨i0, hi, hz0, hz1, hz2⟩ := info_parts infoI
  have hlt : -(n : Int) < 0 := by omega
  have hwr : IntKind.i64.wrap (n : Int) = (n : Int) := IntWalk.i64_in _ (by omega)
  go_enter Tryz.func50, Tryz.ntmps50
  go_wp2_with fail
  generalize hW0 : w.alloc (.cells #[.bool false, .slice none 0 0] 36) = W0
  have hE : Ext w W0 := by rw [← hW0]; exact (Ext.rfl' w).alloc' _
  have hR : Row W0 w.heap.size 36 [.bool false, .slice none 0 0] := by rw [← hW0]; exact Row.new w _ _
  clear hW0
  go_loopw [0, 4] (fun z v wr => ∃ (j q : Nat) (xs : List Nat) (A : Option Addr) (c : Nat), v = .slice A j c ∧ z = .int .i64 (q : Int) ∧ q ≤ n ∧ wr.ownsRow W0.heap.size 3 1 (.slice A j c) j (I64s xs) ∧ Ext W0 wr ∧ W0.heap.size ≤ wr.heap.size ∧
      Hid (xs.length = j ∧ K.lv xs + 1000000000 ^ j * q = n ∧ (∀ x ∈ xs, x < 1000000000) ∧ (0 < q ∨ xs.getLast? ≠ some 0) ∧ j ≤ 2)) (fun z _ _ => (intOf z).toNat)
  case atStart =>
    exact ⟨0, n, [], none, 0, rfl, rfl, Nat.le_refl _, World.ownsRow_nil _ _ _ _, Ext.rfl' _, Nat.le_refl _, hid ⟨rfl, by simp [K.lv], by simp, by simp, by omega⟩⟩
  case round =>
    obtain ⟨j, q, xs, A, c, rfl, rfl, hqn, hown, hex, hsz, hxs⟩ := hrel
    have HOWN := hid hown
    clear hown
    by_cases hq : 0 < q
    · have hj : j < 2 := by
        have h1 := hxs.out.2.1
        have h2 := hxs.out.2.2.2.2
        rcases Nat.lt_or_ge j 2 with h | h
        · exact h
        · obtain rfl : j = 2 := by omega
          simp at h1
          omega
      go_wp2_with (at_builtin; refine wpList_append_own _ rfl _ _ 22 rfl W0.heap.size 3 i0 (.int .i64 0) 1 8 Tryz.underlying22 hi hz0 hz1 hz2 rfl (by decide) _ _ _ rfl (HOWN.out.alloc _) ⟨wr.heap.size, 0, none⟩ 1 1 [.int .i64 ((q : Int) % 1000000000)] rfl rfl (cell_one_new _ _ _) (fun u hu => by simp at hu; subst hu; rfl) ?c1 ?c2 ?c3 ?_)
      case c1 => unfold maxLen; omega
      case c2 => omega
      case c3 => first | omega | (simp; omega)
      intro v' w1 hown' hgrow hnil
      obtain ⟨g, cap, sp, rfl, hg, hc1, hc2, hrow1, hvl, hsl⟩ := own_form hown' (by omega)
      have hex' : Ext W0 w1 := (hex.alloc' _).grown hgrow (by simp; omega) (by
        intro k hk
        exact (HOWN.out.lt k hk).1)
      have hsz' : W0.heap.size ≤ w1.heap.size := hex'.size
      have HO := hid hown'
      clear hown' hgrow hnil hrow1 hvl hsl hg hc1 hc2
      go_wp2
      go_roundw
      case rel =>
        have hx := hxs.out
        refine ⟨j + 1, q / 1000000000, xs ++ [q % 1000000000], _, _, rfl, by simp, by omega, by simpa using HO.out, hex', hsz', hid ⟨by simp [hx.1], ?_, ?_, ?_, by omega⟩⟩
        · rw [lv_snoc, hx.1, ← hx.2.1, Nat.pow_succ, Nat.mul_assoc, Nat.add_assoc, ← Nat.mul_add]
          congr 2
          omega
        · intro y hy
          rcases List.mem_append.1 hy with h | h
          · exact hx.2.2.1 y h
          · obtain rfl : y = q % 1000000000 := by simpa using h
            omega
        · by_cases h0 : 0 < q / 1000000000
          · exact .inl h0
          · refine .inr ?_
            rw [List.getLast?_append]
            simp
            omega
      case measure => simp [intOf]; omega
    · have hjc : j ≤ c := by
        rcases HOWN.out.2 with ⟨h, h0⟩ | ⟨g, cap, cur, h, hg, hh, hc, _⟩
        · injection h with h1 h2 h3; omega
        · injection h with h1 h2 h3; omega
      have hx := hxs.out
      have hrd := Rd.of_own HOWN.out
      have hr := hR.ext hex
      have c0 : wr.cell? ⟨w.heap.size, 0, none⟩ = some (.bool false) := hr.cell 0
      have c1 : wr.cell? ⟨w.heap.size, 1, none⟩ = some (.slice none 0 0) := hr.cell 1
      have f0 := hr.free 0
      have f1 := hr.free 1
      obtain rfl : q = 0 := by omega
      have hfin : RefPost (-(n : Int)) w (.returned (.agg #[.bool true, .slice A j c])) ((wr.setCell ⟨w.heap.size, 0, none⟩ (.bool true)).setCell ⟨w.heap.size, 1, none⟩ (.slice A j c)) := by
        refine ⟨_, rfl, ⟨A, j, c, xs, true, rfl, ?_, hx.1, hjc, ?_, ⟨hx.2.2.1, hx.2.2.2.1.resolve_left (by omega)⟩, ?_⟩, ((hE.step hex).set' (Nat.le_refl _) _).set' (Nat.le_refl _) _⟩
        · refine hid ?_
          symm
          exact decide_eq_true (by omega)
        · refine Rd.two hrd ?_ hr
          intro u hu
          obtain ⟨y, _, rfl⟩ := List.mem_map.1 hu
          exact ⟨_, _, rfl⟩
        · rw [Int.natAbs_neg, Int.natAbs_natCast, ← hx.2.1]; simp
      have HF := hid hfin
      clear hfin hx hrd hr hjc
      go_wp2
      refine bodyPost_ret (v := .agg #[.bool true, .slice A j c]) (by simp [results, Tryz.results50, go_sem, c0, c1]) rfl HF.out
/-- Of, at every number of this size -/
theorem of_any (i : Int) (w : World) (hn : i.natAbs < 1000000000000000000) : Calls Tryz.prog 50 #[.int .i64 i] w (RefPost i w) := by
  rcases Int.lt_or_le i 0 with h | h
  · obtain ⟨n, rfl⟩ : ∃ n : Nat, i = -(n : Int) := ⟨i.natAbs, by omega⟩
    exact of_neg n w (by omega) (by omega)
  · obtain ⟨n, rfl⟩ : ∃ n : Nat, i = (n : Int) := ⟨i.natAbs, by omega⟩
    exact of_nat n w (by omega)
end Go.Proofs.YtlfbgemceeibiaaGreatDoor
/- numbers whose difference is a multiple of a power of the modulus: plain mathematics -/
namespace Go.Proofs.YtlfbgemceeibiaaGreatDoor
/-- the number after some steps, whatever its size -/
def orbN (m : Int) (us ad : List Int) : Nat → Int → Int
  | 0, x => x
  | k + 1, x => stepI m us ad (orbN m us ad k x)
theorem orbN_cons (m : Int) (us ad : List Int) : ∀ (k : Nat) (x : Int), orbN m us ad (k + 1) x = orbN m us ad k (stepI m us ad x)
  | 0, x => rfl
  | k + 1, x => by
    rw [orbN, orbN_cons m us ad k x]
    rfl
/-- the factor of the rest of a number -/
def mulAt (m : Int) (us : List Int) (x : Int) : Int := us.getD (rOf m x) 0
/-- the product of the factors of the first rests -/
def growN (m : Int) (us ad : List Int) : Nat → Int → Int
  | 0, _ => 1
  | k + 1, x => growN m us ad k x * mulAt m us (orbN m us ad k x)
theorem seq_orb (m : Int) (us ad : List Int) (k : Nat) : ∀ (x : Int), none ∉ seqO m us ad k x → ∀ j, j < k → (seqO m us ad k x)[j]? = some (some (orbN m us ad (j + 1) x)) := by
  induction k with
  | zero => intro x _ j hj; omega
  | succ k ih =>
    intro x hn j hj
    rw [seqO] at hn ⊢
    by_cases hf : fitsB (stepI m us ad x) = true
    · rw [if_pos hf] at hn ⊢
      cases j with
      | zero => rfl
      | succ j =>
        rw [List.getElem?_cons_succ, ih _ (fun h => hn (List.mem_cons_of_mem _ h)) j (by omega), orbN_cons m us ad (j + 1) x]
    · rw [if_neg hf] at hn
      exact absurd (List.mem_singleton.2 rfl) hn
theorem seq_orb0 {m : Int} {us ad : List Int} {k : Nat} {x : Int} (hn : none ∉ seqO m us ad k x) (j : Nat) (hj : j < k + 1) : (some x :: seqO m us ad k x)[j]? = some (some (orbN m us ad j x)) := by
  cases j with
  | zero => rfl
  | succ j => rw [List.getElem?_cons_succ]; exact seq_orb m us ad k x hn j (by omega)
theorem rOf_shift {m : Int} (x t : Int) : rOf m (x + m * t) = rOf m x := by
  unfold rOf; rw [Int.add_mul_emod_self_left]
theorem stepI_shift {m : Int} {us ad : List Int} (hm : 0 < m) (x t : Int) : stepI m us ad (x + m * t) = stepI m us ad x + mulAt m us x * t := by
  unfold stepI mulAt
  rw [rOf_shift]
  generalize us.getD (rOf m x) 0 = u
  generalize ad.getD (rOf m x) 0 = a
  rw [show u * (x + m * t) + a = (u * x + a) + m * (u * t) by rw [Int.mul_add, Int.mul_left_comm]; omega, Int.add_mul_ediv_left _ _ (by omega)]
theorem alike_orb {m : Int} {us ad : List Int} (hm : 0 < m) (k : Nat) (x D : Int) : ∀ j, j ≤ k → orbN m us ad j (x + D * m ^ k) = orbN m us ad j x + D * growN m us ad j x * m ^ (k - j)
  | 0, _ => by simp [orbN, growN]
  | j + 1, h => by
    have ih := @alike_orb m us ad hm k x D j (by omega)
    have e : k - j = (k - (j + 1)) + 1 := by omega
    rw [orbN, ih, e, Int.pow_succ, orbN, growN]
    generalize m ^ (k - (j + 1)) = q
    generalize growN m us ad j x = g
    generalize orbN m us ad j x = y
    rw [show D * g * (q * m) = m * (D * g * q) by rw [← Int.mul_assoc, Int.mul_comm], stepI_shift hm]
    rw [show D * (g * mulAt m us y) * q = mulAt m us y * (D * g * q) by
      rw [← Int.mul_assoc, Int.mul_comm (D * g) (mulAt m us y), Int.mul_assoc]]
theorem alike_rest {m : Int} {us ad : List Int} (hm : 0 < m) (k : Nat) (x D : Int) (j : Nat) (h : j < k) : orbN m us ad j (x + D * m ^ k) % m = orbN m us ad j x % m := by
  rw [alike_orb hm k x D j (by omega), show k - j = (k - (j + 1)) + 1 by omega, Int.pow_succ]
  generalize m ^ (k - (j + 1)) = q
  rw [show D * growN m us ad j x * (q * m) = m * (D * growN m us ad j x * q) by rw [← Int.mul_assoc, Int.mul_comm], Int.add_mul_emod_self_left]
theorem alike_end {m : Int} {us ad : List Int} (hm : 0 < m) (k : Nat) (x D : Int) : orbN m us ad k (x + D * m ^ k) - orbN m us ad k x = D * growN m us ad k x := by
  rw [alike_orb hm k x D k (Nat.le_refl _), Nat.sub_self, Int.pow_zero, Int.mul_one]
  omega
theorem thousand (k : Nat) : 1000 ^ (3 * k) = TOP k := by
  unfold TOP
  rw [Nat.pow_mul]
theorem thousand_le (k c : Nat) (h : k ≤ 3 * c) : 1000 ^ k ≤ TOP c := by
  rw [← thousand]; exact Nat.pow_le_pow_right (by omega) h
/-- bounds: a number times a thousand as often as there are steps -/
theorem pow_top {D c : Int} (hD : K.fits D) (hc : c.natAbs ≤ 1000) (k : Nat) (hk : k ≤ 1002) : (D * c ^ k).natAbs ≤ BIG := by
  have h1 := fits_top hD
  have h2 : (c ^ k).natAbs ≤ 1000 ^ k := by rw [Int.natAbs_pow]; exact Nat.pow_le_pow_left hc k
  have h3 : 1000 ^ k ≤ TOP 334 := thousand_le k 334 (by omega)
  have h5 : (c ^ k).natAbs ≤ TOP 334 := Nat.le_trans h2 h3
  have h6 : (D * c ^ k).natAbs < TOP (223 + 334) := by
    rw [Int.natAbs_mul, TOP_add]
    calc D.natAbs * (c ^ k).natAbs ≤ D.natAbs * TOP 334 := Nat.mul_le_mul_left _ h5
      _ < TOP 223 * TOP 334 := Nat.mul_lt_mul_of_pos_right h1 (TOP_pos _)
  exact le_big h6 (by omega)
theorem grow_le {m : Int} {us ad : List Int} (hM : mapP m us ad) (x : Int) : ∀ k, (growN m us ad k x).natAbs ≤ 1000 ^ k
  | 0 => by simp [growN]
  | k + 1 => by
    have ih := grow_le hM x k
    have h := rule_at hM (orbN m us ad k x)
    have h2 : (mulAt m us (orbN m us ad k x)).natAbs ≤ 1000 := by
      unfold mulAt
      have h1 := h.1
      have h2 := h.2.1
      omega
    rw [growN, Int.natAbs_mul, Nat.pow_succ]
    exact Nat.mul_le_mul ih h2
theorem grow_top {m : Int} {us ad : List Int} (hM : mapP m us ad) {D : Int} (hD : K.fits D) (x : Int) (k : Nat) (hk : k ≤ 1002) : (D * growN m us ad k x).natAbs ≤ BIG := by
  have h1 := fits_top hD
  have h2 := grow_le hM x k
  have h3 : 1000 ^ k ≤ TOP 334 := thousand_le k 334 (by omega)
  have h5 : (growN m us ad k x).natAbs ≤ TOP 334 := Nat.le_trans h2 h3
  have h6 : (D * growN m us ad k x).natAbs < TOP (223 + 334) := by
    rw [Int.natAbs_mul, TOP_add]
    calc D.natAbs * (growN m us ad k x).natAbs ≤ D.natAbs * TOP 334 := Nat.mul_le_mul_left _ h5
      _ < TOP 223 * TOP 334 := Nat.mul_lt_mul_of_pos_right h1 (TOP_pos _)
  exact le_big h6 (by omega)
end Go.Proofs.YtlfbgemceeibiaaGreatDoor
/- the reference of layer 2: Rest, Step -/
namespace Go.Proofs.YtlfbgemceeibiaaGreatDoor
open Go.RowKit
set_option maxRecDepth 100000 in
set_option maxHeartbeats 800000 in
theorem rest2_any (v vn : Value) (m x : Int) (us ad : List Int) (w : World) (hv : MapV w v m us ad) (hn : RefV w vn x) (lx : x.natAbs ≤ BIG) (h1 : 1 ≤ m) (h2 : m ≤ 2147483647) :
    Calls Tryz.prog 51 #[v, vn] w (fun e w' => e = .returned (.int .i64 (x % m)) ∧ Ext w w') := by
  obtain ⟨d, rfl⟩ : ∃ d : Nat, m = (d : Int) := ⟨m.toNat, by omega⟩
  obtain ⟨A, n, cc, B, n2, d2, rfl, -⟩ := hv
  have hn' := hn
  obtain ⟨A1, k1, c1, xs1, b1, rfl, -⟩ := hn
  have hr1 : Row ((w.alloc (.cells #[.int .i64 (d : Int), .slice A n cc, .slice B n2 d2] 24)).alloc (.cells #[.bool b1, .slice A1 k1 c1] 36)) w.heap.size 24 [.int .i64 (d : Int), .slice A n cc, .slice B n2 d2] := (Row.new w _ _).alloc _
  have hr2 : Row ((w.alloc (.cells #[.int .i64 (d : Int), .slice A n cc, .slice B n2 d2] 24)).alloc (.cells #[.bool b1, .slice A1 k1 c1] 36)) (w.heap.size + 1) 36 [.bool b1, .slice A1 k1 c1] := by
    have := Row.new (w.alloc (.cells #[.int .i64 (d : Int), .slice A n cc, .slice B n2 d2] 24)) 36 [.bool b1, .slice A1 k1 c1]
    rwa [World.size_alloc] at this
  have hx : Ext w ((w.alloc (.cells #[.int .i64 (d : Int), .slice A n cc, .slice B n2 d2] 24)).alloc (.cells #[.bool b1, .slice A1 k1 c1] 36)) := ((Ext.rfl' w).alloc' _).alloc' _
  obtain ⟨W2, hW2⟩ : ∃ W2, ((w.alloc (.cells #[.int .i64 (d : Int), .slice A n cc, .slice B n2 d2] 24)).alloc (.cells #[.bool b1, .slice A1 k1 c1] 36)) = W2 := ⟨_, rfl⟩
  rw [hW2] at hr1 hr2 hx
  have HW2 := hid hW2
  have HX := hid hx
  have HN := hid (hn'.ext hx)
  obtain ⟨f0, f1, f2, -, -, -⟩ := row_facts3 hr1
  obtain ⟨g0, g1, -, -⟩ := row_facts hr2
  clear hW2 hr1 hr2 hx hn'
  go_enter Tryz.func51, Tryz.ntmps51
  go_upto_region 1 with fail
  rw [HW2.out]
  go_wp2_with fail
  refine (rpart_any _ x d W2 HN.out lx (by omega) (by omega)).mono ?_
  rintro e w3 ⟨v3, rfl, hv3, hx3⟩
  obtain ⟨A3, k3, c3, xs3, b3, rfl, -⟩ := hv3
  have HX3 := hid (HX.out.step hx3)
  clear f0 f1 f2 g0 g1 hx3
  go_wp2
  go_ret
  exact ⟨rfl, HX3.out.alloc' _⟩
theorem step_big {u a x : Int} (hu : 1 ≤ u) (hu2 : u ≤ 999) (ha : -999999 ≤ a) (ha2 : a ≤ 999999) (hx : K.fits x) : x.natAbs ≤ BIG ∧ (u * x).natAbs ≤ BIG ∧ (u * x + a).natAbs ≤ BIG := by
  have h := fits_top hx
  have h2 : TOP 224 = TOP 1 * TOP 223 := TOP_add 1 223
  have h1 : TOP 1 = 1000000000 := by decide
  have hp := TOP_pos 223
  have h3 : (u * x).natAbs = u.natAbs * x.natAbs := Int.natAbs_mul u x
  have h4 : u.natAbs * x.natAbs ≤ 999 * x.natAbs := Nat.mul_le_mul_right _ (by omega)
  have h5 : (u * x).natAbs < TOP 224 ∧ (u * x + a).natAbs < TOP 224 := by
    rw [h2, h1]
    generalize TOP 223 = t at *
    generalize u * x = y at *
    omega
  exact ⟨fits_big hx, le_big h5.1 (by omega), le_big h5.2 (by omega)⟩
theorem small_big {u : Int} (h : u.natAbs < 1000000000) : u.natAbs ≤ BIG := le_big (a := 1) (by rw [show TOP 1 = 1000000000 by decide]; exact h) (by omega)
/-- a box that was made on the way -/
def NB (B : Nat) (w : World) (g : Nat) : Prop := B ≤ g ∧ Row w g 36 [.bool false, .slice none 0 0]
theorem NB.new {B : Nat} {w : World} (h : B ≤ w.heap.size) : NB B (w.alloc (.cells #[.bool false, .slice none 0 0] 36)) w.heap.size := ⟨h, Row.new w _ [.bool false, .slice none 0 0]⟩
theorem NB.newD {B : Nat} {w : World} (h : B ≤ w.heap.size) : NB B (w.drew.alloc (.cells #[.bool false, .slice none 0 0] 36)) w.heap.size := ⟨h, Row.new w.drew _ [.bool false, .slice none 0 0]⟩
theorem NB.ext {B g : Nat} {w w' : World} (h : NB B w g) (e : Ext w w') : NB B w' g := ⟨h.1, h.2.ext e⟩
theorem RefPost.put {w w3 : World} {q : Int} {b : Bool} {A : Option Addr} {k c H : Nat} {t : TypeId} (r1 : Row w3 H t [.bool false, .slice none 0 0]) (hw : Ext w w3) (hH : w.heap.size ≤ H) (hv : RefV w3 (.agg #[.bool b, .slice A k c]) q) :
    RefPost q w (.returned (.agg #[.bool b, .slice A k c])) ((w3.setCell ⟨H, 0, none⟩ (.bool b)).setCell ⟨H, 1, none⟩ (.slice A k c)) :=
  ⟨_, rfl, hv.box r1, (hw.set' (by show _ ≤ H; omega) _).set' (by show _ ≤ H; omega) _⟩
set_option maxRecDepth 100000 in
set_option maxHeartbeats 12800000 in
theorem step2_l (ba oa bb ob n cc n2 d2 d r : Nat) (vn : Value) (u a x : Int) (us ad : List Int) (w : World) (hra : Rd w (some ⟨ba, oa, none⟩) (Is us)) (hrb : Rd w (some ⟨bb, ob, none⟩) (Is ad)) (hn1 : us.length = n) (hn2 : ad.length = n2)
    (hmv : MapV w (.agg #[.int .i64 (d : Int), .slice (some ⟨ba, oa, none⟩) n cc, .slice (some ⟨bb, ob, none⟩) n2 d2]) (d : Int) us ad) (hn : RefV w vn x) (hd : 2 ≤ d) (hd2 : d ≤ 12) (hr : Hid ((r : Int) = x % (d : Int))) (hrn : r < n) (hrn2 : r < n2) (hu : Hid (us.getD r 0 = u)) (ha : Hid (ad.getD r 0 = a)) (B : Hid (x.natAbs ≤ BIG ∧ (u * x).natAbs ≤ BIG ∧ (u * x + a).natAbs ≤ BIG))
    (hu1 : 1 ≤ u) (hu2 : u ≤ 999) (ha1 : -999999 ≤ a) (ha2 : a ≤ 999999) :
    Calls Tryz.prog 45 #[.agg #[.int .i64 (d : Int), .slice (some ⟨ba, oa, none⟩) n cc, .slice (some ⟨bb, ob, none⟩) n2 d2], vn] w (RefPost ((u * x + a) / (d : Int)) w) := by
  have hn' := hn
  obtain ⟨A1, k1, c1, xs1, b1, rfl, -⟩ := hn
  have hx : Ext w (((w.alloc (.cells #[.int .i64 (d : Int), .slice (some ⟨ba, oa, none⟩) n cc, .slice (some ⟨bb, ob, none⟩) n2 d2] 24)).alloc (.cells #[.bool b1, .slice A1 k1 c1] 36)).alloc (.cells #[.bool false, .slice none 0 0] 36)) := (((Ext.rfl' w).alloc' _).alloc' _).alloc' _
  have hr1 : Row (((w.alloc (.cells #[.int .i64 (d : Int), .slice (some ⟨ba, oa, none⟩) n cc, .slice (some ⟨bb, ob, none⟩) n2 d2] 24)).alloc (.cells #[.bool b1, .slice A1 k1 c1] 36)).alloc (.cells #[.bool false, .slice none 0 0] 36)) w.heap.size 24 [.int .i64 (d : Int), .slice (some ⟨ba, oa, none⟩) n cc, .slice (some ⟨bb, ob, none⟩) n2 d2] := ((Row.new w _ _).alloc _).alloc _
  have hr2 : Row (((w.alloc (.cells #[.int .i64 (d : Int), .slice (some ⟨ba, oa, none⟩) n cc, .slice (some ⟨bb, ob, none⟩) n2 d2] 24)).alloc (.cells #[.bool b1, .slice A1 k1 c1] 36)).alloc (.cells #[.bool false, .slice none 0 0] 36)) (w.heap.size + 1) 36 [.bool b1, .slice A1 k1 c1] := by
    have := (Row.new (w.alloc (.cells #[.int .i64 (d : Int), .slice (some ⟨ba, oa, none⟩) n cc, .slice (some ⟨bb, ob, none⟩) n2 d2] 24)) 36 [.bool b1, .slice A1 k1 c1]).alloc (.cells #[.bool false, .slice none 0 0] 36)
    rwa [World.size_alloc] at this
  have hr3 : Row (((w.alloc (.cells #[.int .i64 (d : Int), .slice (some ⟨ba, oa, none⟩) n cc, .slice (some ⟨bb, ob, none⟩) n2 d2] 24)).alloc (.cells #[.bool b1, .slice A1 k1 c1] 36)).alloc (.cells #[.bool false, .slice none 0 0] 36)) (w.heap.size + 1 + 1) 36 [.bool false, .slice none 0 0] := by
    have := Row.new ((w.alloc (.cells #[.int .i64 (d : Int), .slice (some ⟨ba, oa, none⟩) n cc, .slice (some ⟨bb, ob, none⟩) n2 d2] 24)).alloc (.cells #[.bool b1, .slice A1 k1 c1] 36)) 36 [.bool false, .slice none 0 0]
    rwa [World.size_alloc, World.size_alloc] at this
  have hz3 : (((w.alloc (.cells #[.int .i64 (d : Int), .slice (some ⟨ba, oa, none⟩) n cc, .slice (some ⟨bb, ob, none⟩) n2 d2] 24)).alloc (.cells #[.bool b1, .slice A1 k1 c1] 36)).alloc (.cells #[.bool false, .slice none 0 0] 36)).heap.size = w.heap.size + 1 + 1 + 1 := by simp
  obtain ⟨W3, hW3⟩ : ∃ W3, (((w.alloc (.cells #[.int .i64 (d : Int), .slice (some ⟨ba, oa, none⟩) n cc, .slice (some ⟨bb, ob, none⟩) n2 d2] 24)).alloc (.cells #[.bool b1, .slice A1 k1 c1] 36)).alloc (.cells #[.bool false, .slice none 0 0] 36)) = W3 := ⟨_, rfl⟩
  rw [hW3] at hx hr1 hr2 hr3 hz3
  have HW3 := hid hW3
  have HX := hid hx
  have HN := hid (hn'.ext hx)
  have HM := hid (hmv.ext hx)
  have H1 := hid hr1
  have H2 := hid hr2
  have H3 := hid hr3
  have HZ3 := hid hz3
  have HRA := hid (hra.ext hx)
  have HRB := hid (hrb.ext hx)
  have HL1 := hid hn1
  have HL2 := hid hn2
  have HS : Hid (∀ W', Ext W3 W' → W'.cell? ⟨w.heap.size, 0, none⟩ = some (.int .i64 (d : Int)) ∧ W'.cell? ⟨w.heap.size, 1, none⟩ = some (.slice (some ⟨ba, oa, none⟩) n cc) ∧ W'.cell? ⟨w.heap.size, 2, none⟩ = some (.slice (some ⟨bb, ob, none⟩) n2 d2) ∧ W'.cell? ⟨w.heap.size + 1, 0, none⟩ = some (.bool b1) ∧ W'.cell? ⟨w.heap.size + 1, 1, none⟩ = some (.slice A1 k1 c1) ∧ W'.cell? ⟨ba, oa + r, none⟩ = some (.int .i64 u) ∧ W'.cell? ⟨bb, ob + r, none⟩ = some (.int .i64 a)) := hid (by
    intro W' e
    obtain ⟨p0, p1, p2, -, -, -⟩ := row_facts3 (H1.out.ext e)
    obtain ⟨q0, q1, -, -⟩ := row_facts (H2.out.ext e)
    obtain ⟨b2, o2, e2, -, hc1⟩ := (HRA.out.ext e).atI (k := r) (by rw [HL1.out]; exact hrn)
    obtain ⟨b3, o3, e3, -, hc2⟩ := (HRB.out.ext e).atI (k := r) (by rw [HL2.out]; exact hrn2)
    cases e2
    cases e3
    rw [hu.out] at hc1
    rw [ha.out] at hc2
    exact ⟨p0, p1, p2, q0, q1, hc1, hc2⟩)
  have HUB := hid (small_big (show u.natAbs < 1000000000 by omega))
  have HAB := hid (small_big (show a.natAbs < 1000000000 by omega))
  have HBU := hid (show u.natAbs < 1000000000000000000 by omega)
  have HBA := hid (show a.natAbs < 1000000000000000000 by omega)
  have i0 : (0 : Int) ≤ (r : Int) := by omega
  have i1 : (r : Int) < (n : Int) := by omega
  have i2 : (r : Int) < (n2 : Int) := by omega
  clear hW3 hx hr1 hr2 hr3 hn' hmv hra hrb hn1 hn2 hu1 hu2 ha1 ha2 hz3
  obtain ⟨f0, f1, f2, g0, g1, -, -⟩ := HS.out _ (Ext.rfl' _)
  go_enter Tryz.func45, Tryz.ntmps45
  go_upto_region 1 with fail
  rw [HW3.out]
  go_wp2_with fail
  refine (rest2_any _ _ (d : Int) x us ad W3 HM.out HN.out B.out.1 (by omega) (by omega)).mono ?_
  rintro e w4 ⟨rfl, hx4⟩
  rw [← hr.out]
  have hcur : Ext W3 w4 := hx4
  clear f0 f1 f2 g0 g1 hx4
  go_upto_region 2 with fail
  go_cut [6, 7] (fun s6 s7 wx => ∃ (g : Nat) (b : Bool) (P : Option Addr) (k c : Nat), s6 = .pointer (some ⟨g, 0, none⟩) ∧ s7 = .int .i64 ((u * x + a) % (d : Int)) ∧ Row wx g 36 [.bool b, .slice P k c] ∧ RefV wx (.agg #[.bool b, .slice P k c]) ((u * x + a) / (d : Int)) ∧ Ext W3 wx)
  case first =>
    go_region_held3 (fun W' => W'.cell? ⟨w.heap.size, 0, none⟩ = some (.int .i64 (d : Int)) ∧ W'.cell? ⟨w.heap.size, 1, none⟩ = some (.slice (some ⟨ba, oa, none⟩) n cc) ∧ W'.cell? ⟨w.heap.size, 2, none⟩ = some (.slice (some ⟨bb, ob, none⟩) n2 d2) ∧ W'.cell? ⟨w.heap.size + 1, 0, none⟩ = some (.bool b1) ∧ W'.cell? ⟨w.heap.size + 1, 1, none⟩ = some (.slice A1 k1 c1) ∧ W'.cell? ⟨ba, oa + r, none⟩ = some (.int .i64 u) ∧ W'.cell? ⟨bb, ob + r, none⟩ = some (.int .i64 a))
      (first | exact HS.out _ hcur | exact HS.out _ hcur.drew' | exact HS.out _ (hcur.alloc' _) | exact HS.out _ (hcur.drew'.alloc' _) | exact HS.out _ ((hcur.set' HB2.out.1 _).set' HB2.out.1 _) | go_keep)
      (first
        | (go_at_call_of 50 (Value.int IntKind.i64 u); refine (of_any u _ HBU.out).mono ?_; rintro e w6 ⟨v6, rfl, hv6, hx⟩; (first | have HB2 := hid (HB2.out.ext hx) | have HB2 := hid ((NB.new hcur.size).ext hx) | have HB2 := hid ((NB.newD hcur.size).ext hx) | skip); have hcur := Ext.step hcur (by first | exact hx | exact Ext.undrew hx | exact Ext.step ((Ext.rfl' _).alloc' _) hx | exact Ext.step ((Ext.rfl' _).drew'.alloc' _) hx); have HV6 := hid hv6; obtain ⟨A6, k6, c6, xs6, b6, rfl, -⟩ := hv6; (first | (have hyy := row_facts HB2.out.2; obtain ⟨y0, y1, y2, y3⟩ := hyy) | skip))
        | (go_at_call 38; refine (rmul_any _ _ u x _ (HV6.out.ext ?_) (HN.out.ext ?_) HUB.out B.out.1).mono ?_; (first | exact Ext.rfl' _ | exact (Ext.rfl' _).drew' | exact (Ext.rfl' _).alloc' _ | exact (Ext.rfl' _).drew'.alloc' _); (first | exact hcur | exact hcur.drew' | exact hcur.alloc' _ | exact hcur.drew'.alloc' _ | exact (hcur.alloc' _).drew'); rintro e w7 ⟨v7, rfl, hv7, hx⟩; (first | have HB2 := hid (HB2.out.ext hx) | have HB2 := hid ((NB.new hcur.size).ext hx) | have HB2 := hid ((NB.newD hcur.size).ext hx) | skip); have hcur := Ext.step hcur (by first | exact hx | exact Ext.undrew hx | exact Ext.step ((Ext.rfl' _).alloc' _) hx | exact Ext.step ((Ext.rfl' _).drew'.alloc' _) hx); have HV7 := hid hv7; obtain ⟨A7, k7, c7, xs7, b7, rfl, -⟩ := hv7; (first | (have hyy := row_facts HB2.out.2; obtain ⟨y0, y1, y2, y3⟩ := hyy) | skip))
        | (go_at_call_of 50 (Value.int IntKind.i64 a); refine (of_any a _ HBA.out).mono ?_; rintro e w8 ⟨v8, rfl, hv8, hx⟩; (first | have HB2 := hid (HB2.out.ext hx) | have HB2 := hid ((NB.new hcur.size).ext hx) | have HB2 := hid ((NB.newD hcur.size).ext hx) | skip); have HV7 := hid (by first | exact HV7.out.ext hx | exact HV7.out.ext (Ext.undrew hx) | exact HV7.out.ext (Ext.step ((Ext.rfl' _).alloc' _) hx)); have hcur := Ext.step hcur (by first | exact hx | exact Ext.undrew hx | exact Ext.step ((Ext.rfl' _).alloc' _) hx | exact Ext.step ((Ext.rfl' _).drew'.alloc' _) hx); have HV8 := hid hv8; obtain ⟨A8, k8, c8, xs8, b8, rfl, -⟩ := hv8; (first | (have hyy := row_facts HB2.out.2; obtain ⟨y0, y1, y2, y3⟩ := hyy) | skip))
        | (go_at_call 34; refine (radd_any _ _ (u * x) a _ (HV7.out.ext ?_) (HV8.out.ext ?_) B.out.2.1 HAB.out).mono ?_; (first | exact Ext.rfl' _ | exact (Ext.rfl' _).drew' | exact (Ext.rfl' _).alloc' _ | exact (Ext.rfl' _).drew'.alloc' _); (first | exact Ext.rfl' _ | exact (Ext.rfl' _).drew' | exact (Ext.rfl' _).alloc' _ | exact (Ext.rfl' _).drew'.alloc' _); rintro e w9 ⟨v9, rfl, hv9, hx⟩; (first | have HB2 := hid (HB2.out.ext hx) | have HB2 := hid ((NB.new hcur.size).ext hx) | have HB2 := hid ((NB.newD hcur.size).ext hx) | skip); have hcur := Ext.step hcur (by first | exact hx | exact Ext.undrew hx | exact Ext.step ((Ext.rfl' _).alloc' _) hx | exact Ext.step ((Ext.rfl' _).drew'.alloc' _) hx); have HV9 := hid hv9; obtain ⟨A9, k9, c9, xs9, b9, rfl, -⟩ := hv9; (first | (have hyy := row_facts HB2.out.2; obtain ⟨y0, y1, y2, y3⟩ := hyy) | skip))
        | (go_at_call 48; refine (rpart_any _ (u * x + a) d _ (HV9.out.ext ?_) B.out.2.2 (by omega) (by omega)).mono ?_; (first | exact Ext.rfl' _ | exact (Ext.rfl' _).drew' | exact (Ext.rfl' _).alloc' _ | exact (Ext.rfl' _).drew'.alloc' _); rintro e w10 ⟨v10, rfl, hv10, hx⟩; (first | have HB2 := hid (HB2.out.ext hx) | have HB2 := hid ((NB.new hcur.size).ext hx) | have HB2 := hid ((NB.newD hcur.size).ext hx) | skip); have hcur := Ext.step hcur (by first | exact hx | exact Ext.undrew hx | exact Ext.step ((Ext.rfl' _).alloc' _) hx | exact Ext.step ((Ext.rfl' _).drew'.alloc' _) hx); have HV10 := hid hv10; obtain ⟨A10, k10, c10, xs10, b10, rfl, -⟩ := hv10; (first | (have hyy := row_facts HB2.out.2; obtain ⟨y0, y1, y2, y3⟩ := hyy) | skip)))
    all_goals
      go_wp2_with fail
      go_meet
      first
        | exact ⟨_, b10, A10, k10, c10, rfl, rfl, (HB2.out.2.set 0 _).set 1 _, HV10.out.box HB2.out.2, (hcur.set' HB2.out.1 _).set' HB2.out.1 _⟩
        | exact ⟨_, b10, A10, k10, c10, rfl, rfl, Row.new _ _ [.bool b10, .slice A10 k10 c10], HV10.out.ext ((Ext.rfl' _).alloc' _), hcur.alloc' _⟩
  case rest =>
    obtain ⟨g, b, P, k, c, rfl, rfl, hrow, hv, hex⟩ := hcut
    have hr3 := H3.out.ext hex
    have HF := hid (RefPost.put hr3 (HX.out.step hex) (by omega) hv)
    obtain ⟨t0, t1, -, -⟩ := row_facts hrow
    obtain ⟨z0, z1, z2, z3⟩ := row_facts hr3
    clear hr3 hv hrow hex
    go_wp2
    refine bodyPost_ret (v := .agg #[.bool b, .slice P k c]) (by simp [results, Tryz.results45, go_sem, z0, z1]) rfl HF.out
set_option maxRecDepth 100000 in
theorem step2_any (v vn : Value) (m x : Int) (us ad : List Int) (w : World) (hv : MapV w v m us ad) (hM : Hid (mapP m us ad)) (hn : RefV w vn x) (hf : Hid (x.natAbs ≤ BIG ∧ (mulAt m us x * x).natAbs ≤ BIG ∧ (mulAt m us x * x + ad.getD (rOf m x) 0).natAbs ≤ BIG)) :
    Calls Tryz.prog 45 #[v, vn] w (RefPost (stepI m us ad x) w) := by
  have hm := hM.out
  obtain ⟨d, rfl⟩ : ∃ d : Nat, m = (d : Int) := ⟨m.toNat, by have := hm.1; omega⟩
  have hr := rOf_lt (m := (d : Int)) (x := x) (by have := hm.1; omega)
  have hu := rule_at hm x
  have hmv := hv
  obtain ⟨A, n, cc, B, n2, d2, rfl, h1, h2, h3, h4, h5, h6, h7, h9⟩ := hv
  have l1 : rOf (d : Int) x < us.length := by have := hm.2.2.1; omega
  have l2 : rOf (d : Int) x < ad.length := by have := hm.2.2.2.1; omega
  obtain ⟨ba, oa, eA, -, -⟩ := h5.atI l1
  obtain ⟨bb, ob, eB, -, -⟩ := h6.atI l2
  subst eA eB
  exact step2_l ba oa bb ob n cc n2 d2 d (rOf (d : Int) x) vn (us.getD (rOf (d : Int) x) 0) (ad.getD (rOf (d : Int) x) 0) x us ad w h5 h6 h1 h3 hmv hn (by have := hm.1; omega) (by have := hm.2.1; omega) (hid hr.2) (by omega) (by omega) (hid rfl) (hid rfl) hf hu.1 hu.2.1 hu.2.2.1 hu.2.2.2.1
/-- from a number that fits -/
theorem step2_fits (v vn : Value) (m x : Int) (us ad : List Int) (w : World) (hv : MapV w v m us ad) (hM : Hid (mapP m us ad)) (hn : RefV w vn x) (hf : Hid (K.fits x)) :
    Calls Tryz.prog 45 #[v, vn] w (RefPost (stepI m us ad x) w) := by
  have hu := rule_at hM.out x
  exact step2_any v vn m x us ad w hv hM hn (hid (step_big hu.1 hu.2.1 hu.2.2.1 hu.2.2.2.1 hf.out))
theorem stepI_big {m x : Int} {us ad : List Int} (hM : mapP m us ad) (hx : K.fits x) : (stepI m us ad x).natAbs ≤ BIG := by
  have hu := rule_at hM x
  have h := (step_big hu.1 hu.2.1 hu.2.2.1 hu.2.2.2.1 hx).2.2
  refine Nat.le_trans ?_ h
  have hm := hM.1
  unfold stepI
  generalize us.getD (rOf m x) 0 * x + ad.getD (rOf m x) 0 = t
  obtain ⟨d, rfl⟩ : ∃ d : Nat, m = (d : Int) := ⟨m.toNat, by omega⟩
  rcases Int.lt_or_le t 0 with h0 | h0
  · have h1 : t ≤ t / (d : Int) := by
      have := Int.ediv_mul_le t (show (d : Int) ≠ 0 by omega)
      have h2 : t / (d : Int) < 0 := Int.ediv_lt_of_lt_mul (by omega) (by omega)
      have h3 : t / (d : Int) * 1 ≥ t / (d : Int) * (d : Int) := Int.mul_le_mul_of_nonpos_left (by omega) (by omega)
      have h4 := Int.lt_ediv_add_one_mul_self t (show (0 : Int) < (d : Int) by omega)
      have h5 : (t / (d : Int) + 1) * (d : Int) ≤ (t / (d : Int) + 1) * 1 := Int.mul_le_mul_of_nonpos_left (by omega) (by omega)
      omega
    have h2 : t / (d : Int) < 0 := Int.ediv_lt_of_lt_mul (by omega) (by omega)
    omega
  · have h1 : 0 ≤ t / (d : Int) := Int.ediv_nonneg h0 (by omega)
    have h2 : t / (d : Int) ≤ t := Int.ediv_le_self _ h0
    omega
end Go.Proofs.YtlfbgemceeibiaaGreatDoor
/- the reference's Twin: a copy of a map -/
namespace Go.Proofs.YtlfbgemceeibiaaGreatDoor
open Go.RowKit
/-- the slice reads as the values, out of a block from B on -/
def RdN (B : Nat) (w : World) (A : Option Addr) (vs : List Value) : Prop :=
  vs = [] ∨ ∃ b o, A = some ⟨b, o, none⟩ ∧ B ≤ b ∧ b < w.heap.size ∧ ∀ j u, vs[j]? = some u → w.cell? ⟨b, o + j, none⟩ = some u
theorem RdN.rd {B : Nat} {w : World} {A : Option Addr} {vs : List Value} (h : RdN B w A vs) : Rd w A vs := by
  rcases h with h | ⟨b, o, ha, -, hb, hc⟩
  · exact .inl h
  · exact .inr ⟨b, o, ha, hb, hc⟩
theorem RdN.ext {B : Nat} {w w' : World} {A : Option Addr} {vs : List Value} (h : RdN B w A vs) (e : Ext w w') : RdN B w' A vs := by
  rcases h with h | ⟨b, o, ha, hB, hb, hc⟩
  · exact .inl h
  · exact .inr ⟨b, o, ha, hB, Nat.lt_of_lt_of_le hb e.size, fun j u hu => (e.cell (p := ⟨b, o + j, none⟩) hb).trans (hc j u hu)⟩
theorem RdN.far {B : Nat} {w : World} {A : Option Addr} {vs : List Value} (h : RdN B w A vs) {p : Addr} (hp : p.block < B) (u : Value) : RdN B (w.setCell p u) A vs := by
  rcases h with h | ⟨b, o, ha, hB, hb, hc⟩
  · exact .inl h
  · refine .inr ⟨b, o, ha, hB, by rw [World.size_setCell]; exact hb, fun j v hv => ?_⟩
    rw [World.cell?_of_block (Below.heap_setCell w p u b (by omega))]
    exact hc j v hv
/-- a list appended to an empty one, as one step of a region that draws -/
theorem step_twin {P : Program} {ops : Array Oper} {o : Oper} {a : Act} {w : World} {K : Act → World → Prop} {Q : Exit → Act → World → Prop} {E : Prop}
    (hg : o.guard = none) (s x : Operand) (t : TypeId) (hop : o.op = Op.call { callee := Callee.builtin Builtin.append, args := #[s, x], argTypes := #[t, t] })
    (e : TypeId) (i : TypeInfo) (h1 : P.underlying t = some (.slice e)) (h2 : P.info? e = some i) (h3 : i.zero = some (.int .i64 0)) (h4 : i.size = 1) (h5 : i.bytes = 8)
    (b : Addr) (hs : a.eval s = .slice (some b) 0 0) (A : Option Addr) (k c : Nat) (hx : a.eval x = .slice A k c) (us : List Int) (hl : us.length = k) (hr : Rd w A (Is us)) (hb : k * 8 ≤ 140737488355328)
    (B0 : Nat) (hB0 : B0 ≤ w.heap.size)
    (hK : ∀ A' c' w', k ≤ c' → RdN B0 w' A' (Is us) → Ext w w' → K (a.put o.dst (.slice A' k c')) w') :
    if Region.wanted o (yielded ops a.tmps) = true then Oper.wp P o a w K Q else E := by
  rcases Nat.eq_zero_or_pos k with h0 | h0
  · subst h0
    have hw : Region.wanted o (yielded ops a.tmps) = true := by simp [Region.wanted, hg]
    rw [if_pos hw]
    have hsrc : Src P i.size t (.slice A 0 c) 0 [] w := by
      cases A with
      | none => exact Src.ofNil w h1 c
      | some ad => exact Src.ofSlice w h1 ad 0 c [] (by simp) (by simp) (by simp)
    have hrun := run_append_nothing (P := P) w t t o.type e i h1 h2 (some b) 0 0 (Nat.le_refl _) (.slice A 0 c) hsrc
    unfold Oper.wp
    simp [execOp, hop, resolve, invoke, builtin, hs, hx, hrun, Result.andThen]
    exact hK (some b) 0 w (Nat.le_refl _) (by rw [List.eq_nil_of_length_eq_zero hl]; exact .inl rfl) (Ext.rfl' w)
  · rcases hr with hn | ⟨g, off, rfl, hlt, hc⟩
    · rw [List.map_eq_nil_iff] at hn; subst hn; simp at hl; omega
    · refine step_append_grows hg s x t hop e i (.int .i64 0) 1 8 h1 h2 h3 h4 h5 rfl (by decide) (some b) 0 0 [] hs (fun h => by cases h) (by simp) (fun b' _ j u hu => by simp at hu) ⟨g, off, none⟩ k c (Is us) hx (by simp [hl]) (fun j u hu => ?_) (fun u hu => ?_) (by omega) (by unfold maxLen; omega) (by omega) ?_
      · have : (⟨g, off, none⟩ : Addr).add j = ⟨g, off + j, none⟩ := by unfold Addr.add; split <;> simp_all
        rw [this]; exact hc j u hu
      · obtain ⟨y, _, rfl⟩ := List.mem_map.1 hu; rfl
      · intro v' w' hown hgrow
        rw [Nat.zero_add, List.nil_append] at hown
        obtain ⟨g', cap, sp, rfl, hge, hcap, -⟩ := own_form hown (by omega)
        refine hK _ _ w' hcap ?_ ⟨hgrow.os, hgrow.tape, hgrow.output, hgrow.size, fun j hj => hgrow.block j hj (by simp)⟩
        rcases Rd.of_own hown with h | ⟨b1, o1, e1, hb1, hc1⟩
        · exact .inl h
        · refine .inr ⟨b1, o1, e1, ?_, hb1, hc1⟩
          cases e1
          omega
theorem infoI2 : (Tryz.prog.info? 3).map (fun i => (i.zero, i.size, i.bytes)) = some (some (.int .i64 0), 1, 8) := by kernel_rfl
set_option maxRecDepth 100000 in
set_option maxHeartbeats 3200000 in
theorem twin_any (v : Value) (m : Int) (us ad : List Int) (w : World) (hv : MapV w v m us ad) (h8 : Fit8 v) :
    Calls Tryz.prog 14 #[v] w (fun e w' => ∃ v2, e = .returned v2 ∧ MapV w' v2 m us ad ∧ Ext w w') := by
  obtain ⟨i0, hi, hz0, hz1, hz2⟩ := info_parts infoI2
  obtain ⟨A, n, cc, B, n2, d, rfl, h1, h2, h3, h4, h5, h6, h7, h9⟩ := hv
  obtain ⟨h8a, h8b⟩ := h8 _ _ _ _ _ _ _ rfl
  have hx : Ext w ((w.alloc (.cells #[.int .i64 m, .slice A n cc, .slice B n2 d] 24)).alloc (.cells #[.int .i64 0, .slice none 0 0, .slice none 0 0] 24)) := ((Ext.rfl' w).alloc' _).alloc' _
  have r1 : Row ((w.alloc (.cells #[.int .i64 m, .slice A n cc, .slice B n2 d] 24)).alloc (.cells #[.int .i64 0, .slice none 0 0, .slice none 0 0] 24)) w.heap.size 24 [.int .i64 m, .slice A n cc, .slice B n2 d] := (Row.new w _ _).alloc _
  have r2 : Row ((w.alloc (.cells #[.int .i64 m, .slice A n cc, .slice B n2 d] 24)).alloc (.cells #[.int .i64 0, .slice none 0 0, .slice none 0 0] 24)) (w.heap.size + 1) 24 [.int .i64 0, .slice none 0 0, .slice none 0 0] := by
    have := Row.new (w.alloc (.cells #[.int .i64 m, .slice A n cc, .slice B n2 d] 24)) 24 [.int .i64 0, .slice none 0 0, .slice none 0 0]
    rwa [World.size_alloc] at this
  obtain ⟨W2, hW2⟩ : ∃ W2, ((w.alloc (.cells #[.int .i64 m, .slice A n cc, .slice B n2 d] 24)).alloc (.cells #[.int .i64 0, .slice none 0 0, .slice none 0 0] 24)) = W2 := ⟨_, rfl⟩
  rw [hW2] at hx r1 r2
  have HW2 := hid hW2
  have HX := hid hx
  have R1 := hid r1
  have R2 := hid r2
  have HA := hid (h5.ext hx)
  have HB := hid (h6.ext hx)
  have H1 := hid h1
  have H3 := hid h3
  obtain ⟨f0, f1, f2, -, -, -⟩ := row_facts3 r1
  have hcur : Ext W2 W2 := Ext.rfl' _
  clear hW2 hx r1 r2 h5 h6 h1 h3 h8
  go_enter Tryz.func14, Tryz.ntmps14
  go_upto_region 1 with fail
  rw [HW2.out]
  go_wp2_with fail
  have HS : Hid (∀ W', Ext W2 W' → W'.cell? ⟨w.heap.size, 0, none⟩ = some (.int .i64 m) ∧ W'.cell? ⟨w.heap.size, 1, none⟩ = some (.slice A n cc) ∧ W'.cell? ⟨w.heap.size, 2, none⟩ = some (.slice B n2 d)) := hid (by
    intro W' e
    obtain ⟨p0, p1, p2, -, -, -⟩ := row_facts3 (R1.out.ext e)
    exact ⟨p0, p1, p2⟩)
  go_region_held3 (fun W' => W'.cell? ⟨w.heap.size, 0, none⟩ = some (.int .i64 m) ∧ W'.cell? ⟨w.heap.size, 1, none⟩ = some (.slice A n cc) ∧ W'.cell? ⟨w.heap.size, 2, none⟩ = some (.slice B n2 d))
    (first | exact HS.out _ hcur | exact HS.out _ hcur.drew' | exact HS.out _ (hcur.alloc' _) | exact HS.out _ (hcur.drew'.alloc' _) | exact HS.out _ ((hcur.alloc' _).alloc' _) | exact HS.out _ ((hcur.drew'.alloc' _).alloc' _) | go_keep)
    (first
      | (refine step_twin rfl (.tmp 5) (.tmp 7) 22 rfl 3 i0 Tryz.underlying22 hi hz0 hz1 hz2 _ (by simp only [Act.eval]; rfl) A n cc (by simp only [Act.eval]; rfl) us H1.out (HA.out.ext ?_) h8a W2.heap.size ?_ ?_; (first | exact hcur | exact hcur.drew' | exact hcur.alloc' _ | exact hcur.drew'.alloc' _ | exact (hcur.alloc' _).drew' | exact (hcur.alloc' _).alloc' _ | exact (hcur.drew'.alloc' _).alloc' _); (first | exact hcur.size | exact (hcur.alloc' _).size | exact (hcur.drew'.alloc' _).size | exact ((hcur.alloc' _).alloc' _).size | exact ((hcur.drew'.alloc' _).alloc' _).size); intro A5 c5 w5 hc5 hr5 hx; (first | have HR6 := hid (HR6.out.ext (by first | exact hx | exact Ext.undrew hx | exact Ext.step ((Ext.rfl' _).alloc' _) hx | exact Ext.step ((Ext.rfl' _).drew'.alloc' _) hx)) | skip); have HR5 := hid hr5; have hcur := Ext.step hcur (by first | exact hx | exact Ext.undrew hx | exact Ext.step ((Ext.rfl' _).alloc' _) hx | exact Ext.step ((Ext.rfl' _).drew'.alloc' _) hx | exact Ext.step (((Ext.rfl' _).alloc' _).alloc' _) hx | exact Ext.step (((Ext.rfl' _).drew'.alloc' _).alloc' _) hx); obtain ⟨z0, z1, z2, z3, z4, z5⟩ := row_facts3 (R2.out.ext hcur))
      | (refine step_twin rfl (.tmp 9) (.tmp 11) 22 rfl 3 i0 Tryz.underlying22 hi hz0 hz1 hz2 _ (by simp only [Act.eval]; rfl) B n2 d (by simp only [Act.eval]; rfl) ad H3.out (HB.out.ext ?_) h8b W2.heap.size ?_ ?_; (first | exact hcur | exact hcur.drew' | exact hcur.alloc' _ | exact hcur.drew'.alloc' _ | exact (hcur.alloc' _).drew' | exact (hcur.alloc' _).alloc' _ | exact (hcur.drew'.alloc' _).alloc' _); (first | exact hcur.size | exact (hcur.alloc' _).size | exact (hcur.drew'.alloc' _).size | exact ((hcur.alloc' _).alloc' _).size | exact ((hcur.drew'.alloc' _).alloc' _).size); intro A6 c6 w6 hc6 hr6 hx; (first | have HR5 := hid (HR5.out.ext (by first | exact hx | exact Ext.undrew hx | exact Ext.step ((Ext.rfl' _).alloc' _) hx | exact Ext.step ((Ext.rfl' _).drew'.alloc' _) hx)) | skip); have HR6 := hid hr6; have hcur := Ext.step hcur (by first | exact hx | exact Ext.undrew hx | exact Ext.step ((Ext.rfl' _).alloc' _) hx | exact Ext.step ((Ext.rfl' _).drew'.alloc' _) hx | exact Ext.step (((Ext.rfl' _).alloc' _).alloc' _) hx | exact Ext.step (((Ext.rfl' _).drew'.alloc' _).alloc' _) hx); obtain ⟨z0, z1, z2, z3, z4, z5⟩ := row_facts3 (R2.out.ext hcur)))
  all_goals
    have hfin : MapV _ (.agg #[.int .i64 m, .slice A5 n c5, .slice A6 n2 c6]) m us ad := ⟨A5, n, c5, A6, n2, c6, rfl, H1.out, hc5, H3.out, hc6, (((HR5.out.far (p := ⟨w.heap.size + 1, 0, none⟩) (by show w.heap.size + 1 < W2.heap.size; exact R2.out.lt) (.int .i64 m)).far (p := ⟨w.heap.size + 1, 1, none⟩) (by show w.heap.size + 1 < W2.heap.size; exact R2.out.lt) (.slice A5 n c5)).far (p := ⟨w.heap.size + 1, 2, none⟩) (by show w.heap.size + 1 < W2.heap.size; exact R2.out.lt) (.slice A6 n2 c6)).rd, (((HR6.out.far (p := ⟨w.heap.size + 1, 0, none⟩) (by show w.heap.size + 1 < W2.heap.size; exact R2.out.lt) (.int .i64 m)).far (p := ⟨w.heap.size + 1, 1, none⟩) (by show w.heap.size + 1 < W2.heap.size; exact R2.out.lt) (.slice A5 n c5)).far (p := ⟨w.heap.size + 1, 2, none⟩) (by show w.heap.size + 1 < W2.heap.size; exact R2.out.lt) (.slice A6 n2 c6)).rd, h7, h9⟩
    have hext := (HX.out.step hcur).set3 (H := w.heap.size + 1) (a := .int .i64 m) (b := .slice A5 n c5) (c := .slice A6 n2 c6) (by omega)
    have HF := hid hfin
    have HE := hid hext
    clear hfin hext
    go_wp2
    refine bodyPost_ret (v := .agg #[.int .i64 m, .slice A5 n c5, .slice A6 n2 c6]) (by simp [results, Tryz.results14, go_sem, z0, z1, z2]) rfl ⟨_, rfl, HF.out, HE.out⟩
end Go.Proofs.YtlfbgemceeibiaaGreatDoor
