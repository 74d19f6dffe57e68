/- Joined texts: package sieve: restsBelow; package sieve: what the closure visit does: its lists, and what it leaves alone; package sieve: the closure visit, at a place that falls; package sieve: the closure visit, at a place that stays; package sieve: the closure visit, at a place that parts; package sieve: the closure visit. -/
import Derived.Test.YtleccblkafcidaaGreatDoorJG15
import Derived.Test.YtleccblkafcidaaGreatDoorJG19
import Derived.Deep.RegionHeldLaw
import Derived.Deep.AppendLies
import Derived.Test.YtleccblkafcidaaGreatDoorJG18
import Derived.Deep.RegionHeld3
set_option linter.unusedSimpArgs false
set_option linter.unusedVariables false
/- package sieve: restsBelow -/
namespace Go.Proofs.YtleccblkafcidaaGreatDoor
open Go.RowKit
/-- the first n rests of a place -/
def belowL (r di : Int) (n : Nat) : List Int := (List.range n).map fun (i : Nat) => r + (i : Int) * di
theorem belowL_snoc (r di : Int) (n : Nat) : belowL r di (n + 1) = belowL r di n ++ [r + (n : Int) * di] := by
  unfold belowL; rw [List.range_succ, List.map_append]; rfl
theorem belowL_len (r di : Int) (n : Nat) : (belowL r di n).length = n := by simp [belowL]
set_option maxRecDepth 100000 in
set_option maxHeartbeats 6400000 in
theorem restsBelow_any (s r mu ad di wh : Int) (w : World) (hr : 0 ≤ r) (hd : 1 ≤ di) (hd2 : di ≤ 65536) (hw : wh ≤ 65536) :
    Calls Tryz.prog 67 #[PlV s r mu ad di, .int .i64 wh] w (fun e w' => ∃ (L : Option Addr) (n c : Nat), e = .returned (.slice L n c) ∧ n ≤ 65536 ∧ Rd w' L (Is (belowL r di n)) ∧ (∀ i : Nat, i < n → r + (i : Int) * di < wh) ∧ wh ≤ r + (n : Int) * di ∧ Ext w w') := by
  obtain ⟨i0, hi, hz0, hz1, hz2⟩ := info_parts infoI
  unfold PlV
  have hx : Ext w (w.alloc (.cells #[.int .i64 s, .int .i64 r, .int .i64 mu, .int .i64 ad, .int .i64 di] 104)) := (Ext.rfl' w).alloc' _
  have hr1 : Row (w.alloc (.cells #[.int .i64 s, .int .i64 r, .int .i64 mu, .int .i64 ad, .int .i64 di] 104)) w.heap.size 104 [.int .i64 s, .int .i64 r, .int .i64 mu, .int .i64 ad, .int .i64 di] := Row.new w _ _
  have hsz : (w.alloc (.cells #[.int .i64 s, .int .i64 r, .int .i64 mu, .int .i64 ad, .int .i64 di] 104)).heap.size = w.heap.size + 1 := by simp
  obtain ⟨W1, hW1⟩ : ∃ W1, (w.alloc (.cells #[.int .i64 s, .int .i64 r, .int .i64 mu, .int .i64 ad, .int .i64 di] 104)) = W1 := ⟨_, rfl⟩
  rw [hW1] at hx hr1 hsz
  have HX := hid hx
  have HW1 := hid hW1
  have R1 := hid hr1
  have HSZ := hid hsz
  obtain ⟨p0, p1, p2, p3, p4⟩ := row_facts5 hr1
  clear hW1 hx hr1 hsz
  go_enter Tryz.func67, Tryz.ntmps67
  go_upto_region 1 with fail
  rw [HW1.out]
  go_wp2_with fail
  go_loopw [5, 6] (fun lv rv wr => ∃ (j : Nat) (x : Int) (L : Option Addr) (cap : Nat), j ≤ 65536 ∧ lv = .slice L j cap ∧ rv = .int .i64 x ∧ Hid (x = r + (j : Int) * di) ∧ Hid (∀ i : Nat, i < j → r + (i : Int) * di < wh) ∧ Row wr w.heap.size 104 [.int .i64 s, .int .i64 r, .int .i64 mu, .int .i64 ad, .int .i64 di] ∧ wr.ownsRow (w.heap.size + 1) 3 1 (.slice L j cap) j (Is (belowL r di j)) ∧ Hid (∀ g c', Value.slice L j cap = .slice (some ⟨g, 0, none⟩) j c' → SpZ wr g j) ∧ Ext W1 wr) (fun _ rv _ => (wh - intOf rv).toNat)
  case atStart => exact ⟨0, r, none, 0, by omega, rfl, rfl, hid (by simp), hid (fun i hi => by omega), R1.out, World.ownsRow_nil _ _ _ _, hid (fun g c' h => by cases h), Ext.rfl' _⟩
  case round =>
    obtain ⟨j, x, L, cap, hj, rfl, rfl, HXE, HLT, hrw, hown, HSP, hex⟩ := hrel
    have RP := hid hrw
    have HOWN := hid hown
    have EX := hid hex
    clear hrw hown hex R1 p0 p1 p2 p3 p4
    by_cases hlt : x < wh
    · have hjx : (j : Int) ≤ x := by
        rw [HXE.out]
        have h1 : (j : Int) * 1 ≤ (j : Int) * di := Int.mul_le_mul_of_nonneg_left hd (by omega)
        omega
      have hx0 : 0 ≤ x := by omega
      have hbs : (w.heap.size + 1) ≤ (wr.alloc (.cells #[.int .i64 x] 3)).heap.size := by
        have h2 := EX.out.size
        have h3 := HSZ.out
        rw [World.size_alloc]; omega
      have W1w : IntKind.i64.wrap (x + di) = x + di := IntWalk.i64_in _ (by omega)
      go_wp2_with (at_builtin; refine wpList_append_int rfl _ _ 22 rfl (w.heap.size + 1) 3 i0 Tryz.underlying22 hi hz0 hz1 hz2 (.slice L j cap) j (Is (belowL r di j)) rfl (HOWN.out.alloc _) (fun g c' h => (HSP.out g c' h).keep (Below.heap_alloc wr _ g (by injection h with h1 h2 h3; subst h1; exact (HOWN.out.lt g rfl).2))) ⟨wr.heap.size, 0, none⟩ 1 x rfl (cell_one_new _ _ _) (by omega) hbs ?_)
      intro g' cap' w8 hown8 hgrow hcap8 hsp8 hkeep
      have hfar : ∀ kk, Value.ownBlock (.slice L j cap) = some kk → (w.heap.size + 1) ≤ kk := fun kk hkk => (HOWN.out.lt kk hkk).1
      have rp8 := RP.out.grownO hgrow (fun kk hkk => by have := hfar kk hkk; omega)
      have ex8 : Ext W1 w8 := (EX.out.alloc' _).grown hgrow (by have := EX.out.size; rw [World.size_alloc]; omega) (fun kk hkk => by have := hfar kk hkk; have := HSZ.out; omega)
      have HFIN : Hid (∃ (jn : Nat) (xn : Int) (L : Option Addr) (cap : Nat), jn ≤ 65536 ∧ Value.slice (some ⟨g', 0, none⟩) (j + 1) cap' = .slice L jn cap ∧ Value.int .i64 (x + di) = .int .i64 xn ∧ Hid (xn = r + (jn : Int) * di) ∧ Hid (∀ i : Nat, i < jn → r + (i : Int) * di < wh) ∧ Row w8 w.heap.size 104 [.int .i64 s, .int .i64 r, .int .i64 mu, .int .i64 ad, .int .i64 di] ∧ w8.ownsRow (w.heap.size + 1) 3 1 (.slice L jn cap) jn (Is (belowL r di jn)) ∧ Hid (∀ g c', Value.slice L jn cap = .slice (some ⟨g, 0, none⟩) jn c' → SpZ w8 g jn) ∧ Ext W1 w8) := hid (by
        refine ⟨j + 1, x + di, _, _, by omega, rfl, rfl, hid ?_, hid ?_, rp8, ?_, hid ?_, ex8⟩
        · rw [HXE.out, Int.natCast_add, Int.add_mul]; omega
        · intro i hi
          rcases Nat.lt_or_ge i j with h | h
          · exact HLT.out i h
          · obtain rfl : i = j := by omega
            rw [← HXE.out]; exact hlt
        · rw [belowL_snoc, ← HXE.out]
          simpa using hown8
        · intro g c' h
          injection h with h1 h2 h3
          injection h1 with h1
          injection h1 with h1
          subst h1
          exact hsp8)
      obtain ⟨p0, p1, p2, p3, p4⟩ := row_facts5 rp8
      clear hown8 hgrow hcap8 hsp8 hkeep hfar rp8 ex8 hbs
      go_wp2
      go_roundw
      case rel => exact HFIN.out
      case measure => first | (simp [intOf]; done) | (simp [intOf]; omega)
    · have HF := hid (HX.out.step EX.out)
      have HE := hid (show wh ≤ r + (j : Int) * di by rw [← HXE.out]; omega)
      have HRD := hid (Rd.of_own HOWN.out)
      go_wp2
      go_ret
      first | exact ⟨L, j, ⟨cap, rfl⟩, hj, HRD.out, HLT.out, HE.out, HF.out⟩ | exact ⟨L, j, cap, rfl, hj, HRD.out, HLT.out, HE.out, HF.out⟩
end Go.Proofs.YtleccblkafcidaaGreatDoor
/- package sieve: what the closure visit does: its lists, and what it leaves alone -/
namespace Go.Proofs.YtleccblkafcidaaGreatDoor
open Go.RowKit
/-- the texts of the fall at a place -/
def fTxt (m : Int) (us ad : List Int) (p : Int × Int) : ByteArray × ByteArray × ByteArray × ByteArray :=
  let l := lnX m us ad p.2 p.1.toNat
  (Str (K.txt l.1), Str (K.txt l.2.1), Str (K.txt (m ^ p.1.toNat)), Str (K.txt (l.2.1 / (m ^ p.1.toNat - l.1))))
/-- falls and rests below a place of s steps, d more to go -/
def vis (M : Nat) (us ad : List Int) (k : Nat) : Nat → Nat → Int → List (Int × Int) × List Int
  | 0, s, r => if (lnX (M : Int) us ad r s).1 < (M : Int) ^ s then ([((s : Int), r)], []) else ([], belowL r ((M : Int) ^ s) 1)
  | d + 1, s, r => if (lnX (M : Int) us ad r s).1 < (M : Int) ^ s then ([((s : Int), r)], []) else
      if (M : Int) ^ k ≤ (lnX (M : Int) us ad r s).1 then ([], belowL r ((M : Int) ^ s) (M ^ (d + 1))) else
        ((List.range M).flatMap (fun (t : Nat) => (vis M us ad k d (s + 1) (r + (t : Int) * (M : Int) ^ s)).1), (List.range M).flatMap (fun (t : Nat) => (vis M us ad k d (s + 1) (r + (t : Int) * (M : Int) ^ s)).2))
theorem flat_len {α β : Type} (f : α → List β) (B : Nat) : ∀ l : List α, (∀ x, x ∈ l → (f x).length ≤ B) → (l.flatMap f).length ≤ l.length * B
  | [], _ => by simp
  | x :: r, h => by
    have h1 := h x (by simp)
    have h2 := flat_len f B r (fun y hy => h y (by simp [hy]))
    rw [List.flatMap_cons, List.length_append, List.length_cons, Nat.succ_mul]
    omega
theorem vis_len {M : Nat} (hM : 1 ≤ M) (us ad : List Int) (k : Nat) : ∀ (d s : Nat) (r : Int), (vis M us ad k d s r).1.length ≤ M ^ d ∧ (vis M us ad k d s r).2.length ≤ M ^ d
  | 0, s, r => by
    unfold vis
    split <;> simp [belowL_len]
  | d + 1, s, r => by
    have hp : 1 ≤ M ^ (d + 1) := Nat.one_le_pow _ _ hM
    unfold vis
    split
    · simp; omega
    · split
      · simp [belowL_len]
      · have e : (List.range M).length * M ^ d = M ^ (d + 1) := by rw [List.length_range, Nat.pow_succ, Nat.mul_comm]
        have h1 := flat_len (fun (t : Nat) => (vis M us ad k d (s + 1) (r + (t : Int) * (M : Int) ^ s)).1) (M ^ d) (List.range M) (fun t _ => (vis_len hM us ad k d (s + 1) _).1)
        have h2 := flat_len (fun (t : Nat) => (vis M us ad k d (s + 1) (r + (t : Int) * (M : Int) ^ s)).2) (M ^ d) (List.range M) (fun t _ => (vis_len hM us ad k d (s + 1) _).2)
        rw [e] at h1 h2
        exact ⟨h1, h2⟩
/-- the two lists in their boxes -/
def St (base BF BL : Nat) (f : Int × Int → ByteArray × ByteArray × ByteArray × ByteArray) (w : World) (vF vL : Value) (ps : List (Int × Int)) (ls : List Int) : Prop :=
  Row w BF 26 [vF] ∧ Row w BL 22 [vL] ∧ w.ownsRow base 40 6 vF ps.length (ps.flatMap (encF f)) ∧ w.ownsRow base 3 1 vL ls.length (Is ls)
/-- what a visit leaves alone: all but the two boxes and the blocks of the two lists -/
structure Chg (BF BL : Nat) (w : World) (vF vL : Value) (w' : World) (vF' vL' : Value) : Prop where
  os : w'.os = w.os
  tape : w'.tape = w.tape
  output : w'.output = w.output
  size : w.heap.size ≤ w'.heap.size
  block : ∀ j, j < w.heap.size → j ≠ BF → j ≠ BL → vF.ownBlock ≠ some j → vL.ownBlock ≠ some j → w'.heap[j]? = w.heap[j]?
  newF : ∀ g, vF'.ownBlock = some g → vF.ownBlock = some g ∨ w.heap.size ≤ g
  newL : ∀ g, vL'.ownBlock = some g → vL.ownBlock = some g ∨ w.heap.size ≤ g
theorem Chg.of_ext {BF BL : Nat} {w w' : World} (e : Ext w w') (vF vL : Value) : Chg BF BL w vF vL w' vF vL :=
  ⟨e.os, e.tape, e.output, e.size, fun j hj _ _ _ _ => e.block j hj, fun _ h => .inl h, fun _ h => .inl h⟩
theorem Chg.trans {BF BL : Nat} {a b c : World} {f0 l0 f1 l1 f2 l2 : Value} (h : Chg BF BL a f0 l0 b f1 l1) (k : Chg BF BL b f1 l1 c f2 l2) : Chg BF BL a f0 l0 c f2 l2 where
  os := k.os.trans h.os
  tape := k.tape.trans h.tape
  output := k.output.trans h.output
  size := Nat.le_trans h.size k.size
  block := fun j hj h1 h2 h3 h4 => by
    refine (k.block j (Nat.lt_of_lt_of_le hj h.size) h1 h2 (fun e => ?_) (fun e => ?_)).trans (h.block j hj h1 h2 h3 h4)
    · rcases h.newF j e with h5 | h5
      · exact h3 h5
      · omega
    · rcases h.newL j e with h5 | h5
      · exact h4 h5
      · omega
  newF := fun g hg => by
    rcases k.newF g hg with h1 | h1
    · exact h.newF g h1
    · exact .inr (Nat.le_trans h.size h1)
  newL := fun g hg => by
    rcases k.newL g hg with h1 | h1
    · exact h.newL g h1
    · exact .inr (Nat.le_trans h.size h1)
theorem own_at {w w' : World} {base e size n : Nat} {v : Value} {xs : List Value} (h : w.ownsRow base e size v n xs) (hk : ∀ g, v.ownBlock = some g → w'.heap[g]? = w.heap[g]?) : w'.ownsRow base e size v n xs := by
  refine ⟨h.1, ?_⟩
  rcases h.2 with h2 | ⟨g, cap, cur, rfl, hb, hg, h3⟩
  · exact .inl h2
  · exact .inr ⟨g, cap, cur, rfl, hb, by rw [hk g rfl, hg], h3⟩
theorem St.ext {base BF BL : Nat} {f : Int × Int → ByteArray × ByteArray × ByteArray × ByteArray} {w w' : World} {vF vL : Value} {ps : List (Int × Int)} {ls : List Int} (h : St base BF BL f w vF vL ps ls) (e : Ext w w') : St base BF BL f w' vF vL ps ls :=
  ⟨h.1.ext e, h.2.1.ext e, own_at h.2.2.1 (fun g hg => e.block g (h.2.2.1.lt g hg).2), own_at h.2.2.2 (fun g hg => e.block g (h.2.2.2.lt g hg).2)⟩
/-- the blocks of the two lists are two -/
theorem St.apart {base BF BL : Nat} {f : Int × Int → ByteArray × ByteArray × ByteArray × ByteArray} {w : World} {vF vL : Value} {ps : List (Int × Int)} {ls : List Int} (h : St base BF BL f w vF vL ps ls) : ∀ g, vF.ownBlock = some g → vL.ownBlock = some g → False := by
  intro g h1 h2
  obtain ⟨-, -, ⟨-, hF⟩, -, hL⟩ := h
  rcases hF with ⟨rfl, -⟩ | ⟨g1, c1, u1, rfl, -, e1, -⟩
  · cases h1
  · rcases hL with ⟨rfl, -⟩ | ⟨g2, c2, u2, rfl, -, e2, -⟩
    · cases h2
    · injection h1 with h1
      injection h2 with h2
      have h1' : g1 = g := h1
      have h2' : g2 = g := h2
      subst h1' h2'
      rw [e1] at e2
      injection e2 with e2
      injection e2 with _ e3 _
      exact absurd e3 (by decide)
/-- the boxes that the closure reads: they lie below base, as the two that it writes -/
structure Env (w00 : World) (base BF BL BW BM BV : Nat) (wh : Int) (mc : List Value) (w : World) : Prop where
  ext : Ext w00 w
  rw_ : Row w BW 3 [.int .i64 wh]
  rm : Row w BM 24 mc
  rv : Row w BV 102 [.func (.func 63) #[] #[.pointer (some ⟨BF, 0, none⟩), .pointer (some ⟨BW, 0, none⟩), .pointer (some ⟨BL, 0, none⟩), .pointer (some ⟨BM, 0, none⟩), .pointer (some ⟨BV, 0, none⟩)]]
  hb : base ≤ w.heap.size
/-- where the boxes lie -/
def Lies (w00 : World) (base BF BL BW BM BV : Nat) : Prop := w00.heap.size ≤ BF ∧ w00.heap.size ≤ BL ∧ BF < base ∧ BL < base ∧ BW < base ∧ BM < base ∧ BV < base ∧ BF ≠ BL ∧ BW ≠ BF ∧ BW ≠ BL ∧ BM ≠ BF ∧ BM ≠ BL ∧ BV ≠ BF ∧ BV ≠ BL ∧ w00.heap.size ≤ base
theorem Env.of_ext {w00 : World} {base BF BL BW BM BV : Nat} {wh : Int} {mc : List Value} {w w' : World} (h : Env w00 base BF BL BW BM BV wh mc w) (e : Ext w w') : Env w00 base BF BL BW BM BV wh mc w' :=
  ⟨h.ext.step e, h.rw_.ext e, h.rm.ext e, h.rv.ext e, Nat.le_trans h.hb e.size⟩
theorem Env.chg {w00 : World} {base BF BL BW BM BV : Nat} {wh : Int} {mc : List Value} {w w' : World} {vF vL vF' vL' : Value} (h : Env w00 base BF BL BW BM BV wh mc w) (L : Lies w00 base BF BL BW BM BV)
    (oF : ∀ g, vF.ownBlock = some g → base ≤ g) (oL : ∀ g, vL.ownBlock = some g → base ≤ g) (c : Chg BF BL w vF vL w' vF' vL') : Env w00 base BF BL BW BM BV wh mc w' := by
  obtain ⟨l1, l2, l3, l4, l5, l6, l7, l8, l9, l10, l11, l12, l13, l14, l15⟩ := L
  have hb := h.hb
  have hk : ∀ j, j < base → j ≠ BF → j ≠ BL → w'.heap[j]? = w.heap[j]? := fun j hj h1 h2 => c.block j (by omega) h1 h2 (fun e => by have := oF j e; omega) (fun e => by have := oL j e; omega)
  refine ⟨⟨c.os.trans h.ext.os, c.tape.trans h.ext.tape, c.output.trans h.ext.output, Nat.le_trans h.ext.size c.size, fun j hj => (hk j (by omega) (by omega) (by omega)).trans (h.ext.block j hj)⟩, ?_, ?_, ?_, Nat.le_trans h.hb c.size⟩
  · exact (hk BW l5 l9 l10).trans h.rw_
  · exact (hk BM l6 l11 l12).trans h.rm
  · exact (hk BV l7 l13 l14).trans h.rv
theorem infoF : (Tryz.prog.info? 40).map (fun i => (i.zero, i.size, i.bytes)) = some (some (.agg #[.int .i64 0, .int .i64 0, .string ⟨#[]⟩, .string ⟨#[]⟩, .string ⟨#[]⟩, .string ⟨#[]⟩]), 6, 80) := by kernel_rfl
/-- what a visit tells -/
def VisPost (base BF BL : Nat) (f : Int × Int → ByteArray × ByteArray × ByteArray × ByteArray) (w : World) (vF vL : Value) (ps : List (Int × Int)) (ls : List Int) (e : Ending) (w' : World) : Prop :=
  e = .returned (.tuple #[]) ∧ ∃ vF' vL', St base BF BL f w' vF' vL' ps ls ∧ Chg BF BL w vF vL w' vF' vL'
end Go.Proofs.YtleccblkafcidaaGreatDoor
/- package sieve: the closure visit, at a place that falls -/
namespace Go.Proofs.YtleccblkafcidaaGreatDoor
open Go.RowKit
theorem row_news (w : World) (t : TypeId) (vs : List Value) : ∀ j u, vs[j]? = some u → (w.alloc (.cells vs.toArray t)).cell? (Addr.add ⟨w.heap.size, 0, none⟩ j) = some u := by
  exact World.news_of_block (Row.new w t vs)
set_option maxRecDepth 100000 in
set_option maxHeartbeats 6400000 in
theorem visit_fall (w00 : World) (base BF BL BW BM BV : Nat) (wh : Int) (A : Option Addr) (n cc : Nat) (B : Option Addr) (n2 d2 : Nat) (m : Int) (f : Int × Int → ByteArray × ByteArray × ByteArray × ByteArray) (s : Nat) (r mu a di : Int) (vF vL : Value) (ps : List (Int × Int)) (ls : List Int) (w : World) (HL : Hid (Lies w00 base BF BL BW BM BV)) (HE : Env w00 base BF BL BW BM BV wh [.int .i64 m, .slice A n cc, .slice B n2 d2] w) (HS0 : St base BF BL f w vF vL ps ls) (ht : Tab w) (hlt : mu < di) (hmu : Hid (0 ≤ mu ∧ di ≤ 786432)) (hA : Hid (a.natAbs ≤ 9000000000000000000))
    (hf : Hid (f ((s : Int), r) = (Str (K.txt mu), Str (K.txt a), Str (K.txt di), Str (K.txt (a / (di - mu)))))) (hn : ps.length ≤ 1000000) :
    Calls Tryz.prog 63 #[PlV (s : Int) r mu a di, .pointer (some ⟨BF, 0, none⟩), .pointer (some ⟨BW, 0, none⟩), .pointer (some ⟨BL, 0, none⟩), .pointer (some ⟨BM, 0, none⟩), .pointer (some ⟨BV, 0, none⟩)] w (VisPost base BF BL f w vF vL (ps ++ [((s : Int), r)]) ls) := by
  obtain ⟨i0, hi, hz0, hz1, hz2⟩ := info_parts infoF
  obtain ⟨su, hsu⟩ : ∃ su, Str (K.txt mu) = su := ⟨_, rfl⟩
  obtain ⟨sa, hsa⟩ : ∃ sa, Str (K.txt a) = sa := ⟨_, rfl⟩
  obtain ⟨sd, hsd⟩ : ∃ sd, Str (K.txt di) = sd := ⟨_, rfl⟩
  obtain ⟨sb, hsb⟩ : ∃ sb, Str (K.txt (a / (di - mu))) = sb := ⟨_, rfl⟩
  rw [hsu, hsa, hsd, hsb] at hf
  have HSU := hid hsu
  have HSA := hid hsa
  have HSD := hid hsd
  have HSB0 := hid hsb
  clear hsu hsa hsd hsb
  have hx : Ext w (w.alloc (.cells #[.int .i64 (s : Int), .int .i64 r, .int .i64 mu, .int .i64 a, .int .i64 di] 104)) := (Ext.rfl' w).alloc' _
  have hr : Row (w.alloc (.cells #[.int .i64 (s : Int), .int .i64 r, .int .i64 mu, .int .i64 a, .int .i64 di] 104)) w.heap.size 104 [.int .i64 (s : Int), .int .i64 r, .int .i64 mu, .int .i64 a, .int .i64 di] := Row.new w _ _
  have hsz : (w.alloc (.cells #[.int .i64 (s : Int), .int .i64 r, .int .i64 mu, .int .i64 a, .int .i64 di] 104)).heap.size = w.heap.size + 1 := by simp
  unfold PlV
  obtain ⟨w1, hw1⟩ : ∃ w1, w.alloc (.cells #[.int .i64 (s : Int), .int .i64 r, .int .i64 mu, .int .i64 a, .int .i64 di] 104) = w1 := ⟨_, rfl⟩
  rw [hw1] at hx hr hsz
  have HW := hid hw1
  have RP := hid hr
  have E1 := hid hx
  have HEN := hid (HE.of_ext hx)
  have HST := hid (HS0.ext hx)
  have HT := hid (ht.ext hx)
  have HSZ := hid hsz
  have HS00 := hid HS0
  obtain ⟨p0, p1, p2, p3, p4⟩ := row_facts5 hr
  clear hx hr hw1 hsz HS0
  go_enter Tryz.func63, Tryz.ntmps63
  go_upto_region 6 with fail
  rw [HW.out]
  go_wp2_with fail
  refine (falls_any (s : Int) r mu a di _ (b := true) (hid ⟨fun _ => hlt, fun _ => rfl⟩)).mono ?_
  rintro e w2 ⟨rfl, hx⟩
  have E2 := hid (E1.out.step hx)
  replace HEN := hid (HEN.out.of_ext hx)
  replace HST := hid (HST.out.ext hx)
  replace HT := hid (HT.out.ext hx)
  replace RP := hid (RP.out.ext hx)
  have HSB := hid (Nat.le_trans (show w.heap.size + 1 ≤ w1.heap.size by rw [HSZ.out]; exact Nat.le_refl _) hx.size)
  clear hx p0 p1 p2 p3 p4
  have l3 : BF < base := HL.out.2.2.1
  have l4 : BL < base := HL.out.2.2.2.1
  have l8 : BF ≠ BL := HL.out.2.2.2.2.2.2.2.1
  have hbs : base ≤ w2.heap.size := HEN.out.hb
  have hpB : w.heap.size ≠ BF := by
    have := HE.hb
    omega
  have HOF := hid HST.out.2.2.1
  have HOL := hid HST.out.2.2.2
  obtain ⟨q0, -⟩ : w2.cell? ⟨BF, 0, none⟩ = some vF ∧ True := ⟨HST.out.1.cell 0, trivial⟩
  have q1 := HST.out.1.free 0
  obtain ⟨p0, p1, p2, p3, p4⟩ := row_facts5 RP.out
  have hcur : Ext w2 w2 := Ext.rfl' _
  go_upto_region 7 with fail
  go_region_law (first
    | (refine step_append_lies _ (by rfl) _ _ _ (by rfl) base 40 i0 (.agg #[.int .i64 0, .int .i64 0, .string ⟨#[]⟩, .string ⟨#[]⟩, .string ⟨#[]⟩, .string ⟨#[]⟩]) 6 80 Tryz.underlying26 hi hz0 hz1 hz2 rfl (by omega) vF ps.length (ps.flatMap (encF f)) (by rfl) ((own_at HOF.out (fun g hg => hcur.block g (HOF.out.lt g hg).2)).alloc _) ⟨w10.heap.size, 0, none⟩ 1 1 [.int .i64 (s : Int), .int .i64 r, .string su, .string sa, .string sd, .string sb] (by rfl) rfl (row_news _ _ _) (by simp [Value.oneCell']) (by omega) (by have : maxLen = 9223372036854775807 := rfl; omega) (by omega) (by have := hcur.size; simp; omega) _ rfl ?_; intro g' cap' w8 hown8 hgrow hat hlt8; have rf8 := (HST.out.1.ext hcur).grownO hgrow (fun kk hkk => by have := (HOF.out.lt kk hkk).1; omega); have q0 : w8.cell? ⟨BF, 0, none⟩ = some vF := rf8.cell 0; have q1 := rf8.free 0)
    | (go_simp; go_at_call 65; refine (fall_l (s : Int) r mu a di (a / (di - mu)) su sa sd sb _ (HT.out.ext ?_) hlt hmu hA (hid rfl) HSU HSA HSD HSB0).mono ?_; (first | exact hcur | exact hcur.drew' | exact hcur.alloc' _ | exact hcur.drew'.alloc' _ | exact (hcur.alloc' _).drew'); rintro e w10 ⟨rfl, hx⟩; unfold FaV; have hcur := Ext.step hcur (by first | exact hx | exact Ext.undrew hx | exact Ext.step ((Ext.rfl' _).alloc' _) hx | exact Ext.step ((Ext.rfl' _).drew'.alloc' _) hx); have q0 : w10.cell? ⟨BF, 0, none⟩ = some vF := (HST.out.1.ext hcur).cell 0; have q1 := (HST.out.1.ext hcur).free 0; have q2 : ∀ o, (w10.alloc o).cell? ⟨BF, 0, none⟩ = some vF := (fun o => ((HST.out.1.ext hcur).alloc o).cell 0); obtain ⟨p0, p1, p2, p3, p4⟩ := row_facts5 (RP.out.ext hcur)))
  all_goals
    have HF : Hid (∀ WF, WF = w8.setCell ⟨BF, 0, none⟩ (.slice (some ⟨g', 0, none⟩) (ps.length + 1) cap') → VisPost base BF BL f w vF vL (ps ++ [((s : Int), r)]) ls (.returned (.tuple #[])) WF) := hid (by
      rintro WF rfl
      have hs10 := (E2.out.step hcur).size
      have hbk : ∀ j, j < w10.heap.size → j ≠ BF → vF.ownBlock ≠ some j → (w8.setCell ⟨BF, 0, none⟩ (.slice (some ⟨g', 0, none⟩) (ps.length + 1) cap')).heap[j]? = w10.heap[j]? := fun j h1 h2 h3 => by
        rw [Below.heap_setCell _ _ _ j (by exact h2), hgrow.block j (by rw [World.size_alloc]; omega) (fun e => h3 e.symm), Below.heap_alloc _ _ _ h1]
      refine ⟨rfl, .slice (some ⟨g', 0, none⟩) (ps.length + 1) cap', vL, ⟨rf8.set 0 _, ?_, ?_, ?_⟩, ?_⟩
      · exact (hbk BL (HST.out.2.1.ext hcur).lt (by omega) (fun e => by have := (HOF.out.lt BL e).1; omega)).trans (HST.out.2.1.ext hcur)
      · have h1 : (ps ++ [((s : Int), r)]).flatMap (encF f) = ps.flatMap (encF f) ++ [.int .i64 (s : Int), .int .i64 r, .string su, .string sa, .string sd, .string sb] := by
          rw [List.flatMap_append]
          simp only [List.flatMap_cons, List.flatMap_nil, List.append_nil, encF, hf.out]
        rw [h1, List.length_append, List.length_singleton]
        exact own_at hown8 (fun g hg => Below.heap_setCell _ _ _ g (by show g ≠ BF; have := (hown8.lt g hg).1; omega))
      · refine own_at HOL.out (fun g hg => (hbk g (Nat.lt_of_lt_of_le (HOL.out.lt g hg).2 hcur.size) (by have := (HOL.out.lt g hg).1; omega) (fun e => HST.out.apart g e hg)).trans (hcur.block g (HOL.out.lt g hg).2))
      · exact ⟨hgrow.os.trans (E2.out.step hcur).os, hgrow.tape.trans (E2.out.step hcur).tape, hgrow.output.trans (E2.out.step hcur).output, Nat.le_trans hs10 (by have := hgrow.size; rw [World.size_alloc] at this; simp; omega), fun j h1 h2 h3 h4 h5 => (hbk j (by omega) h2 h4).trans ((E2.out.step hcur).block j h1), fun g hg => by
          have hg' : g' = g := by injection hg
          subst hg'
          rcases hat with h6 | h6
          · exact .inl h6
          · right; rw [h6, World.size_alloc]; omega, fun g hg => .inl hg⟩)
    clear hown8 hgrow hat hcur
    go_wp2
    go_end0
    exact HF.out _ rfl
end Go.Proofs.YtleccblkafcidaaGreatDoor
/- package sieve: the closure visit, at a place that stays -/
namespace Go.Proofs.YtleccblkafcidaaGreatDoor
open Go.RowKit
theorem Row.grownR {W w1 : World} {row : Option Nat} {H : Nat} {t : TypeId} {vs : List Value} (h : Row W H t vs) (hg : W.grownBy w1 row) (hne : ∀ k, row = some k → H ≠ k) : Row w1 H t vs :=
  (hg.block H h.lt (fun e => hne H e.symm rfl)).trans h
theorem rd_news {w : World} {b o : Nat} {vs : List Value} (h : Rd w (some ⟨b, o, none⟩) vs) : ∀ j u, vs[j]? = some u → w.cell? (Addr.add ⟨b, o, none⟩ j) = some u := by
  intro j u hj
  have hadd : (⟨b, o, none⟩ : Addr).add j = ⟨b, o + j, none⟩ := by unfold Addr.add; split <;> simp_all
  rw [hadd]
  rcases h with h | ⟨b2, o2, e, -, hc⟩
  · rw [h] at hj; simp at hj
  · cases e
    exact hc j u hj
theorem below_n {r di : Int} {n N : Nat} (h0 : 0 ≤ r) (h1 : r < di) (ha : ∀ i : Nat, i < n → r + (i : Int) * di < di * (N : Int)) (hb : di * (N : Int) ≤ r + (n : Int) * di) : n = N := by
  rcases Nat.lt_trichotomy n N with h | h | h
  · exfalso
    have h2 : ((n : Int) + 1) * di ≤ (N : Int) * di := Int.mul_le_mul_of_nonneg_right (by omega) (by omega)
    rw [Int.add_mul, Int.one_mul] at h2
    rw [Int.mul_comm di] at hb
    omega
  · exact h
  · exfalso
    have h2 := ha N h
    rw [Int.mul_comm di] at h2
    omega
set_option maxRecDepth 100000 in
set_option maxHeartbeats 6400000 in
theorem visit_stay (w00 : World) (base BF BL BW BM BV : Nat) (wh : Int) (A : Option Addr) (n cc : Nat) (B : Option Addr) (n2 d2 : Nat) (m : Int) (f : Int × Int → ByteArray × ByteArray × ByteArray × ByteArray) (s : Nat) (r mu a di : Int) (vF vL : Value) (ps : List (Int × Int)) (ls : List Int) (w : World) (N : Nat) (HL : Hid (Lies w00 base BF BL BW BM BV)) (HE : Env w00 base BF BL BW BM BV wh [.int .i64 m, .slice A n cc, .slice B n2 d2] w) (HS0 : St base BF BL f w vF vL ps ls) (ht : Tab w) (hlt : Hid (¬ mu < di)) (hst : Hid (wh ≤ mu ∨ di = wh)) (hwh : Hid (wh = di * (N : Int))) (hN : 1 ≤ N) (hr0 : 0 ≤ r) (hr1 : r < di) (hdi : di ≤ 65536) (hw6 : wh ≤ 65536) (hn : ls.length ≤ 1000000) :
    Calls Tryz.prog 63 #[PlV (s : Int) r mu a di, .pointer (some ⟨BF, 0, none⟩), .pointer (some ⟨BW, 0, none⟩), .pointer (some ⟨BL, 0, none⟩), .pointer (some ⟨BM, 0, none⟩), .pointer (some ⟨BV, 0, none⟩)] w (VisPost base BF BL f w vF vL ps (ls ++ belowL r di N)) := by
  obtain ⟨i0, hi, hz0, hz1, hz2⟩ := info_parts infoI
  have hx : Ext w (w.alloc (.cells #[.int .i64 (s : Int), .int .i64 r, .int .i64 mu, .int .i64 a, .int .i64 di] 104)) := (Ext.rfl' w).alloc' _
  have hr : Row (w.alloc (.cells #[.int .i64 (s : Int), .int .i64 r, .int .i64 mu, .int .i64 a, .int .i64 di] 104)) w.heap.size 104 [.int .i64 (s : Int), .int .i64 r, .int .i64 mu, .int .i64 a, .int .i64 di] := Row.new w _ _
  have hsz : (w.alloc (.cells #[.int .i64 (s : Int), .int .i64 r, .int .i64 mu, .int .i64 a, .int .i64 di] 104)).heap.size = w.heap.size + 1 := by simp
  unfold PlV
  obtain ⟨w1, hw1⟩ : ∃ w1, w.alloc (.cells #[.int .i64 (s : Int), .int .i64 r, .int .i64 mu, .int .i64 a, .int .i64 di] 104) = w1 := ⟨_, rfl⟩
  rw [hw1] at hx hr hsz
  have HW := hid hw1
  have RP := hid hr
  have E1 := hid hx
  have HEN := hid (HE.of_ext hx)
  have HST := hid (HS0.ext hx)
  have HT := hid (ht.ext hx)
  have HSZ := hid hsz
  have HS00 := hid HS0
  obtain ⟨p0, p1, p2, p3, p4⟩ := row_facts5 hr
  clear hx hr hw1 hsz HS0
  go_enter Tryz.func63, Tryz.ntmps63
  go_upto_region 6 with fail
  rw [HW.out]
  go_wp2_with fail
  refine (falls_any (s : Int) r mu a di _ (b := false) (hid ⟨fun h => Bool.noConfusion h, fun h => by have := hlt.out; omega⟩)).mono ?_
  rintro e w2 ⟨rfl, hx⟩
  have E2 := hid (E1.out.step hx)
  replace HEN := hid (HEN.out.of_ext hx)
  replace HST := hid (HST.out.ext hx)
  replace HT := hid (HT.out.ext hx)
  replace RP := hid (RP.out.ext hx)
  have HSB := hid (Nat.le_trans (show w.heap.size + 1 ≤ w1.heap.size by rw [HSZ.out]; exact Nat.le_refl _) hx.size)
  clear hx p0 p1 p2 p3 p4
  have l3 : BF < base := HL.out.2.2.1
  have l4 : BL < base := HL.out.2.2.2.1
  have l5 : BW < base := HL.out.2.2.2.2.1
  have l8 : BF ≠ BL := HL.out.2.2.2.2.2.2.2.1
  have hk0 := HEN.out.rw_.cell 0
  have hk0 : w2.cell? ⟨BW, 0, none⟩ = some (.int .i64 wh) := hk0
  obtain ⟨p0, p1, p2, p3, p4⟩ := row_facts5 RP.out
  go_wp2_with fail
  refine (stays_any (s : Int) r mu a di wh _ (b := true) (hid ⟨fun _ => hst.out, fun _ => rfl⟩)).mono ?_
  rintro e w3 ⟨rfl, hx⟩
  replace E2 := hid (E2.out.step hx)
  replace HEN := hid (HEN.out.of_ext hx)
  replace HST := hid (HST.out.ext hx)
  replace RP := hid (RP.out.ext hx)
  clear hx p0 p1 p2 p3 p4 hk0
  have hbs : base ≤ w3.heap.size := HEN.out.hb
  have HOF := hid HST.out.2.2.1
  have HOL := hid HST.out.2.2.2
  have q0 : w3.cell? ⟨BL, 0, none⟩ = some vL := HST.out.2.1.cell 0
  have q1 := HST.out.2.1.free 0
  have k0 : w3.cell? ⟨BW, 0, none⟩ = some (.int .i64 wh) := HEN.out.rw_.cell 0
  obtain ⟨p0, p1, p2, p3, p4⟩ := row_facts5 RP.out
  have hcur : Ext w3 w3 := Ext.rfl' _
  have HN1 := hid hN
  go_upto_region 9 with fail
  go_region_law (first
    | (refine step_append_lies _ (by rfl) _ _ _ (by rfl) base 3 i0 (.int .i64 0) 1 8 Tryz.underlying22 hi hz0 hz1 hz2 rfl (by omega) vL ls.length (Is ls) (by rfl) (own_at HOL.out (fun g hg => hcur.block g (HOL.out.lt g hg).2)) ⟨bl, ol, none⟩ N cl (Is (belowL r di N)) (by rfl) (by simp [belowL_len]) (rd_news HRL.out) (by simp [Value.oneCell']) hN (by have : maxLen = 9223372036854775807 := rfl; omega) (by omega) (by have := hcur.size; omega) _ rfl ?_; intro g' cap' w8 hown8 hgrow hat hlt8; have rf8 := (HST.out.2.1.ext hcur).grownR hgrow (fun kk hkk => by have := (HOL.out.lt kk hkk).1; omega); have q0 : w8.cell? ⟨BL, 0, none⟩ = some vL := rf8.cell 0; have q1 := rf8.free 0)
    | (go_simp; go_at_call 67; refine (restsBelow_any (s : Int) r mu a di wh _ hr0 (by omega) hdi hw6).mono ?_; rintro e w10 ⟨L, nn, cl, rfl, hn6, hrl, hia, hib, hx⟩; have hcur := Ext.step hcur (by first | exact hx | exact Ext.undrew hx | exact Ext.step ((Ext.rfl' _).alloc' _) hx | exact Ext.step ((Ext.rfl' _).drew'.alloc' _) hx); (rw [hwh.out] at hia hib); (obtain rfl : N = nn := (below_n hr0 hr1 hia hib).symm); (obtain ⟨bl, ol, rfl, -, -⟩ := hrl.atI (k := 0) (by rw [belowL_len]; exact HN1.out)); have HRL := hid hrl; clear hia hib hrl; have q0 : w10.cell? ⟨BL, 0, none⟩ = some vL := (HST.out.2.1.ext hcur).cell 0; have q1 := (HST.out.2.1.ext hcur).free 0))
  all_goals
    have HF : Hid (∀ WF, WF = w8.setCell ⟨BL, 0, none⟩ (.slice (some ⟨g', 0, none⟩) (ls.length + N) cap') → VisPost base BF BL f w vF vL ps (ls ++ belowL r di N) (.returned (.tuple #[])) WF) := hid (by
      rintro WF rfl
      have hs10 := (E2.out.step hcur).size
      have hbk : ∀ j, j < w10.heap.size → j ≠ BL → vL.ownBlock ≠ some j → (w8.setCell ⟨BL, 0, none⟩ (.slice (some ⟨g', 0, none⟩) (ls.length + N) cap')).heap[j]? = w10.heap[j]? := fun j h1 h2 h3 => by
        rw [Below.heap_setCell _ _ _ j (by exact h2), hgrow.block j h1 (fun e => h3 e.symm)]
      refine ⟨rfl, vF, .slice (some ⟨g', 0, none⟩) (ls.length + N) cap', ⟨?_, rf8.set 0 _, ?_, ?_⟩, ?_⟩
      · exact (hbk BF (HST.out.1.ext hcur).lt (by omega) (fun e => by have := (HOL.out.lt BF e).1; omega)).trans (HST.out.1.ext hcur)
      · refine own_at HOF.out (fun g hg => (hbk g (Nat.lt_of_lt_of_le (HOF.out.lt g hg).2 hcur.size) (by have := (HOF.out.lt g hg).1; omega) (fun e => HST.out.apart g hg e)).trans (hcur.block g (HOF.out.lt g hg).2))
      · have h1 : Is (ls ++ belowL r di N) = Is ls ++ Is (belowL r di N) := by simp
        rw [h1, List.length_append, belowL_len]
        exact own_at hown8 (fun g hg => Below.heap_setCell _ _ _ g (by show g ≠ BL; have := (hown8.lt g hg).1; omega))
      · exact ⟨hgrow.os.trans (E2.out.step hcur).os, hgrow.tape.trans (E2.out.step hcur).tape, hgrow.output.trans (E2.out.step hcur).output, Nat.le_trans hs10 (by have := hgrow.size; simp; omega), fun j h1 h2 h3 h4 h5 => (hbk j (by omega) h3 h5).trans ((E2.out.step hcur).block j h1), fun g hg => .inl hg, fun g hg => by
          have hg' : g' = g := by injection hg
          subst hg'
          rcases hat with h6 | h6
          · exact .inl h6
          · right; omega⟩)
    clear hown8 hgrow hat hcur
    go_wp2
    go_end0
    exact HF.out _ rfl
end Go.Proofs.YtleccblkafcidaaGreatDoor
/- package sieve: the closure visit, at a place that parts -/
namespace Go.Proofs.YtleccblkafcidaaGreatDoor
open Go.RowKit
theorem visit_row {w00 w W w2 : World} {base BF BL BW BM BV : Nat} {t : TypeId} {vs : List Value} {f0 l0 f1 l1 : Value} (L : Lies w00 base BF BL BW BM BV) (hb : base ≤ w.heap.size) (h : Row W w.heap.size t vs) (hn : f0.ownBlock ≠ some w.heap.size ∧ l0.ownBlock ≠ some w.heap.size) (c : Chg BF BL W f0 l0 w2 f1 l1) : Row w2 w.heap.size t vs :=
  (c.block w.heap.size h.lt (by have := L.2.2.1; omega) (by have := L.2.2.2.1; omega) hn.1 hn.2).trans h
theorem flat_range {α : Type} (g : Nat → List α) (j : Nat) : (List.range (j + 1)).flatMap g = (List.range j).flatMap g ++ g j := by
  rw [List.range_succ, List.flatMap_append]; simp
theorem flat_bd {α : Type} (g : Nat → List α) (Bd M : Nat) (h : ∀ t, t < M → (g t).length ≤ Bd) : ∀ j, j ≤ M → ((List.range j).flatMap g).length ≤ j * Bd := by
  intro j hj
  have := flat_len g Bd (List.range j) (fun x hx => h x (by have := List.mem_range.1 hx; omega))
  rwa [List.length_range] at this
set_option maxRecDepth 100000 in
set_option maxHeartbeats 12800000 in
theorem visit_part (w00 : World) (base BF BL BW BM BV : Nat) (wh : Int) (A : Option Addr) (n cc : Nat) (B : Option Addr) (n2 d2 : Nat) (m : Int) (f : Int × Int → ByteArray × ByteArray × ByteArray × ByteArray) (s : Nat) (r mu a di : Int) (vF vL : Value) (ps : List (Int × Int)) (ls : List Int) (w : World) (M Bd : Nat) (V : Nat → List (Int × Int) × List Int) (HL : Hid (Lies w00 base BF BL BW BM BV)) (HE : Env w00 base BF BL BW BM BV wh [.int .i64 m, .slice A n cc, .slice B n2 d2] w) (HS0 : St base BF BL f w vF vL ps ls) (ht : Tab w) (hlt : Hid (¬ mu < di)) (hst : Hid (¬ (wh ≤ mu ∨ di = wh))) (hm : Hid (m = (M : Int))) (hM : M ≤ 1000)
    (hV : Hid (∀ t, t < M → (V t).1.length ≤ Bd ∧ (V t).2.length ≤ Bd)) (hp : ps.length + M * Bd ≤ 1000000) (hl : ls.length + M * Bd ≤ 1000000)
    (HCH : Hid (∀ t : Nat, t < M → ∃ x u2 a2 e2 : Int, (∀ W', Env w00 base BF BL BW BM BV wh [.int .i64 m, .slice A n cc, .slice B n2 d2] W' → Calls Tryz.prog 68 #[PlV (s : Int) r mu a di, .agg #[.int .i64 m, .slice A n cc, .slice B n2 d2], .int .i64 (t : Int)] W' (fun e w' => e = .returned (PlV ((s : Int) + 1) x u2 a2 e2) ∧ Ext W' w')) ∧
      (∀ (W' : World) (vF vL : Value) (ps : List (Int × Int)) (ls : List Int), Env w00 base BF BL BW BM BV wh [.int .i64 m, .slice A n cc, .slice B n2 d2] W' → St base BF BL f W' vF vL ps ls → ps.length + Bd ≤ 1000000 → ls.length + Bd ≤ 1000000 → Calls Tryz.prog 63 #[PlV ((s : Int) + 1) x u2 a2 e2, .pointer (some ⟨BF, 0, none⟩), .pointer (some ⟨BW, 0, none⟩), .pointer (some ⟨BL, 0, none⟩), .pointer (some ⟨BM, 0, none⟩), .pointer (some ⟨BV, 0, none⟩)] W' (VisPost base BF BL f W' vF vL (ps ++ (V t).1) (ls ++ (V t).2))))) :
    Calls Tryz.prog 63 #[PlV (s : Int) r mu a di, .pointer (some ⟨BF, 0, none⟩), .pointer (some ⟨BW, 0, none⟩), .pointer (some ⟨BL, 0, none⟩), .pointer (some ⟨BM, 0, none⟩), .pointer (some ⟨BV, 0, none⟩)] w (VisPost base BF BL f w vF vL (ps ++ (List.range M).flatMap (fun t => (V t).1)) (ls ++ (List.range M).flatMap (fun t => (V t).2))) := by
  have HPB := hid hp
  have HLB := hid hl
  clear hp hl
  have hx : Ext w (w.alloc (.cells #[.int .i64 (s : Int), .int .i64 r, .int .i64 mu, .int .i64 a, .int .i64 di] 104)) := (Ext.rfl' w).alloc' _
  have hr : Row (w.alloc (.cells #[.int .i64 (s : Int), .int .i64 r, .int .i64 mu, .int .i64 a, .int .i64 di] 104)) w.heap.size 104 [.int .i64 (s : Int), .int .i64 r, .int .i64 mu, .int .i64 a, .int .i64 di] := Row.new w _ _
  have hsz : (w.alloc (.cells #[.int .i64 (s : Int), .int .i64 r, .int .i64 mu, .int .i64 a, .int .i64 di] 104)).heap.size = w.heap.size + 1 := by simp
  unfold PlV
  obtain ⟨w1, hw1⟩ : ∃ w1, w.alloc (.cells #[.int .i64 (s : Int), .int .i64 r, .int .i64 mu, .int .i64 a, .int .i64 di] 104) = w1 := ⟨_, rfl⟩
  rw [hw1] at hx hr hsz
  have HW := hid hw1
  have RP := hid hr
  have E1 := hid hx
  have HEN := hid (HE.of_ext hx)
  have HST := hid (HS0.ext hx)
  have HT := hid (ht.ext hx)
  have HSZ := hid hsz
  have HS00 := hid HS0
  obtain ⟨p0, p1, p2, p3, p4⟩ := row_facts5 hr
  clear hx hr hw1 hsz HS0
  go_enter Tryz.func63, Tryz.ntmps63
  go_upto_region 6 with fail
  rw [HW.out]
  go_wp2_with fail
  refine (falls_any (s : Int) r mu a di _ (b := false) (hid ⟨fun h => Bool.noConfusion h, fun h => by have := hlt.out; omega⟩)).mono ?_
  rintro e w2 ⟨rfl, hx⟩
  have E2 := hid (E1.out.step hx)
  replace HEN := hid (HEN.out.of_ext hx)
  replace HST := hid (HST.out.ext hx)
  replace HT := hid (HT.out.ext hx)
  replace RP := hid (RP.out.ext hx)
  have HSB := hid (Nat.le_trans (show w.heap.size + 1 ≤ w1.heap.size by rw [HSZ.out]; exact Nat.le_refl _) hx.size)
  clear hx p0 p1 p2 p3 p4
  have hk0 : w2.cell? ⟨BW, 0, none⟩ = some (.int .i64 wh) := HEN.out.rw_.cell 0
  obtain ⟨p0, p1, p2, p3, p4⟩ := row_facts5 RP.out
  go_wp2_with fail
  refine (stays_any (s : Int) r mu a di wh _ (b := false) (hid ⟨fun h => Bool.noConfusion h, fun h => absurd h hst.out⟩)).mono ?_
  rintro e w3 ⟨rfl, hx⟩
  replace E2 := hid (E2.out.step hx)
  replace HEN := hid (HEN.out.of_ext hx)
  replace HST := hid (HST.out.ext hx)
  replace RP := hid (RP.out.ext hx)
  replace HSB := hid (Nat.le_trans HSB.out hx.size)
  clear hx p0 p1 p2 p3 p4 hk0
  have HS : Hid (∀ W', Row W' w.heap.size 104 [.int .i64 (s : Int), .int .i64 r, .int .i64 mu, .int .i64 a, .int .i64 di] → Env w00 base BF BL BW BM BV wh [.int .i64 m, .slice A n cc, .slice B n2 d2] W' → W'.cell? ⟨w.heap.size, 0, none⟩ = some (.int .i64 (s : Int)) ∧ W'.cell? ⟨w.heap.size, 1, none⟩ = some (.int .i64 r) ∧ W'.cell? ⟨w.heap.size, 2, none⟩ = some (.int .i64 mu) ∧ W'.cell? ⟨w.heap.size, 3, none⟩ = some (.int .i64 a) ∧ W'.cell? ⟨w.heap.size, 4, none⟩ = some (.int .i64 di) ∧ W'.cell? ⟨BM, 0, none⟩ = some (.int .i64 m) ∧ W'.cell? ⟨BM, 1, none⟩ = some (.slice A n cc) ∧ W'.cell? ⟨BM, 2, none⟩ = some (.slice B n2 d2) ∧ W'.cell? ⟨BV, 0, none⟩ = some (.func (.func 63) #[] #[.pointer (some ⟨BF, 0, none⟩), .pointer (some ⟨BW, 0, none⟩), .pointer (some ⟨BL, 0, none⟩), .pointer (some ⟨BM, 0, none⟩), .pointer (some ⟨BV, 0, none⟩)])) := hid (by
    intro W' h1 h2
    obtain ⟨x0, x1, x2, x3, x4⟩ := row_facts5 h1
    obtain ⟨y0, y1, y2, -, -, -⟩ := row_facts3 h2.rm
    exact ⟨x0, x1, x2, x3, x4, y0, y1, y2, h2.rv.cell 0⟩)
  obtain ⟨f0, f1, f2, -, -, -⟩ := row_facts3 HEN.out.rm
  have HMM := hid hm.out
  rw [hm.out] at f0
  go_wp2_with fail
  go_loopw [10] (fun iz wr => ∃ (j : Nat) (vF' vL' : Value), j ≤ M ∧ iz = .int .i64 (j : Int) ∧ Row wr w.heap.size 104 [.int .i64 (s : Int), .int .i64 r, .int .i64 mu, .int .i64 a, .int .i64 di] ∧ Env w00 base BF BL BW BM BV wh [.int .i64 m, .slice A n cc, .slice B n2 d2] wr ∧ St base BF BL f wr vF' vL' (ps ++ (List.range j).flatMap (fun t => (V t).1)) (ls ++ (List.range j).flatMap (fun t => (V t).2)) ∧ Chg BF BL w3 vF vL wr vF' vL') (fun iz _ => M - (intOf iz).toNat)
  case atStart => exact ⟨0, vF, vL, by omega, rfl, RP.out, HEN.out, by simpa using HST.out, Chg.of_ext (Ext.rfl' _) vF vL⟩
  case round =>
    clear f0 f1 f2 HEN HST RP
    obtain ⟨j, vF', vL', hj, rfl, hr1, hen, hst', hch⟩ := hrel
    have RP := hid hr1
    have HEN := hid hen
    have HST := hid hst'
    have HCG := hid hch
    clear hr1 hen hst' hch
    by_cases hlt2 : j < M
    · obtain ⟨x, u2, a2, e2, HC1, HC2⟩ := HCH.out j hlt2
      have HC1 := hid HC1
      have HC2 := hid (HC2 · vF' vL' (ps ++ (List.range j).flatMap (fun t => (V t).1)) (ls ++ (List.range j).flatMap (fun t => (V t).2)))
      have HLEN : Hid ((ps ++ (List.range j).flatMap (fun t => (V t).1)).length + Bd ≤ 1000000 ∧ (ls ++ (List.range j).flatMap (fun t => (V t).2)).length + Bd ≤ 1000000) := hid (by
        have h1 := flat_bd (fun t => (V t).1) Bd M (fun t h => (hV.out t h).1) j (by omega)
        have h2 := flat_bd (fun t => (V t).2) Bd M (fun t h => (hV.out t h).2) j (by omega)
        have h3 : (j + 1) * Bd ≤ M * Bd := Nat.mul_le_mul_right _ (by omega)
        rw [Nat.succ_mul] at h3
        have := HPB.out
        have := HLB.out
        rw [List.length_append, List.length_append]
        omega)
      have HNH : Hid (vF'.ownBlock ≠ some w.heap.size ∧ vL'.ownBlock ≠ some w.heap.size) := hid (by
        refine ⟨fun e => ?_, fun e => ?_⟩
        · rcases HCG.out.newF _ e with h | h
          · have := (HS00.out.2.2.1.lt _ h).2; omega
          · have := HSB.out; omega
        · rcases HCG.out.newL _ e with h | h
          · have := (HS00.out.2.2.2.lt _ h).2; omega
          · have := HSB.out; omega)
      have jj : (j : Int) < (M : Int) := by omega
      have hcur : Ext wr wr := Ext.rfl' _
      go_upto_region 4 with fail
      go_region_held3 (fun W' => W'.cell? ⟨w.heap.size, 0, none⟩ = some (.int .i64 (s : Int)) ∧ W'.cell? ⟨w.heap.size, 1, none⟩ = some (.int .i64 r) ∧ W'.cell? ⟨w.heap.size, 2, none⟩ = some (.int .i64 mu) ∧ W'.cell? ⟨w.heap.size, 3, none⟩ = some (.int .i64 a) ∧ W'.cell? ⟨w.heap.size, 4, none⟩ = some (.int .i64 di) ∧ W'.cell? ⟨BM, 0, none⟩ = some (.int .i64 m) ∧ W'.cell? ⟨BM, 1, none⟩ = some (.slice A n cc) ∧ W'.cell? ⟨BM, 2, none⟩ = some (.slice B n2 d2) ∧ W'.cell? ⟨BV, 0, none⟩ = some (.func (.func 63) #[] #[.pointer (some ⟨BF, 0, none⟩), .pointer (some ⟨BW, 0, none⟩), .pointer (some ⟨BL, 0, none⟩), .pointer (some ⟨BM, 0, none⟩), .pointer (some ⟨BV, 0, none⟩)]))
        (first | (with_reducible exact HS.out _ RP20 HEN20) | (with_reducible exact HS.out _ (RP.out.ext hcur) (HEN.out.of_ext hcur)) | (with_reducible exact HS.out _ (RP.out.ext hcur.drew') (HEN.out.of_ext hcur.drew')) | go_keep)
        (first
          | (go_at_call 68; refine (HC1.out _ (HEN.out.of_ext ?_)).mono ?_; (first | exact hcur | exact hcur.drew' | exact hcur.alloc' _ | exact hcur.drew'.alloc' _ | exact (hcur.alloc' _).drew'); rintro e w10 ⟨rfl, hx⟩; have hcur := Ext.step hcur (by first | exact hx | exact Ext.undrew hx | exact Ext.step ((Ext.rfl' _).alloc' _) hx | exact Ext.step ((Ext.rfl' _).drew'.alloc' _) hx))
          | (go_at_call 63; refine (HC2.out _ (HEN.out.of_ext ?_) (HST.out.ext ?_) HLEN.out.1 HLEN.out.2).mono ?_; (first | exact hcur | exact hcur.drew' | exact hcur.alloc' _ | exact hcur.drew'.alloc' _ | exact (hcur.alloc' _).drew'); (first | exact hcur | exact hcur.drew' | exact hcur.alloc' _ | exact hcur.drew'.alloc' _ | exact (hcur.alloc' _).drew'); rintro e w20 ⟨rfl, vF2, vL2, hst2, hch2⟩; have HST2 := hid hst2; have HCG2 := hid (Chg.trans (Chg.of_ext (by (first | exact hcur | exact hcur.drew' | exact hcur.alloc' _ | exact hcur.drew'.alloc' _ | exact (hcur.alloc' _).drew')) vF' vL') hch2); have RP20 := visit_row HL.out HE.hb RP.out HNH.out HCG2.out; have HEN20 := HEN.out.chg HL.out (fun g hg => (HST.out.2.2.1.lt g hg).1) (fun g hg => (HST.out.2.2.2.lt g hg).1) HCG2.out))
      all_goals
        have HF : Hid (∃ (j' : Nat) (vF' vL' : Value), j' ≤ M ∧ Value.int .i64 ((j : Int) + 1) = .int .i64 (j' : Int) ∧ Row w20 w.heap.size 104 [.int .i64 (s : Int), .int .i64 r, .int .i64 mu, .int .i64 a, .int .i64 di] ∧ Env w00 base BF BL BW BM BV wh [.int .i64 m, .slice A n cc, .slice B n2 d2] w20 ∧ St base BF BL f w20 vF' vL' (ps ++ (List.range j').flatMap (fun t => (V t).1)) (ls ++ (List.range j').flatMap (fun t => (V t).2)) ∧ Chg BF BL w3 vF vL w20 vF' vL') := hid ⟨j + 1, vF2, vL2, by omega, by simp, RP20, HEN20, by rw [flat_range, flat_range, ← List.append_assoc, ← List.append_assoc]; exact HST2.out, HCG.out.trans HCG2.out⟩
        clear hcur
        go_wp2
        go_roundw
        case rel => exact HF.out
        case measure => first | (simp [intOf]; done) | (simp [intOf]; omega)
    · obtain rfl : j = M := by omega
      have HF : Hid (VisPost base BF BL f w vF vL (ps ++ (List.range j).flatMap (fun t => (V t).1)) (ls ++ (List.range j).flatMap (fun t => (V t).2)) (.returned (.tuple #[])) wr) := hid ⟨rfl, vF', vL', HST.out, (Chg.of_ext E2.out vF vL).trans HCG.out⟩
      go_wp2_with fail
      go_end0
      exact HF.out
end Go.Proofs.YtleccblkafcidaaGreatDoor
/- package sieve: the closure visit -/
namespace Go.Proofs.YtleccblkafcidaaGreatDoor
open Go.RowKit
theorem lnX_congr {m : Int} {us ad : List Int} (hm : 0 < m) {s : Nat} {X Y : Int} (h : X % m ^ s = Y % m ^ s) : lnX m us ad Y s = lnX m us ad X s := by
  unfold lnX; rw [wordI_congr hm h]
/-- where a place lies: bounds of its numbers -/
theorem place_bds {m : Int} {us ad : List Int} (hM : mapP m us ad) {k s : Nat} (hs : s ≤ k) (h6 : m ^ k ≤ 65536) (r : Int) : 1 ≤ m ^ s ∧ m ^ s ≤ 65536 ∧ 1 ≤ (lnX m us ad r s).1 ∧ ((lnX m us ad r s).1 ≤ 65536 → (lnX m us ad r s).2.1.natAbs ≤ 4294967296000000) := by
  have hm := hM.1
  have h1 : 1 ≤ m ^ s := Int.pow_pos (by omega)
  have h2 := pow_grow hm hs
  have h3 := lnX_pos hM r s
  refine ⟨h1, by omega, h3, fun h4 => ?_⟩
  have h5 := lnX_add hM r s
  have h7 : (lnX m us ad r s).1.natAbs * (m ^ s).natAbs ≤ 65536 * 65536 := Nat.mul_le_mul (by omega) (by omega)
  have : 1000000 * ((lnX m us ad r s).1.natAbs * (m ^ s).natAbs) ≤ 1000000 * (65536 * 65536) := Nat.mul_le_mul_left _ h7
  omega
theorem two_pow {m : Int} (hm : 2 ≤ m) : ∀ s : Nat, (2 : Int) ^ s ≤ m ^ s
  | 0 => by simp
  | s + 1 => by
    rw [Int.pow_succ, Int.pow_succ]
    have h1 := two_pow hm s
    have h2 : 0 < m ^ s := Int.pow_pos (by omega)
    exact Int.mul_le_mul h1 hm (by omega) (by omega)
theorem steps_few {m : Int} (hm : 2 ≤ m) {s : Nat} (h : m ^ s ≤ 65536) : s ≤ 1000 := by
  rcases Nat.lt_or_ge 16 s with h1 | h1
  · exfalso
    have h2 : m ^ 17 ≤ m ^ s := pow_grow hm h1
    have h3 : (2 : Int) ^ 17 ≤ m ^ 17 := two_pow hm 17
    have h4 : (2 : Int) ^ 17 = 131072 := by decide
    omega
  · omega
/-- a child, by the linear map of its own rest -/
theorem child_at {m : Int} {us ad : List Int} (hM : mapP m us ad) {k s : Nat} (hs : s < k) (h6 : m ^ k ≤ 65536) {r : Int} (h0 : 0 ≤ r) (h1 : r < m ^ s) (hmu : (lnX m us ad r s).1 ≤ 65536) (t : Nat) (ht : (t : Int) < m) (v : Value) (w : World) (hv : MapV w v m us ad) :
    Calls Tryz.prog 68 #[PlV (s : Int) r (lnX m us ad r s).1 (lnX m us ad r s).2.1 (m ^ s), v, .int .i64 (t : Int)] w (fun e w' => e = .returned (PlV ((s : Int) + 1) (r + (t : Int) * m ^ s) (lnX m us ad (r + (t : Int) * m ^ s) (s + 1)).1 (lnX m us ad (r + (t : Int) * m ^ s) (s + 1)).2.1 (m ^ (s + 1))) ∧ Ext w w') := by
  have hm := hM.1
  obtain ⟨b1, b2, b3, b4⟩ := place_bds hM (Nat.le_of_lt hs) h6 r
  have e0 : r % m ^ s = (r + (t : Int) * m ^ s) % m ^ s := by rw [Int.add_mul_emod_self_right]
  have e1 : lnX m us ad (r + (t : Int) * m ^ s) s = lnX m us ad r s := lnX_congr (by omega) e0
  have e2 := lin_orb hM (r + (t : Int) * m ^ s) s
  have e3 : lineI m us ad (wordI m us ad s (r + (t : Int) * m ^ s)) = lnX m us ad r s := e1
  rw [e3, lnX_div] at e2
  have e4 := lnX_next m us ad (r + (t : Int) * m ^ s) s
  rw [e1] at e4
  refine child_any v m us ad (s : Int) r _ _ (m ^ s) (t : Int) (r + (t : Int) * m ^ s) (orbN m us ad s (r + (t : Int) * m ^ s)) _ _ (m ^ (s + 1)) w hv (hid hM) (by omega) (by have := steps_few hm b2; omega) h0 h1 b1 b2 (by omega) ht b3 hmu (b4 hmu) (hid rfl) (hid e2) (hid ?_) (hid ?_) (hid (Int.pow_succ m s).symm)
  · rw [e4]; rfl
  · rw [e4]
    show _ = us.getD _ 0 * _ + ad.getD _ 0 * (lnX m us ad r s).2.2
    rw [lnX_div]
set_option maxHeartbeats 1600000 in
theorem visit_any (w00 : World) (base BF BL BW BM BV : Nat) (A : Option Addr) (n cc : Nat) (B : Option Addr) (n2 d2 : Nat) (m : Int) (us ad : List Int) (k M : Nat) (HL : Lies w00 base BF BL BW BM BV) (hv : MapV w00 (.agg #[.int .i64 m, .slice A n cc, .slice B n2 d2]) m us ad) (hM : mapP m us ad) (ht : Tab w00) (h6 : m ^ k ≤ 65536) (hm : m = (M : Int)) :
    ∀ (d s : Nat) (r : Int), s + d = k → 0 ≤ r → r < m ^ s → ∀ (w : World) (vF vL : Value) (ps : List (Int × Int)) (ls : List Int), Env w00 base BF BL BW BM BV (m ^ k) [.int .i64 m, .slice A n cc, .slice B n2 d2] w → St base BF BL (fTxt m us ad) w vF vL ps ls → ps.length + M ^ d ≤ 1000000 → ls.length + M ^ d ≤ 1000000 →
      Calls Tryz.prog 63 #[PlV (s : Int) r (lnX m us ad r s).1 (lnX m us ad r s).2.1 (m ^ s), .pointer (some ⟨BF, 0, none⟩), .pointer (some ⟨BW, 0, none⟩), .pointer (some ⟨BL, 0, none⟩), .pointer (some ⟨BM, 0, none⟩), .pointer (some ⟨BV, 0, none⟩)] w (VisPost base BF BL (fTxt m us ad) w vF vL (ps ++ (vis M us ad k d s r).1) (ls ++ (vis M us ad k d s r).2)) := by
  have hm2 := hM.1
  have hm12 := hM.2.1
  have hM1 : 1 ≤ M := by omega
  intro d
  induction d with
  | zero =>
    intro s r hsd h0 h1 w vF vL ps ls HE hS hp hl
    obtain ⟨b1, b2, b3, b4⟩ := place_bds hM (show s ≤ k by omega) h6 r
    have htw := ht.ext HE.ext
    by_cases hf : (lnX m us ad r s).1 < m ^ s
    · have e : vis M us ad k 0 s r = ([((s : Int), r)], []) := by
        unfold vis; rw [← hm, if_pos hf]
      rw [e, List.append_nil]
      exact visit_fall w00 base BF BL BW BM BV _ A n cc B n2 d2 m _ s r _ _ _ vF vL ps ls w (hid HL) HE hS htw hf (hid ⟨by omega, by omega⟩) (hid (by have := b4 (by omega); omega)) (hid (by unfold fTxt; simp)) (by omega)
    · have e : vis M us ad k 0 s r = ([], belowL r (m ^ s) 1) := by
        unfold vis; rw [← hm, if_neg hf]
      rw [e, List.append_nil]
      have hk : s = k := by omega
      subst hk
      exact visit_stay w00 base BF BL BW BM BV _ A n cc B n2 d2 m _ s r _ _ _ vF vL ps ls w 1 (hid HL) HE hS htw (hid hf) (hid (.inr rfl)) (hid (by simp)) (by omega) h0 h1 b2 b2 (by omega)
  | succ d ih =>
    intro s r hsd h0 h1 w vF vL ps ls HE hS hp hl
    obtain ⟨b1, b2, b3, b4⟩ := place_bds hM (show s ≤ k by omega) h6 r
    have htw := ht.ext HE.ext
    have hpow : 1 ≤ M ^ (d + 1) := Nat.one_le_pow _ _ hM1
    by_cases hf : (lnX m us ad r s).1 < m ^ s
    · have e : vis M us ad k (d + 1) s r = ([((s : Int), r)], []) := by
        unfold vis; rw [← hm, if_pos hf]
      rw [e, List.append_nil]
      exact visit_fall w00 base BF BL BW BM BV _ A n cc B n2 d2 m _ s r _ _ _ vF vL ps ls w (hid HL) HE hS htw hf (hid ⟨by omega, by omega⟩) (hid (by have := b4 (by omega); omega)) (hid (by unfold fTxt; simp)) (by omega)
    · have hkk : m ^ k = m ^ s * ((M ^ (d + 1) : Nat) : Int) := by
        rw [← hsd, Int.pow_add, hm, Int.natCast_pow]
      by_cases hs : m ^ k ≤ (lnX m us ad r s).1
      · have e : vis M us ad k (d + 1) s r = ([], belowL r (m ^ s) (M ^ (d + 1))) := by
          unfold vis; rw [← hm, if_neg hf, if_pos hs]
        rw [e, List.append_nil]
        exact visit_stay w00 base BF BL BW BM BV _ A n cc B n2 d2 m _ s r _ _ _ vF vL ps ls w (M ^ (d + 1)) (hid HL) HE hS htw (hid hf) (hid (.inl hs)) (hid hkk) hpow h0 h1 b2 h6 (by omega)
      · have e : vis M us ad k (d + 1) s r = ((List.range M).flatMap (fun (t : Nat) => (vis M us ad k d (s + 1) (r + (t : Int) * m ^ s)).1), (List.range M).flatMap (fun (t : Nat) => (vis M us ad k d (s + 1) (r + (t : Int) * m ^ s)).2)) := by
          conv => lhs; unfold vis
          rw [← hm, if_neg hf, if_neg hs]
        rw [e]
        have hne : ¬ m ^ s = m ^ k := by
          have h2 : m ^ (s + 1) ≤ m ^ k := pow_grow hm2 (by omega)
          rw [Int.pow_succ] at h2
          have h3 : m ^ s * 2 ≤ m ^ s * m := Int.mul_le_mul_of_nonneg_left hm2 (by omega)
          intro h4
          rw [← h4] at h2
          generalize m ^ s = q at *
          omega
        have eM : M * M ^ d = M ^ (d + 1) := by rw [Nat.pow_succ, Nat.mul_comm]
        refine visit_part w00 base BF BL BW BM BV _ A n cc B n2 d2 m _ s r _ _ _ vF vL ps ls w M (M ^ d) (fun t => vis M us ad k d (s + 1) (r + (t : Int) * m ^ s)) (hid HL) HE hS htw (hid hf) (hid (fun h => by rcases h with h | h; exact hs h; exact hne h)) (hid hm) (by omega) (hid (fun t _ => vis_len hM1 us ad k d (s + 1) _)) (by rw [eM]; exact hp) (by rw [eM]; exact hl) (hid ?_)
        intro t htM
        have htm : (t : Int) < m := by omega
        refine ⟨_, _, _, _, fun W' hE' => child_at hM (show s < k by omega) h6 h0 h1 (by omega) t htm _ W' (hv.ext hE'.ext), ?_⟩
        intro W' vF vL ps ls hE' hS' hp' hl'
        have hx0 : 0 ≤ (t : Int) * m ^ s := Int.mul_nonneg (by omega) (by omega)
        have hx1 : r + (t : Int) * m ^ s < m ^ (s + 1) := by
          have h2 : ((t : Int) + 1) * m ^ s ≤ m * m ^ s := Int.mul_le_mul_of_nonneg_right (by omega) (by omega)
          rw [Int.add_mul, Int.one_mul] at h2
          rw [Int.pow_succ, Int.mul_comm (m ^ s) m]
          omega
        have h := ih (s + 1) (r + (t : Int) * m ^ s) (by omega) (by omega) hx1 W' vF vL ps ls hE' hS' hp' hl'
        rwa [show (((s + 1 : Nat)) : Int) = (s : Int) + 1 by simp] at h
end Go.Proofs.YtleccblkafcidaaGreatDoor
