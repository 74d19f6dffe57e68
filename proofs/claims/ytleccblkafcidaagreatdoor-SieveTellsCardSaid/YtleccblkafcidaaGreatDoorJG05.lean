/- Joined texts: (number).gcd; (number).power; num.combine, Add, Sub, Mul, Gcd; num.Compare, Power, Rest; num.Divide; katabasisref01.Valid; the law package's helpers: texts of numbers, Power at two inputs; maps: plain mathematics; Contracts of the library, laid over this dump's numbers.. -/
import Derived.Test.YtleccblkafcidaaGreatDoorJG04
import Derived.Deep.LoopGhost
import Derived.Shelf.Small.Bits
import Derived.Shelf.Small.Wraps
import Derived.Shelf.Strconv.Atoi
import Derived.Shelf.Strconv.Itoa0
import Derived.Shelf.Strconv.Itoa1
import Derived.Shelf.LaysM
import Derived.Shelf.Strconv.Itoa2
import Derived.Shelf.Strconv.Itoa3
import Derived.Shelf.Strconv.Itoa4
import Derived.Shelf.Strconv.AtoiErrFast
import Derived.Shelf.Strconv.ParseIntEmpty
import Derived.Shelf.Strconv.AtoiFail
import Derived.Shelf.Strconv.Clone
import Derived.Shelf.Strconv.SyntaxError
import Derived.Shelf.LaysC
import Derived.Shelf.Strconv.ToError
import Derived.Shelf.Strconv.Lower
import Derived.Shelf.Strconv.ParseUint10
import Derived.Shelf.Strconv.ParseUint10Empty
import Derived.Shelf.Strconv.ParseUint10Any
import Derived.Shelf.Strconv.ParseInt10
import Derived.Shelf.Strconv.AtoiLong
import Derived.Shelf.Strconv.AtoiInnerAll
import Derived.Shelf.Strconv.RangeError
import Derived.Shelf.Strconv.ToErrorRange
import Derived.Shelf.Strconv.AtoiAll
import Derived.Shelf.Strconv.ParseUintEmpty
import Derived.Shelf.Strconv.ParseUint10b64
import Derived.Shelf.Strconv.ParseUint10b32
import Derived.Shelf.Strconv.ParseUint10b16
import Derived.Shelf.Strconv.ParseUint10b8
import Derived.Shelf.Strconv.ParseUint10At
import Derived.Shelf.Strconv.ParseInt10At64
import Derived.Shelf.Strconv.ParseInt10At32
import Derived.Shelf.Strconv.ParseInt10At16
import Derived.Shelf.Strconv.ParseInt10At8
import Derived.Shelf.Strconv.ParseInt10All
import Derived.Shelf.Strconv.ParseIntPublic10
import Derived.Shelf.Strconv.AppendUint10
import Derived.Shelf.Strconv.AppendInt10
import Derived.Shelf.Strings.Prefix
import Derived.Ground.SlsfProg
import Derived.Shelf.SlSortCmp.Insertion
import Derived.Shelf.SlSortCmp.SiftDown1
import Derived.Shelf.SlSortCmp.HeapSort1
import Derived.Shelf.SlSortCmp.Insertion1
import Derived.Shelf.SlSortCmp.Median1
import Derived.Shelf.SlSortCmp.Pivot1
import Derived.Shelf.SlSortCmp.ReverseRange1
import Derived.Shelf.SlSortCmp.PartialInsertion1
import Derived.Shelf.SlSortCmp.PartitionEqual1
import Derived.Shelf.SlSortCmp.Partition1
import Derived.Test.YtleccblkafcidaaGreatDoorProg
set_option linter.unusedSimpArgs false
set_option linter.unusedVariables false
/- (number).gcd -/
namespace Go.Proofs.YtleccblkafcidaaGreatDoor
open Go.RowKit Go.Deep
theorem gcd_step (x y : Nat) (h : 0 < y) : Nat.gcd y (x % y) = Nat.gcd x y := by
  rw [Nat.gcd_comm x y, Nat.gcd_rec y x, Nat.gcd_comm]
set_option maxRecDepth 100000 in
set_option maxHeartbeats 1600000 in
theorem ngcd_any (va vb : Value) (m n : Int) (w : World) (ha : NumV w va m) (hb : NumV w vb n) (la : m.natAbs ≤ BIG) (lb : n.natAbs ≤ BIG) :
    Calls Tryz.prog 154 #[va, vb] w (NumPost (Nat.gcd m.natAbs n.natAbs : Int) w) := by
  obtain ⟨sa, ba, rfl, hba, hza⟩ := ha
  obtain ⟨sb, bb, rfl, hbb, hzb⟩ := hb
  obtain ⟨A, ka, ca, rfl⟩ := hza.slice
  obtain ⟨B, kb, cb, rfl⟩ := hzb.slice
  have hE2 : Ext w ((w.alloc (.cells #[.bool ba, .slice A ka ca] 157)).alloc (.cells #[.bool bb, .slice B kb cb] 157)) := ((Ext.rfl' w).alloc' _).alloc' _
  have hE : Ext w (((w.alloc (.cells #[.bool ba, .slice A ka ca] 157)).alloc (.cells #[.bool bb, .slice B kb cb] 157)).alloc (.cells #[.bool false, .slice none 0 0] 157)) := hE2.alloc' _
  have HE := hid hE
  have HE2 := hid hE2
  clear hba hbb hE hE2
  go_enter Tryz.func154, Tryz.ntmps154
  go_wp2_with fail
  go_region_held3 (fun w' => w'.cell? ⟨w.heap.size, 1, none⟩ = some (.slice A ka ca) ∧ w'.cell? ⟨w.heap.size + 1, 1, none⟩ = some (.slice B kb cb)) (go_keep) (fail)
  go_wp2_with fail
  go_loopg [5, 6] n.natAbs (fun g s5 s6 wr => ∃ (x y : Nat), NatV wr s5 x ∧ NatV wr s6 y ∧ x ≤ BIG ∧ y ≤ BIG ∧ y = g ∧ Hid (Nat.gcd x y = Nat.gcd m.natAbs n.natAbs) ∧ Ext (((w.alloc (.cells #[.bool ba, .slice A ka ca] 157)).alloc (.cells #[.bool bb, .slice B kb cb] 157)).alloc (.cells #[.bool false, .slice none 0 0] 157)) wr)
  case atStart => exact ⟨m.natAbs, n.natAbs, hza.ext HE.out.drew', hzb.ext HE.out.drew', la, lb, rfl, hid rfl, (Ext.rfl' _).drew'⟩
  case round =>
    obtain ⟨x, y, hx, hy, lx, ly, rfl, hg, hext⟩ := hrel
    obtain ⟨A1, k1, c1, rfl⟩ := hx.slice
    obtain ⟨A2, k2, c2, rfl⟩ := hy.slice
    by_cases hk : 0 < k2
    · have hy0 : 0 < y := (hy.len_zero).1 hk
      go_wp2_with fail
      refine (div_any _ _ x y wr hx hy lx ly hy0).mono ?_
      rintro e w2 ⟨v1, v2, rfl, hz1, hz2, hx2⟩
      have hlt := Nat.mod_lt x hy0
      have HLT := hid hlt
      obtain ⟨A3, k3, c3, rfl⟩ := hz2.slice
      clear hlt hk
      go_wp2
      go_roundg (x % y)
      case measure => exact HLT.out
      case rel => exact ⟨y, x % y, hy.ext hx2, hz2, ly, by have := HLT.out; omega, rfl, hid (by rw [← hg.out]; exact gcd_step x y hy0), hext.step hx2⟩
    · obtain rfl : y = 0 := by
        have := hy.len_zero
        omega
      have hfin := hg.out
      rw [Nat.gcd_zero_right] at hfin
      obtain ⟨g0, g1, g2, g3, -, -⟩ := two_facts (H := w.heap.size + 1 + 1) hext (by simp)
      have hst := NumPost.stored (n := (Nat.gcd m.natAbs n.natAbs : Int)) hext HE2.out (H := w.heap.size + 1 + 1) (by simp) (by rw [abs_cast, ← hfin]; exact hx) false (dec_cast _)
      have HF := hid hst
      clear hfin hst hext hg hx hy
      go_wp2
      refine bodyPost_ret (v := .agg #[.bool false, .slice A1 k1 c1]) (by simp [results, Tryz.results154, go_sem, g0, g1]) rfl HF.out
end Go.Proofs.YtleccblkafcidaaGreatDoor
/- (number).power -/
namespace Go.Proofs.YtleccblkafcidaaGreatDoor
open Go.RowKit
/-! ### bounds by limbs -/
def TOP (k : Nat) : Nat := 1000000000 ^ k
theorem TOP_add (a b : Nat) : TOP (a + b) = TOP a * TOP b := Nat.pow_add _ _ _
theorem TOP_pos (k : Nat) : 0 < TOP k := Nat.pow_pos (by omega)
theorem TOP_mono {a b : Nat} (h : a ≤ b) : TOP a ≤ TOP b := Nat.pow_le_pow_right (by omega) h
theorem nines_top (k : Nat) : K.lv (List.replicate k 999999999) + 1 = TOP k := lv_nines k
theorem BIG_top : BIG + 1 = TOP 1000 := nines_top 1000
theorem pw_top (k : Nat) : K.pw (9 * k) = TOP k := by unfold K.pw TOP; rw [Nat.pow_mul]
theorem LIM_top : K.LIM ≤ TOP 223 := by rw [← pw_top]; exact K.pw_mono (by omega)
theorem le_big {x a : Nat} (h : x < TOP a) (ha : a ≤ 1000) : x ≤ BIG := by
  have h1 := TOP_mono ha
  have h2 := BIG_top
  omega
theorem mul_top {x y a b : Nat} (hx : x < TOP a) (hy : y < TOP b) : x * y < TOP (a + b) := by rw [TOP_add]; exact Nat.mul_lt_mul'' hx hy
theorem fits_top {m : Int} (h : K.fits m) : m.natAbs < TOP 223 := Nat.lt_of_lt_of_le h LIM_top
theorem fits_big {m : Int} (h : K.fits m) : m.natAbs ≤ BIG := le_big (fits_top h) (by omega)
theorem NatV.top {w : World} {A : Option Addr} {k c n : Nat} (h : NatV w (.slice A k c) n) : n < TOP k ∧ (0 < k → TOP (k - 1) ≤ n) := by
  obtain ⟨A', k', c', xs, hv, hl, _, _, hL, hm⟩ := h
  injection hv with _ hk _
  subst hk hm hl
  exact ⟨K.lv_lt xs hL.1, fun h0 => hL.ge (by intro e; subst e; simp at h0)⟩
theorem pow_big {m : Int} {k n : Nat} (hk : k ≤ n) (h : 1 < (m ^ k).natAbs) : (m ^ k).natAbs ≤ (m ^ n).natAbs := by
  rw [Int.natAbs_pow] at h ⊢
  rw [Int.natAbs_pow]
  have h0 : m.natAbs ≠ 0 := by
    intro e; rw [e] at h
    rcases Nat.eq_zero_or_pos k with h1 | h1
    · subst h1; simp at h
    · rw [Nat.zero_pow h1] at h; omega
  exact Nat.pow_le_pow_right (by omega) hk
theorem band1 (q : Nat) (hq : q < 9223372036854775808) : bits .and .i64 (q : Int) 1 = ((q % 2 : Nat) : Int) := by
  have e1 : (BitVec.ofInt 64 (q : Int)).toNat = q := by
    rw [BitVec.ofInt_natCast, BitVec.toNat_ofNat]; exact Nat.mod_eq_of_lt (by omega)
  show IntKind.i64.wrap ((BitVec.ofInt 64 (q : Int) &&& BitVec.ofInt 64 1).toNat : Int) = _
  rw [BitVec.toNat_and, e1, show (BitVec.ofInt 64 1).toNat = 1 from rfl, Nat.and_one_is_mod, IntKind.wrap_i64]
  omega
theorem half (n j : Nat) : n / 2 ^ j = 2 * (n / 2 ^ (j + 1)) + n / 2 ^ j % 2 := by
  rw [Nat.pow_succ, ← Nat.div_div_eq_div_mul]; omega

def PowInv (w : World) (ba : Bool) (A : Option Addr) (ka ca : Nat) (r : Int) (wr : World) : Prop :=
  ∃ b A1 k1 c1, Row wr w.heap.size 157 [.bool ba, .slice A ka ca] ∧ Row wr (w.heap.size + 1) 157 [.bool false, .slice none 0 0] ∧ Row wr (w.heap.size + 1 + 1 + 1) 157 [.bool b, .slice A1 k1 c1] ∧
    Hid (b = decide (r < 0)) ∧ NatV wr (.slice A1 k1 c1) r.natAbs ∧ Ext w wr
theorem NumV.mk' {w : World} {b : Bool} {sz : Value} {n : Int} (hb : Hid (b = decide (n < 0))) (hz : NatV w sz n.natAbs) : NumV w (.agg #[.bool b, sz]) n := ⟨sz, b, rfl, hb, hz⟩
/-- the variable is overwritten -/
theorem PowInv.put {w wr w' : World} {ba b b' : Bool} {A A1 A2 : Option Addr} {ka ca k1 c1 k2 c2 : Nat} {r : Int} (h0 : Row wr w.heap.size 157 [.bool ba, .slice A ka ca]) (h1 : Row wr (w.heap.size + 1) 157 [.bool false, .slice none 0 0])
    (h2 : Row wr (w.heap.size + 1 + 1 + 1) 157 [.bool b, .slice A1 k1 c1]) (hw : Ext w wr) (hx : Ext wr w') (hb : Hid (b' = decide (r < 0))) (hz : NatV w' (.slice A2 k2 c2) r.natAbs) :
    let W := (w'.setCell ⟨w.heap.size + 1 + 1 + 1, 0, none⟩ (.bool b')).setCell ⟨w.heap.size + 1 + 1 + 1, 1, none⟩ (.slice A2 k2 c2)
    Row W w.heap.size 157 [.bool ba, .slice A ka ca] ∧ Row W (w.heap.size + 1) 157 [.bool false, .slice none 0 0] ∧ Row W (w.heap.size + 1 + 1 + 1) 157 [.bool b', .slice A2 k2 c2] ∧ NatV W (.slice A2 k2 c2) r.natAbs ∧ Ext w W := by
  have r0 := h0.ext hx
  have r1 := h1.ext hx
  have r2 := h2.ext hx
  exact ⟨(r0.far (by show _ ≠ w.heap.size + 1 + 1 + 1; omega) _).far (by show _ ≠ w.heap.size + 1 + 1 + 1; omega) _, (r1.far (by show _ ≠ w.heap.size + 1 + 1 + 1; omega) _).far (by show _ ≠ w.heap.size + 1 + 1 + 1; omega) _, (r2.set 0 (.bool b')).set 1 (.slice A2 k2 c2), hz.two r2,
    ((hw.step hx).set' (by show _ ≤ w.heap.size + 1 + 1 + 1; omega) _).set' (by show _ ≤ w.heap.size + 1 + 1 + 1; omega) _⟩
def PowPost (m : Int) (n : Nat) (w : World) (e : Ending) (w' : World) : Prop :=
  ∃ v r, e = .returned v ∧ NumV w' v r ∧ r.natAbs ≤ BIG ∧ (r = m ^ n ∨ (¬ K.fits r ∧ ¬ K.fits (m ^ n))) ∧ Ext w w'
/-- the variable becomes the result -/
theorem PowPost.stored {w W : World} {b : Bool} {A1 : Option Addr} {k1 c1 : Nat} {m r : Int} {n : Nat} (r1 : Row W (w.heap.size + 1) 157 [.bool false, .slice none 0 0]) (hb : Hid (b = decide (r < 0))) (hz : NatV W (.slice A1 k1 c1) r.natAbs) (he : Ext w W)
    (hB : r.natAbs ≤ BIG) (hr : r = m ^ n ∨ (¬ K.fits r ∧ ¬ K.fits (m ^ n))) :
    PowPost m n w (.returned (.agg #[.bool b, .slice A1 k1 c1])) ((W.setCell ⟨w.heap.size + 1, 0, none⟩ (.bool b)).setCell ⟨w.heap.size + 1, 1, none⟩ (.slice A1 k1 c1)) :=
  ⟨_, r, rfl, NumV.mk' hb (hz.two r1), hB, hr, (he.set' (by show _ ≤ w.heap.size + 1; omega) _).set' (by show _ ≤ w.heap.size + 1; omega) _⟩
end Go.Proofs.YtleccblkafcidaaGreatDoor
/- num.combine, Add, Sub, Mul, Gcd -/
namespace Go.Proofs.YtleccblkafcidaaGreatDoor
open Go.RowKit
theorem enter_of {P : Program} {f : FuncId} {fn : Func} (hf : P.funcs[f]? = some fn) (hname : (fn.name == "runtime.NumGoroutine") = false) (hb : fn.body.isSome = true) (args : Array Value) (w : World) :
    (callFunc f args).run P w = .ok (.enter f args) w := by
  obtain ⟨c, hc⟩ := Option.isSome_iff_exists.1 hb
  have h1 : fn.name ≠ "runtime.NumGoroutine" := by simpa using hname
  simp [callFunc, hf, h1, hc]
def BadStr (w : World) (e : Ending) (w' : World) : Prop := e = .returned (.tuple #[.string ⟨#[]⟩, .int .i64 1]) ∧ Ext w w'
theorem told_step {n : Int} {w w1 : World} {e : Ending} {w' : World} (h : Ext w w1) (k : ToldPost n w1 e w') : ToldPost n w e w' := ⟨k.1, k.2.1, h.step k.2.2⟩
set_option maxRecDepth 100000 in
set_option maxHeartbeats 800000 in
theorem combine_ok (f : FuncId) (hcf : ∀ args W, (callFunc f args).run Tryz.prog W = .ok (.enter f args) W) (k : Int) (l1 l2 : List UInt8) (w : World) (h1 : l1.length ≤ 140737488351232) (h2 : l2.length ≤ 140737488351232) (v1 : K.validL l1 = true) (v2 : K.validL l2 = true) (ht : Tab w)
    (hop : Hid (∀ W va vb, NumV W va (K.numL l1) → NumV W vb (K.numL l2) → Calls Tryz.prog f #[va, vb] W (NumPost k W))) (hk : k.natAbs ≤ BIG) :
    Calls Tryz.prog 151 #[.string (Str l1), .string (Str l2), .func (.func f) #[] #[]] w (ToldPost k w) := by
  go_enter Tryz.func151, Tryz.ntmps151
  go_wp2_with fail
  refine (both_ok l1 l2 w h1 h2 v1 v2).mono ?_
  rintro e w1 ⟨⟨y1, y2, rfl, ⟨z1, b1, rfl, hb1, hz1⟩, ⟨z2, b2, rfl, hb2, hz2⟩⟩, hx1⟩
  obtain ⟨A1, k1, c1, rfl⟩ := hz1.slice
  obtain ⟨A2, k2, c2, rfl⟩ := hz2.slice
  have hE : Ext w1 ((w1.alloc (.cells #[.bool b1, .slice A1 k1 c1] 157)).alloc (.cells #[.bool b2, .slice A2 k2 c2] 157)) := ((Ext.rfl' w1).alloc' _).alloc' _
  have n1 := (NumV.mk' hb1 hz1).ext hE
  have n2 := (NumV.mk' hb2 hz2).ext hE
  have hE2 := hx1.step hE
  clear hb1 hz1 hb2 hz2 hx1 hE
  go_wp2_with fail
  refine (hop.out _ _ _ n1 n2).mono ?_
  rintro e w2 ⟨v, rfl, hv, hx2⟩
  go_wp2_with fail
  refine (write_any v k w2 hv hk (ht.ext (hE2.step hx2))).mono ?_
  intro e w3 hp
  have hq := told_step (hE2.step hx2) hp
  clear hE2 hx2 n1 n2 hv hp
  by_cases hf : K.fits k
  · have he := hq.1 hf
    subst he
    go_wp2
    go_ret2
    exact hq
  · have he := hq.2.1 hf
    subst he
    go_wp2
    go_ret2
    exact hq
set_option maxRecDepth 100000 in
set_option maxHeartbeats 800000 in
theorem combine_bad (f : Value) (l1 l2 : List UInt8) (w : World) (h1 : l1.length ≤ 140737488351232) (h2 : l2.length ≤ 140737488351232) (v : K.validL l1 = false ∨ K.validL l2 = false) :
    Calls Tryz.prog 151 #[.string (Str l1), .string (Str l2), f] w (BadStr w) := by
  have hb : Calls Tryz.prog 155 #[.string (Str l1), .string (Str l2)] w (BothBad w) := by
    cases h : K.validL l1 with
    | false => exact both_bad1 l1 l2 w h1 h
    | true =>
      rcases v with v | v
      · rw [h] at v; cases v
      · exact both_bad2 l1 l2 w h1 h2 h v
  have HB := hid hb
  clear hb
  go_enter Tryz.func151, Tryz.ntmps151
  go_wp2_with fail
  refine HB.out.mono ?_
  rintro e w1 ⟨rfl, hx1⟩
  go_wp2
  go_ret2
  exact ⟨rfl, (hx1.alloc' _).alloc' _⟩
set_option maxRecDepth 100000 in
theorem add_ok (l1 l2 : List UInt8) (w : World) (h1 : l1.length ≤ 140737488351232) (h2 : l2.length ≤ 140737488351232) (v1 : K.validL l1 = true) (v2 : K.validL l2 = true) (ht : Tab w) :
    Calls Tryz.prog 195 #[.string (Str l1), .string (Str l2)] w (ToldPost (K.numL l1 + K.numL l2) w) := by
  have f1 := fits_top (K.txt_numL l1 v1).2
  have f2 := fits_top (K.txt_numL l2 v2).2
  have g1 := fits_big (K.txt_numL l1 v1).2
  have g2 := fits_big (K.txt_numL l2 v2).2
  have hc := combine_ok 197 (enter_of Tryz.func197 (by kernel_rfl) (by kernel_rfl)) (K.numL l1 + K.numL l2) l1 l2 w h1 h2 v1 v2 ht (hid fun W va vb ha hb => nplus_any va vb _ _ W ha hb g1 g2) (by refine le_big (a := 224) ?_ (by omega); rw [show (224 : Nat) = 223 + 1 from rfl, TOP_add]; have := TOP_pos 223; have : TOP 1 = 1000000000 := rfl; rw [this]; omega)
  have HC := hid hc
  clear hc f1 f2 g1 g2
  go_enter Tryz.func195, Tryz.ntmps195
  go_wp2_with fail
  refine HC.out.mono ?_
  intro e w1 hq
  by_cases hf : K.fits (K.numL l1 + K.numL l2)
  · have he := hq.1 hf
    subst he
    go_wp2
    go_ret2
    exact hq
  · have he := hq.2.1 hf
    subst he
    go_wp2
    go_ret2
    exact hq
set_option maxRecDepth 100000 in
theorem add_bad (l1 l2 : List UInt8) (w : World) (h1 : l1.length ≤ 140737488351232) (h2 : l2.length ≤ 140737488351232) (v : K.validL l1 = false ∨ K.validL l2 = false) :
    Calls Tryz.prog 195 #[.string (Str l1), .string (Str l2)] w (BadStr w) := by
  go_enter Tryz.func195, Tryz.ntmps195
  go_wp2_with fail
  refine (combine_bad _ l1 l2 w h1 h2 v).mono ?_
  rintro e w1 ⟨rfl, hx⟩
  go_wp2
  go_ret2
  exact ⟨rfl, hx⟩
set_option maxRecDepth 100000 in
theorem mul_ok (l1 l2 : List UInt8) (w : World) (h1 : l1.length ≤ 140737488351232) (h2 : l2.length ≤ 140737488351232) (v1 : K.validL l1 = true) (v2 : K.validL l2 = true) (ht : Tab w) :
    Calls Tryz.prog 123 #[.string (Str l1), .string (Str l2)] w (ToldPost (K.numL l1 * K.numL l2) w) := by
  have f1 := fits_top (K.txt_numL l1 v1).2
  have f2 := fits_top (K.txt_numL l2 v2).2
  have g1 := fits_big (K.txt_numL l1 v1).2
  have g2 := fits_big (K.txt_numL l2 v2).2
  have hc := combine_ok 159 (enter_of Tryz.func159 (by kernel_rfl) (by kernel_rfl)) (K.numL l1 * K.numL l2) l1 l2 w h1 h2 v1 v2 ht (hid fun W va vb ha hb => ntimes_any va vb _ _ W ha hb g1 g2) (by rw [Int.natAbs_mul]; exact le_big (mul_top f1 f2) (by omega))
  have HC := hid hc
  clear hc f1 f2 g1 g2
  go_enter Tryz.func123, Tryz.ntmps123
  go_wp2_with fail
  refine HC.out.mono ?_
  intro e w1 hq
  by_cases hf : K.fits (K.numL l1 * K.numL l2)
  · have he := hq.1 hf
    subst he
    go_wp2
    go_ret2
    exact hq
  · have he := hq.2.1 hf
    subst he
    go_wp2
    go_ret2
    exact hq
set_option maxRecDepth 100000 in
theorem mul_bad (l1 l2 : List UInt8) (w : World) (h1 : l1.length ≤ 140737488351232) (h2 : l2.length ≤ 140737488351232) (v : K.validL l1 = false ∨ K.validL l2 = false) :
    Calls Tryz.prog 123 #[.string (Str l1), .string (Str l2)] w (BadStr w) := by
  go_enter Tryz.func123, Tryz.ntmps123
  go_wp2_with fail
  refine (combine_bad _ l1 l2 w h1 h2 v).mono ?_
  rintro e w1 ⟨rfl, hx⟩
  go_wp2
  go_ret2
  exact ⟨rfl, hx⟩
end Go.Proofs.YtleccblkafcidaaGreatDoor
/- num.Compare, Power, Rest -/
namespace Go.Proofs.YtleccblkafcidaaGreatDoor
open Go.RowKit
theorem both_bad (l1 l2 : List UInt8) (w : World) (h1 : l1.length ≤ 140737488351232) (h2 : l2.length ≤ 140737488351232) (v : K.validL l1 = false ∨ K.validL l2 = false) :
    Calls Tryz.prog 155 #[.string (Str l1), .string (Str l2)] w (BothBad w) := by
  cases h : K.validL l1 with
  | false => exact both_bad1 l1 l2 w h1 h
  | true =>
    rcases v with v | v
    · rw [h] at v; cases v
    · exact both_bad2 l1 l2 w h1 h2 h v
set_option maxRecDepth 100000 in
set_option maxHeartbeats 800000 in
theorem compare_ok (l1 l2 : List UInt8) (w : World) (h1 : l1.length ≤ 140737488351232) (h2 : l2.length ≤ 140737488351232) (v1 : K.validL l1 = true) (v2 : K.validL l2 = true) :
    Calls Tryz.prog 161 #[.string (Str l1), .string (Str l2)] w (fun e w' => e = .returned (.tuple #[.int .i64 (sgnI (K.numL l1) (K.numL l2)), .int .i64 0]) ∧ Ext w w') := by
  have g1 := fits_big (K.txt_numL l1 v1).2
  have g2 := fits_big (K.txt_numL l2 v2).2
  go_enter Tryz.func161, Tryz.ntmps161
  go_wp2_with fail
  refine (both_ok l1 l2 w h1 h2 v1 v2).mono ?_
  rintro e w1 ⟨⟨y1, y2, rfl, ⟨z1, b1, rfl, hb1, hz1⟩, ⟨z2, b2, rfl, hb2, hz2⟩⟩, hx1⟩
  obtain ⟨A1, k1, c1, rfl⟩ := hz1.slice
  obtain ⟨A2, k2, c2, rfl⟩ := hz2.slice
  have hE : Ext w1 ((w1.alloc (.cells #[.bool b1, .slice A1 k1 c1] 157)).alloc (.cells #[.bool b2, .slice A2 k2 c2] 157)) := ((Ext.rfl' w1).alloc' _).alloc' _
  have n1 := (NumV.mk' hb1 hz1).ext hE
  have n2 := (NumV.mk' hb2 hz2).ext hE
  have hE2 := hx1.step hE
  clear hb1 hz1 hb2 hz2 hx1 hE
  go_wp2_with fail
  refine (ncmp_any _ _ _ _ _ n1 n2 g1 g2).mono ?_
  rintro e w2 ⟨rfl, hx2⟩
  obtain ⟨sg, hsg⟩ : ∃ sg, sgnI (K.numL l1) (K.numL l2) = sg := ⟨_, rfl⟩
  rw [hsg]
  have HSG := hid hsg
  clear hsg
  go_wp2
  go_ret2
  exact ⟨by rw [HSG.out]; rfl, hE2.step hx2⟩
set_option maxRecDepth 100000 in
set_option maxHeartbeats 800000 in
theorem compare_bad (l1 l2 : List UInt8) (w : World) (h1 : l1.length ≤ 140737488351232) (h2 : l2.length ≤ 140737488351232) (v : K.validL l1 = false ∨ K.validL l2 = false) :
    Calls Tryz.prog 161 #[.string (Str l1), .string (Str l2)] w (fun e w' => e = .returned (.tuple #[.int .i64 0, .int .i64 1]) ∧ Ext w w') := by
  go_enter Tryz.func161, Tryz.ntmps161
  go_wp2_with fail
  refine (both_bad l1 l2 w h1 h2 v).mono ?_
  rintro e w1 ⟨rfl, hx1⟩
  go_wp2
  go_ret2
  exact ⟨rfl, (hx1.alloc' _).alloc' _⟩
end Go.Proofs.YtleccblkafcidaaGreatDoor
/- num.Divide -/
namespace Go.Proofs.YtleccblkafcidaaGreatDoor
open Go.RowKit
def Bad2 (k : Int) (w : World) (e : Ending) (w' : World) : Prop := e = .returned (.tuple #[.string ⟨#[]⟩, .string ⟨#[]⟩, .int .i64 k]) ∧ Ext w w'
set_option maxRecDepth 100000 in
set_option maxHeartbeats 800000 in
theorem divide_form (l1 l2 : List UInt8) (w : World) (h1 : l1.length ≤ 140737488351232) (h2 : l2.length ≤ 140737488351232) (v : K.validL l1 = false ∨ K.validL l2 = false) :
    Calls Tryz.prog 122 #[.string (Str l1), .string (Str l2)] w (Bad2 1 w) := by
  go_enter Tryz.func122, Tryz.ntmps122
  go_wp2_with fail
  refine (both_bad l1 l2 w h1 h2 v).mono ?_
  rintro e w1 ⟨rfl, hx1⟩
  go_wp2
  go_ret3
  exact ⟨rfl, (hx1.alloc' _).alloc' _⟩
set_option maxRecDepth 100000 in
set_option maxHeartbeats 800000 in
theorem divide_arg (l1 l2 : List UInt8) (w : World) (h1 : l1.length ≤ 140737488351232) (h2 : l2.length ≤ 140737488351232) (v1 : K.validL l1 = true) (v2 : K.validL l2 = true) (hn : ¬ 0 < K.numL l2) :
    Calls Tryz.prog 122 #[.string (Str l1), .string (Str l2)] w (Bad2 2 w) := by
  have hd : decide (0 < K.numL l2) = false := decide_eq_false hn
  have HD := hid hd
  clear hd hn
  go_enter Tryz.func122, Tryz.ntmps122
  go_wp2_with fail
  refine (both_ok l1 l2 w h1 h2 v1 v2).mono ?_
  rintro e w1 ⟨⟨y1, y2, rfl, ⟨z1, b1, rfl, hb1, hz1⟩, ⟨z2, b2, rfl, hb2, hz2⟩⟩, hx1⟩
  obtain ⟨A1, k1, c1, rfl⟩ := hz1.slice
  obtain ⟨A2, k2, c2, rfl⟩ := hz2.slice
  have hE : Ext w1 ((w1.alloc (.cells #[.bool b1, .slice A1 k1 c1] 157)).alloc (.cells #[.bool b2, .slice A2 k2 c2] 157)) := ((Ext.rfl' w1).alloc' _).alloc' _
  have n2 := (NumV.mk' hb2 hz2).ext hE
  have hE2 := hx1.step hE
  clear hb1 hz1 hb2 hz2 hx1 hE
  go_wp2_with fail
  refine (positive_any _ _ _ n2).mono ?_
  rintro e w2 ⟨rfl, hx2⟩
  rw [HD.out]
  go_wp2
  go_ret3
  exact ⟨rfl, hE2.step hx2⟩
def DivOk (q r : Int) (w : World) (e : Ending) (w' : World) : Prop := e = .returned (.tuple #[.string (Str (K.txt q)), .string (Str (K.txt r)), .int .i64 0]) ∧ Ext w w'
set_option maxRecDepth 100000 in
set_option maxHeartbeats 1600000 in
theorem divide_ok (l1 l2 : List UInt8) (w : World) (h1 : l1.length ≤ 140737488351232) (h2 : l2.length ≤ 140737488351232) (v1 : K.validL l1 = true) (v2 : K.validL l2 = true) (hn : 0 < K.numL l2) (ht : Tab w) :
    Calls Tryz.prog 122 #[.string (Str l1), .string (Str l2)] w (DivOk (K.numL l1 / K.numL l2) (K.numL l1 % K.numL l2) w) := by
  have g1 := fits_big (K.txt_numL l1 v1).2
  have g2 := fits_big (K.txt_numL l2 v2).2
  have hd : decide (0 < K.numL l2) = true := decide_eq_true hn
  have HD := hid hd
  have hr0 : 0 ≤ K.numL l1 % K.numL l2 := Int.emod_nonneg _ (by omega)
  have hr1 : K.numL l1 % K.numL l2 < K.numL l2 := Int.emod_lt_of_pos _ hn
  have hqb : (K.numL l1 / K.numL l2).natAbs ≤ BIG := Nat.le_trans (Int.natAbs_ediv_le_natAbs _ _) g1
  have hrb : (K.numL l1 % K.numL l2).natAbs ≤ BIG := by omega
  have HQ := hid hqb
  have HR := hid hrb
  clear hd hr0 hr1 hqb hrb
  go_enter Tryz.func122, Tryz.ntmps122
  go_wp2_with fail
  refine (both_ok l1 l2 w h1 h2 v1 v2).mono ?_
  rintro e w1 ⟨⟨y1, y2, rfl, ⟨z1, b1, rfl, hb1, hz1⟩, ⟨z2, b2, rfl, hb2, hz2⟩⟩, hx1⟩
  obtain ⟨A1, k1, c1, rfl⟩ := hz1.slice
  obtain ⟨A2, k2, c2, rfl⟩ := hz2.slice
  have hE : Ext w1 ((w1.alloc (.cells #[.bool b1, .slice A1 k1 c1] 157)).alloc (.cells #[.bool b2, .slice A2 k2 c2] 157)) := ((Ext.rfl' w1).alloc' _).alloc' _
  have n1 := (NumV.mk' hb1 hz1).ext hE
  have n2 := (NumV.mk' hb2 hz2).ext hE
  have hE2 := hx1.step hE
  clear hb1 hz1 hb2 hz2 hx1 hE
  go_wp2_with fail
  refine (positive_any _ _ _ n2).mono ?_
  rintro e w2 ⟨rfl, hx2⟩
  rw [HD.out]
  obtain ⟨f0, f1, f2, f3⟩ := boxes hx2
  go_wp2_with fail
  refine (ndivide_any _ _ _ _ _ (n1.ext hx2) (n2.ext hx2) g1 g2 hn).mono ?_
  rintro e w3 ⟨u1, u2, rfl, ⟨z3, b3, rfl, hb3, hz3⟩, ⟨z4, b4, rfl, hb4, hz4⟩, hx3⟩
  obtain ⟨A3, k3, c3, rfl⟩ := hz3.slice
  obtain ⟨A4, k4, c4, rfl⟩ := hz4.slice
  have hE3 := (hE2.step hx2).step hx3
  have hE4 : Ext w3 ((w3.alloc (.cells #[.bool b3, .slice A3 k3 c3] 157)).alloc (.cells #[.bool b4, .slice A4 k4 c4] 157)) := ((Ext.rfl' w3).alloc' _).alloc' _
  have n3 := (NumV.mk' hb3 hz3).ext hE4
  have n4 := (NumV.mk' hb4 hz4).ext hE4
  have ht4 := ht.ext (hE3.step hE4)
  have hk : ∀ w', Ext ((w3.alloc (.cells #[.bool b3, .slice A3 k3 c3] 157)).alloc (.cells #[.bool b4, .slice A4 k4 c4] 157)) w' → _ := fun w' e => boxes e
  have HK := hid hk
  have N3 := hid n3
  have N4 := hid n4
  have HT := hid ht4
  have HE := hid (hE3.step hE4)
  clear hk n3 n4 ht4 hE3 hE4 hE2 hx2 hx3 hz3 hz4 hb3 hb4 n1 n2 f0 f1 f2 f3 ht
  go_wp2_with fail
  go_region_held3 (fun w' => w'.cell? ⟨w3.heap.size, 0, none⟩ = some (.bool b3) ∧ w'.cell? ⟨w3.heap.size, 1, none⟩ = some (.slice A3 k3 c3) ∧ w'.cell? ⟨w3.heap.size + 1, 0, none⟩ = some (.bool b4) ∧ w'.cell? ⟨w3.heap.size + 1, 1, none⟩ = some (.slice A4 k4 c4))
    (first | go_keep | exact HK.out _ hxa | exact HK.out _ (hxa.step hx6))
    (first | (go_at_call_of 158 (Value.agg #[Value.bool b3, Value.slice A3 k3 c3]); refine (text_any _ _ _ (N3.out.ext ?_) HQ.out (HT.out.ext ?_)).mono ?_; exact (Ext.rfl' _).drew'; exact (Ext.rfl' _).drew'; rintro e w5 ⟨rfl, hx5⟩; have hxa := Ext.undrew hx5; clear hx5) | (go_at_call_of 158 (Value.agg #[Value.bool b4, Value.slice A4 k4 c4]); refine (text_any _ _ _ (N4.out.ext ?_) HR.out (HT.out.ext ?_)).mono ?_; exact hxa; exact hxa; rintro e w6 ⟨rfl, hx6⟩))
  go_wp2
  go_ret3
  exact ⟨rfl, (HE.out.step hxa).step hx6⟩
end Go.Proofs.YtleccblkafcidaaGreatDoor
/- katabasisref01.Valid -/
namespace Go.Proofs.YtleccblkafcidaaGreatDoor
open Go.RowKit
theorem Str_list (l : List UInt8) : (Str l).toList = l := Str_toList l
theorem ne_lit {c d : UInt8} (h : ¬ c = d) : ((c.toNat : Int) == (d.toNat : Int)) = false := by
  rw [beq_eq_false_iff_ne]; intro e; exact h (UInt8.toNat.inj (by omega))
/-- the loop over the digits from 'a' on -/
theorem all_drop {l : List UInt8} {a k : Nat} {c : UInt8} (hk : a ≤ k) (h : l[k]? = some c) (ha : ((l.take k).drop a).all K.dig = true) (hc : K.dig c = true) : ((l.take (k + 1)).drop a).all K.dig = true := by
  obtain ⟨hk', e⟩ := List.getElem?_eq_some_iff.1 h
  rw [List.take_succ_eq_append_getElem hk', e, List.drop_append_of_le_length (by rw [List.length_take]; omega), List.all_append, ha]
  simp [hc]
theorem all_drop_false {l : List UInt8} {a k : Nat} {c : UInt8} (hk : a ≤ k) (h : l[k]? = some c) (hc : K.dig c = false) : (l.drop a).all K.dig = false := by
  rw [List.all_eq_false]
  refine ⟨c, ?_, by simp [hc]⟩
  apply List.mem_of_getElem? (i := k - a)
  rw [List.getElem?_drop, show a + (k - a) = k by omega]
  exact h
theorem body_drop (l : List UInt8) : K.body l = l.drop (if l.head? = some 45 then 1 else 0) := by
  unfold K.body; split <;> simp
set_option maxRecDepth 100000 in
set_option maxHeartbeats 1600000 in
theorem rvalid_any (l : List UInt8) (w : World) (hl : l.length ≤ 140737488351232) :
    Calls Tryz.prog 23 #[.string (Str l)] w fun e w' => e = .returned (.bool (K.validL l)) ∧ w = w' := by
  have hv : K.validL l = (!(K.body l).isEmpty && decide ((K.body l).length ≤ 2000) && (if (K.body l).head? = some 48 then l == [48] else (K.body l).all K.dig)) := rfl
  have hS : (Str l).size = l.length := Str_size l
  have hT := Str_list l
  cases l with
  | nil =>
    have HVV : Hid (K.validL [] = false) := hid rfl
    clear hv hS hl
    go_enter Tryz.func23, Tryz.ntmps23
    go_wp2
    go_ret
    exact ⟨rfl, rfl⟩
  | cons c r =>
    obtain ⟨h0, e0⟩ := Str_at (l := c :: r) (i := 0) (c := c) rfl
    have hlen : (c :: r).length = r.length + 1 := rfl
    by_cases hc : c = 45
    · subst hc
      have hcc : ((((Str (45 :: r))[0]'h0).toNat : Int) == 45) = true := by rw [e0]; rfl
      have hb : K.body (45 :: r) = r := rfl
      rw [hb] at hv
      clear e0
      cases r with
      | nil =>
        have HVV : Hid (K.validL [45] = false) := hid rfl
        clear hv
        go_enter Tryz.func23, Tryz.ntmps23
        go_wp2
        go_ret
        exact ⟨by rw [HVV.out]; rfl, rfl⟩
      | cons d r =>
        obtain ⟨h1, e1⟩ := Str_at (l := 45 :: d :: r) (i := 1) (c := d) rfl
        have hlen2 : (45 :: d :: r).length = r.length + 1 + 1 := rfl
        by_cases hbig : r.length + 1 ≤ 2000
        · by_cases hd : d = 48
          · subst hd
            have HVV : Hid (K.validL (45 :: 48 :: r) = false) := by refine hid ?_; rw [hv]; simp
            have hdd : ((((Str (45 :: 48 :: r))[1]'h1).toNat : Int) == 48) = true := by rw [e1]; rfl
            clear hv e1
            go_enter Tryz.func23, Tryz.ntmps23
            go_wp2
            go_ret
            exact ⟨by rw [HVV.out]; rfl, rfl⟩
          · have hvv : K.validL (45 :: d :: r) = ((45 :: d :: r).drop 1).all K.dig := by
              rw [hv, if_neg (by simpa using hd)]
              simp only [List.isEmpty_cons, Bool.not_false, Bool.true_and, List.length_cons, hbig, decide_true]
              rfl
            have HVV := hid hvv
            have hdd : ((((Str (45 :: d :: r))[1]'h1).toNat : Int) == 48) = false := by
              rw [e1]; exact ne_lit hd
            clear hv e1 hd hvv
            go_enter Tryz.func23, Tryz.ntmps23
            go_wp2_with fail
            generalize hll : 45 :: d :: r = l at *
            have HVV : Hid (K.validL (45 :: d :: r) = (l.drop 1).all K.dig) := by rw [hll]; exact HVV
            generalize (Str l)[0]'h0 = x0 at *
            generalize (Str l)[1]'h1 = x1 at *
            have hpos : 1 ≤ l.length := by omega
            clear hll h0 hlen hlen2 hdd hcc hT h1 hb hbig
            go_loop [5] (fun i => ∃ k : Nat, 1 ≤ k ∧ k ≤ l.length ∧ i = .int .i64 k ∧ Hid (((l.take k).drop 1).all K.dig = true)) (fun i => l.length - (intOf i).toNat)
            case atStart => exact ⟨1, Nat.le_refl _, by omega, rfl, hid (by rw [List.drop_of_length_le (by rw [List.length_take]; omega)]; rfl)⟩
            case round =>
              obtain ⟨k, hk1, hk2, rfl, hall⟩ := hrel
              by_cases hlt : k < l.length
              · obtain ⟨x, ex⟩ : ∃ x, l[k]? = some x := ⟨_, List.getElem?_eq_getElem hlt⟩
                obtain ⟨hh, e0⟩ := Str_at ex
                have HX := hid ex
                clear ex
                by_cases hd1 : x.toNat < 48
                · have hf : (l.drop 1).all K.dig = false := all_drop_false hk1 HX.out (by unfold K.dig; simp; omega)
                  have HF := hid hf
                  have e1 : ((Str l)[k]'hh).toNat < 48 := by rw [e0]; exact hd1
                  clear hf e0
                  go_wp2
                  go_ret
                  exact ⟨by rw [HVV.out, HF.out]; rfl, rfl⟩
                · by_cases hd2 : 57 < x.toNat
                  · have hf : (l.drop 1).all K.dig = false := all_drop_false hk1 HX.out (by unfold K.dig; simp; omega)
                    have HF := hid hf
                    have e1 : ¬ ((Str l)[k]'hh).toNat < 48 := by rw [e0]; exact hd1
                    have e2 : 57 < ((Str l)[k]'hh).toNat := by rw [e0]; exact hd2
                    clear hf e0
                    go_wp2
                    go_ret
                    exact ⟨by rw [HVV.out, HF.out]; rfl, rfl⟩
                  · have hdg : Hid (K.dig x = true) := by unfold K.dig Hid; simp; omega
                    have e1 : ¬ ((Str l)[k]'hh).toNat < 48 := by rw [e0]; exact hd1
                    have e2 : ¬ 57 < ((Str l)[k]'hh).toNat := by rw [e0]; exact hd2
                    clear e0
                    go_wp2
                    go_round
                    case rel => exact ⟨k + 1, by omega, by omega, rfl, hid (all_drop hk1 HX.out hall.out hdg.out)⟩
                    case measure => simp [intOf]; omega
              · have hf : Hid ((l.drop 1).all K.dig = true) := by
                  have h := hall.out
                  rwa [List.take_of_length_le (by omega)] at h
                go_wp2
                go_ret
                exact ⟨by rw [HVV.out, hf.out]; rfl, rfl⟩
        · have HVV : Hid (K.validL (45 :: d :: r) = false) := by refine hid ?_; rw [hv]; simp; omega
          clear hv e1
          go_enter Tryz.func23, Tryz.ntmps23
          go_wp2
          go_ret
          exact ⟨by rw [HVV.out]; rfl, rfl⟩
    · have hcc : ((((Str (c :: r))[0]'h0).toNat : Int) == 45) = false := by
        rw [e0]; exact ne_lit hc
      have hb : K.body (c :: r) = c :: r := by unfold K.body; rw [if_neg (by simpa using hc)]
      rw [hb] at hv
      by_cases hbig : r.length + 1 ≤ 2000
      · by_cases hd : c = 48
        · subst hd
          have hdd : ((((Str (48 :: r))[0]'h0).toNat : Int) == 48) = true := by rw [e0]; rfl
          cases r with
          | nil =>
            have HVV : Hid (K.validL [48] = ([48].drop 0).all K.dig) := hid rfl
            clear hv e0 hc
            go_enter Tryz.func23, Tryz.ntmps23
            go_wp2_with fail
            generalize hll : [(48 : UInt8)] = l at *
            have HVV : Hid (K.validL ([(48 : UInt8)]) = (l.drop 0).all K.dig) := by rw [hll]; exact HVV
            generalize (Str l)[0]'h0 = x0 at *
            have hpos : 0 ≤ l.length := by omega
            clear hll h0 hlen hdd hcc hT hb hbig
            go_loop [5] (fun i => ∃ k : Nat, 0 ≤ k ∧ k ≤ l.length ∧ i = .int .i64 k ∧ Hid (((l.take k).drop 0).all K.dig = true)) (fun i => l.length - (intOf i).toNat)
            case atStart => exact ⟨0, Nat.le_refl _, by omega, rfl, hid (by rw [List.drop_of_length_le (by rw [List.length_take]; omega)]; rfl)⟩
            case round =>
              obtain ⟨k, hk1, hk2, rfl, hall⟩ := hrel
              by_cases hlt : k < l.length
              · obtain ⟨x, ex⟩ : ∃ x, l[k]? = some x := ⟨_, List.getElem?_eq_getElem hlt⟩
                obtain ⟨hh, e0⟩ := Str_at ex
                have HX := hid ex
                clear ex
                by_cases hd1 : x.toNat < 48
                · have hf : (l.drop 0).all K.dig = false := all_drop_false hk1 HX.out (by unfold K.dig; simp; omega)
                  have HF := hid hf
                  have e1 : ((Str l)[k]'hh).toNat < 48 := by rw [e0]; exact hd1
                  clear hf e0
                  go_wp2
                  go_ret
                  exact ⟨by rw [HVV.out, HF.out]; rfl, rfl⟩
                · by_cases hd2 : 57 < x.toNat
                  · have hf : (l.drop 0).all K.dig = false := all_drop_false hk1 HX.out (by unfold K.dig; simp; omega)
                    have HF := hid hf
                    have e1 : ¬ ((Str l)[k]'hh).toNat < 48 := by rw [e0]; exact hd1
                    have e2 : 57 < ((Str l)[k]'hh).toNat := by rw [e0]; exact hd2
                    clear hf e0
                    go_wp2
                    go_ret
                    exact ⟨by rw [HVV.out, HF.out]; rfl, rfl⟩
                  · have hdg : Hid (K.dig x = true) := by unfold K.dig Hid; simp; omega
                    have e1 : ¬ ((Str l)[k]'hh).toNat < 48 := by rw [e0]; exact hd1
                    have e2 : ¬ 57 < ((Str l)[k]'hh).toNat := by rw [e0]; exact hd2
                    clear e0
                    go_wp2
                    go_round
                    case rel => exact ⟨k + 1, by omega, by omega, rfl, hid (all_drop hk1 HX.out hall.out hdg.out)⟩
                    case measure => simp [intOf]; omega
              · have hf : Hid ((l.drop 0).all K.dig = true) := by
                  have h := hall.out
                  rwa [List.take_of_length_le (by omega)] at h
                go_wp2
                go_ret
                exact ⟨by rw [HVV.out, hf.out]; rfl, rfl⟩
          | cons d r =>
            have hbig2 : r.length + 1 + 1 ≤ 2000 := by simpa using hbig
            have HVV : Hid (K.validL (48 :: d :: r) = false) := by refine hid ?_; rw [hv]; simp
            clear hv e0 hc
            go_enter Tryz.func23, Tryz.ntmps23
            go_wp2
            go_ret
            exact ⟨by rw [HVV.out]; rfl, rfl⟩
        · have hvv : K.validL (c :: r) = ((c :: r).drop 0).all K.dig := by
            rw [hv, if_neg (by simpa using hd)]
            simp only [List.isEmpty_cons, Bool.not_false, Bool.true_and, List.length_cons, hbig, decide_true]
            rfl
          have HVV := hid hvv
          have hdd : ((((Str (c :: r))[0]'h0).toNat : Int) == 48) = false := by
            rw [e0]; exact ne_lit hd
          clear hv e0 hd hvv hc
          go_enter Tryz.func23, Tryz.ntmps23
          go_wp2_with fail
          generalize hll : c :: r = l at *
          have HVV : Hid (K.validL (c :: r) = (l.drop 0).all K.dig) := by rw [hll]; exact HVV
          generalize (Str l)[0]'h0 = x0 at *
          have hpos : 0 ≤ l.length := by omega
          clear hll h0 hlen hdd hcc hT hb hbig
          go_loop [5] (fun i => ∃ k : Nat, 0 ≤ k ∧ k ≤ l.length ∧ i = .int .i64 k ∧ Hid (((l.take k).drop 0).all K.dig = true)) (fun i => l.length - (intOf i).toNat)
          case atStart => exact ⟨0, Nat.le_refl _, by omega, rfl, hid (by rw [List.drop_of_length_le (by rw [List.length_take]; omega)]; rfl)⟩
          case round =>
            obtain ⟨k, hk1, hk2, rfl, hall⟩ := hrel
            by_cases hlt : k < l.length
            · obtain ⟨x, ex⟩ : ∃ x, l[k]? = some x := ⟨_, List.getElem?_eq_getElem hlt⟩
              obtain ⟨hh, e0⟩ := Str_at ex
              have HX := hid ex
              clear ex
              by_cases hd1 : x.toNat < 48
              · have hf : (l.drop 0).all K.dig = false := all_drop_false hk1 HX.out (by unfold K.dig; simp; omega)
                have HF := hid hf
                have e1 : ((Str l)[k]'hh).toNat < 48 := by rw [e0]; exact hd1
                clear hf e0
                go_wp2
                go_ret
                exact ⟨by rw [HVV.out, HF.out]; rfl, rfl⟩
              · by_cases hd2 : 57 < x.toNat
                · have hf : (l.drop 0).all K.dig = false := all_drop_false hk1 HX.out (by unfold K.dig; simp; omega)
                  have HF := hid hf
                  have e1 : ¬ ((Str l)[k]'hh).toNat < 48 := by rw [e0]; exact hd1
                  have e2 : 57 < ((Str l)[k]'hh).toNat := by rw [e0]; exact hd2
                  clear hf e0
                  go_wp2
                  go_ret
                  exact ⟨by rw [HVV.out, HF.out]; rfl, rfl⟩
                · have hdg : Hid (K.dig x = true) := by unfold K.dig Hid; simp; omega
                  have e1 : ¬ ((Str l)[k]'hh).toNat < 48 := by rw [e0]; exact hd1
                  have e2 : ¬ 57 < ((Str l)[k]'hh).toNat := by rw [e0]; exact hd2
                  clear e0
                  go_wp2
                  go_round
                  case rel => exact ⟨k + 1, by omega, by omega, rfl, hid (all_drop hk1 HX.out hall.out hdg.out)⟩
                  case measure => simp [intOf]; omega
            · have hf : Hid ((l.drop 0).all K.dig = true) := by
                have h := hall.out
                rwa [List.take_of_length_le (by omega)] at h
              go_wp2
              go_ret
              exact ⟨by rw [HVV.out, hf.out]; rfl, rfl⟩
      · have HVV : Hid (K.validL (c :: r) = false) := by refine hid ?_; rw [hv]; simp; omega
        clear hv e0 hc
        go_enter Tryz.func23, Tryz.ntmps23
        go_wp2
        go_ret
        exact ⟨by rw [HVV.out]; rfl, rfl⟩
end Go.Proofs.YtleccblkafcidaaGreatDoor
/- the law package's helpers: texts of numbers, Power at two inputs -/
namespace Go.Proofs.YtleccblkafcidaaGreatDoor
open Go.RowKit
def told (n : Int) : List UInt8 := if n.natAbs < K.LIM then K.txt n else []
theorem told_fits {n : Int} (h : K.fits n) : told n = K.txt n := if_pos h
theorem told_not {n : Int} (h : ¬ K.fits n) : told n = [] := if_neg h
theorem told_len (n : Int) : (told n).length ≤ 2001 := by
  by_cases h : K.fits n
  · rw [told_fits h]; exact K.txt_len n h
  · rw [told_not h]; simp
def sL (a b : List UInt8) : List UInt8 := if K.validL a = true ∧ K.validL b = true then told (K.numL a + K.numL b) else []
def mL (a b : List UInt8) : List UInt8 := if K.validL a = true ∧ K.validL b = true then told (K.numL a * K.numL b) else []
theorem sL_len (a b : List UInt8) : (sL a b).length ≤ 2001 := by unfold sL; split; exact told_len _; simp
theorem mL_len (a b : List UInt8) : (mL a b).length ≤ 2001 := by unfold mL; split; exact told_len _; simp
theorem not_both {a b : List UInt8} (h : ¬ (K.validL a = true ∧ K.validL b = true)) : K.validL a = false ∨ K.validL b = false := by
  cases h1 : K.validL a <;> cases h2 : K.validL b <;> simp_all
theorem told_any (n : Int) (w : World) {e : Ending} {w' : World} (h : ToldPost n w e w') : ∃ c : Int, e = .returned (.tuple #[.string (Str (told n)), .int .i64 c]) := by
  by_cases hf : K.fits n
  · exact ⟨0, by rw [told_fits hf]; exact h.1 hf⟩
  · exact ⟨3, by rw [told_not hf]; exact h.2.1 hf⟩
def tw (k : Nat) : Nat := 2 ^ k
theorem natAbs_two (k : Nat) : ((2 : Int) ^ k).natAbs = tw k := by unfold tw; rw [Int.natAbs_pow]; rfl
theorem tw_big : K.LIM ≤ tw 10000 := by decide +kernel
theorem not_fits_tw : ¬ K.fits ((2 : Int) ^ 10000) := by
  unfold K.fits; rw [natAbs_two]; exact Nat.not_lt.mpr tw_big
def L100 : List UInt8 := [49, 50, 54, 55, 54, 53, 48, 54, 48, 48, 50, 50, 56, 50, 50, 57, 52, 48, 49, 52, 57, 54, 55, 48, 51, 50, 48, 53, 51, 55, 54]
theorem L100_ok : K.validL L100 = true := by decide +kernel
theorem L100_num : K.numL L100 = (2 : Int) ^ 100 := by decide +kernel
theorem lit_eq {l : List UInt8} {n : Int} (h : K.validL l = true) (e : K.numL l = n) : K.fits n ∧ K.txt n = l := by
  subst e; exact ⟨(K.txt_numL l h).2, (K.txt_numL l h).1⟩
end Go.Proofs.YtleccblkafcidaaGreatDoor
/- maps: plain mathematics -/
namespace Go.Proofs.YtleccblkafcidaaGreatDoor
/-- a rule of a map, at the rest r -/
def ruleP (m r u a : Int) : Prop := 1 ≤ u ∧ u ≤ 999 ∧ -999999 ≤ a ∧ a ≤ 999999 ∧ (u * r + a) % m = 0
instance (n : Int) : Decidable (K.fits n) := by unfold K.fits; infer_instance
instance (m r u a : Int) : Decidable (ruleP m r u a) := by unfold ruleP; infer_instance
def ruleB (m r u a : Int) : Bool := decide (ruleP m r u a)
/-- a valid map -/
def mapP (m : Int) (us ad : List Int) : Prop := 2 ≤ m ∧ m ≤ 12 ∧ (us.length : Int) = m ∧ (ad.length : Int) = m ∧ ∀ r : Nat, r < us.length → ruleP m r (us.getD r 0) (ad.getD r 0)
def mapB (m : Int) (us ad : List Int) : Bool := decide (2 ≤ m ∧ m ≤ 12 ∧ (us.length : Int) = m ∧ (ad.length : Int) = m) && (List.range us.length).all fun r => ruleB m (r : Int) (us.getD r 0) (ad.getD r 0)
theorem mapB_iff (m : Int) (us ad : List Int) : mapB m us ad = true ↔ mapP m us ad := by
  unfold mapB mapP ruleB
  simp only [Bool.and_eq_true, decide_eq_true_eq, List.all_eq_true, List.mem_range]
  constructor
  · rintro ⟨⟨h1, h2, h3, h4⟩, h5⟩; exact ⟨h1, h2, h3, h4, fun r hr => h5 r hr⟩
  · rintro ⟨h1, h2, h3, h4, h5⟩; exact ⟨⟨h1, h2, h3, h4⟩, fun r hr => h5 r hr⟩
theorem tmod_zero {x m : Int} : x.tmod m = 0 ↔ x % m = 0 := by
  rw [← Int.dvd_iff_tmod_eq_zero, Int.dvd_iff_emod_eq_zero]
/-- a step of a map -/
def rOf (m x : Int) : Nat := (x % m).toNat
def stepI (m : Int) (us ad : List Int) (x : Int) : Int := (us.getD (rOf m x) 0 * x + ad.getD (rOf m x) 0) / m
theorem rOf_lt {m x : Int} (h : 0 < m) : (rOf m x : Int) < m ∧ (rOf m x : Int) = x % m := by
  have h1 := Int.emod_nonneg x (show m ≠ 0 by omega)
  have h2 := Int.emod_lt_of_pos x h
  unfold rOf; omega
theorem rule_at {m : Int} {us ad : List Int} (h : mapP m us ad) (x : Int) : ruleP m (rOf m x) (us.getD (rOf m x) 0) (ad.getD (rOf m x) 0) := by
  have h1 := rOf_lt (m := m) (x := x) (by have := h.1; omega)
  exact h.2.2.2.2 _ (by have := h.2.2.1; omega)
/-- the step, by the quotient and the rest -/
theorem stepI_parts {m : Int} {us ad : List Int} (h : mapP m us ad) (x : Int) :
    stepI m us ad x = us.getD (rOf m x) 0 * (x / m) + (us.getD (rOf m x) 0 * (rOf m x : Int) + ad.getD (rOf m x) 0) / m := by
  have hm : 0 < m := by have := h.1; omega
  have h1 := (rOf_lt (m := m) (x := x) hm).2
  unfold stepI
  generalize us.getD (rOf m x) 0 = u
  generalize ad.getD (rOf m x) 0 = a
  rw [h1]
  have h2 : u * x + a = (u * (x % m) + a) + m * (u * (x / m)) := by
    have := Int.mul_ediv_add_emod x m
    have h3 : u * x = u * (m * (x / m)) + u * (x % m) := by rw [← Int.mul_add, this]
    have h4 : u * (m * (x / m)) = m * (u * (x / m)) := by rw [← Int.mul_assoc, Int.mul_comm u m, Int.mul_assoc]
    rw [h3, h4]; omega
  rw [h2, Int.add_mul_ediv_left _ _ (by omega)]
  omega
def fitsB (n : Int) : Bool := decide (K.fits n)
theorem fitsB_yes {n : Int} (h : K.fits n) : fitsB n = true := decide_eq_true h
theorem fitsB_no {n : Int} (h : ¬ K.fits n) : fitsB n = false := decide_eq_false h
theorem fitsB_iff {n : Int} : fitsB n = true ↔ K.fits n := decide_eq_true_iff
/-- the number after some steps, if all of them fit -/
def runO (m : Int) (us ad : List Int) : Nat → Int → Option Int
  | 0, x => some x
  | k + 1, x => if fitsB (stepI m us ad x) = true then runO m us ad k (stepI m us ad x) else none
theorem runO_succ {m : Int} {us ad : List Int} {k : Nat} {x : Int} : runO m us ad (k + 1) x = if fitsB (stepI m us ad x) = true then runO m us ad k (stepI m us ad x) else none := rfl
theorem runO_add (m : Int) (us ad : List Int) : ∀ (k l : Nat) (x : Int), runO m us ad (k + l) x = (runO m us ad k x).bind (runO m us ad l)
  | 0, l, x => by rw [Nat.zero_add]; rfl
  | k + 1, l, x => by
    rw [show k + 1 + l = k + l + 1 by omega, runO_succ, runO_succ]
    split
    · exact runO_add m us ad k l _
    · rfl
theorem runO_snoc (m : Int) (us ad : List Int) (k : Nat) (x : Int) : runO m us ad (k + 1) x = (runO m us ad k x).bind fun y => if fitsB (stepI m us ad y) = true then some (stepI m us ad y) else none := by
  rw [runO_add]; rfl
theorem runO_fits {m : Int} {us ad : List Int} (k : Nat) : ∀ (x y : Int), K.fits x → runO m us ad k x = some y → K.fits y := by
  induction k with
  | zero =>
    intro x y hx h
    have h2 : some x = some y := h
    rw [Option.some.inj h2] at hx
    exact hx
  | succ k ih =>
    intro x y _ h
    rw [runO_succ] at h
    by_cases hf : fitsB (stepI m us ad x) = true
    · rw [if_pos hf] at h
      exact ih _ _ (fitsB_iff.1 hf) h
    · rw [if_neg hf] at h
      exact absurd h (by simp)
/-- the quotient outweighs what is added -/
theorem sum_mono {u q c : Int} (hu : 1 ≤ u) (hq : 2 * c.natAbs ≤ q.natAbs) : ((u - 1) * q).natAbs ≤ (u * q + c).natAbs ∧ ((u - 1) * q + c).natAbs ≤ (u * q + c).natAbs := by
  have e : u * q = (u - 1) * q + q := by rw [Int.sub_mul]; omega
  rw [e]
  obtain ⟨v, hv⟩ := Int.eq_ofNat_of_zero_le (show 0 ≤ u - 1 by omega)
  rw [hv]
  generalize hp : (v : Int) * q = p
  have hs : 0 ≤ q → 0 ≤ p := fun h => by rw [← hp]; exact Int.mul_nonneg (by omega) h
  have hs2 : q ≤ 0 → p ≤ 0 := fun h => by rw [← hp]; exact Int.mul_nonpos_of_nonneg_of_nonpos (by omega) h
  rcases Int.le_total 0 q with h | h
  · have := hs h; omega
  · have := hs2 h; omega
end Go.Proofs.YtleccblkafcidaaGreatDoor
/- Contracts of the library, laid over this dump's numbers. -/
namespace Go.Proofs.YtleccblkafcidaaGreatDoor.ShelfB
open Go.Shelf Go.Proofs
def l_lays172_ren : Go.Shelf.Ren := ⟨fun | 172 => 245 | 244 => 252 | 245 => 251 | 247 => 250 | 279 => 254 | 280 => 255 | 281 => 256 | 282 => 257 | 287 => 253 | 316 => 260 | 171 => 124 | 205 => 261 | 321 => 258 | 322 => 259 | 243 => 160 | 246 => 176 | 283 => 214 | 284 => 215 | 285 => 216 | 286 => 217 | 129 => 175 | 317 => 232 | 318 => 233 | 319 => 234 | 320 => 235 | 337 => 247 | 338 => 248 | n => n, fun | 9 => 9 | 3 => 3 | 75 => 278 | 76 => 281 | 4 => 4 | 5 => 5 | 167 => 288 | 37 => 141 | 0 => 0 | 85 => 279 | 2 => 2 | 168 => 291 | 53 => 160 | 175 => 289 | 46 => 182 | 210 => 297 | 127 => 299 | 145 => 302 | 143 => 300 | 21 => 21 | 171 => 253 | 173 => 255 | 212 => 268 | 51 => 222 | 20 => 20 | 213 => 269 | 232 => 286 | 233 => 287 | 80 => 204 | n => n, fun | 15 => 3 | 16 => 4 | 17 => 0 | 18 => 1 | 19 => 2 | n => n⟩
theorem l_lays172 : Go.Proofs.Lays.n172 Tryz.prog l_lays172_ren := {
  mixed := by kernel_rfl
  f129 := Tryz.func175.trans (congrArg some (by kernel_rfl))
  f171 := Tryz.func124.trans (congrArg some (by kernel_rfl))
  f172 := Tryz.func245.trans (congrArg some (by kernel_rfl))
  f205 := Tryz.func261.trans (congrArg some (by kernel_rfl))
  f243 := Tryz.func160.trans (congrArg some (by kernel_rfl))
  f244 := Tryz.func252.trans (congrArg some (by kernel_rfl))
  f245 := Tryz.func251.trans (congrArg some (by kernel_rfl))
  f246 := Tryz.func176.trans (congrArg some (by kernel_rfl))
  f247 := Tryz.func250.trans (congrArg some (by kernel_rfl))
  f279 := Tryz.func254.trans (congrArg some (by kernel_rfl))
  f280 := Tryz.func255.trans (congrArg some (by kernel_rfl))
  f281 := Tryz.func256.trans (congrArg some (by kernel_rfl))
  f282 := Tryz.func257.trans (congrArg some (by kernel_rfl))
  f283 := Tryz.func214.trans (congrArg some (by kernel_rfl))
  f284 := Tryz.func215.trans (congrArg some (by kernel_rfl))
  f285 := Tryz.func216.trans (congrArg some (by kernel_rfl))
  f286 := Tryz.func217.trans (congrArg some (by kernel_rfl))
  f287 := Tryz.func253.trans (congrArg some (by kernel_rfl))
  f316 := Tryz.func260.trans (congrArg some (by kernel_rfl))
  f317 := Tryz.func232.trans (congrArg some (by kernel_rfl))
  f318 := Tryz.func233.trans (congrArg some (by kernel_rfl))
  f319 := Tryz.func234.trans (congrArg some (by kernel_rfl))
  f320 := Tryz.func235.trans (congrArg some (by kernel_rfl))
  f321 := Tryz.func258.trans (congrArg some (by kernel_rfl))
  f322 := Tryz.func259.trans (congrArg some (by kernel_rfl))
  f337 := Tryz.func247.trans (congrArg some (by kernel_rfl))
  f338 := Tryz.func248.trans (congrArg some (by kernel_rfl))
  t0 := Tryz.underlying0
  a0 := Tryz.isAgg0
  z0 := Tryz.sizeOf0
  v0 := Tryz.zeroValue0
  t2 := Tryz.underlying2
  a2 := Tryz.isAgg2
  z2 := Tryz.sizeOf2
  v2 := Tryz.zeroValue2
  t3 := Tryz.underlying3
  a3 := Tryz.isAgg3
  z3 := Tryz.sizeOf3
  v3 := Tryz.zeroValue3
  t4 := Tryz.underlying4
  a4 := Tryz.isAgg4
  z4 := Tryz.sizeOf4
  v4 := Tryz.zeroValue4
  t5 := Tryz.underlying5
  a5 := Tryz.isAgg5
  z5 := Tryz.sizeOf5
  v5 := Tryz.zeroValue5
  t9 := Tryz.underlying9
  a9 := Tryz.isAgg9
  z9 := Tryz.sizeOf9
  v9 := Tryz.zeroValue9
  t20 := Tryz.underlying20
  a20 := Tryz.isAgg20
  z20 := Tryz.sizeOf20
  v20 := Tryz.zeroValue20
  t21 := Tryz.underlying21
  a21 := Tryz.isAgg21
  z21 := Tryz.sizeOf21
  v21 := Tryz.zeroValue21
  t37 := Tryz.underlying141
  a37 := Tryz.isAgg141
  z37 := Tryz.sizeOf141
  v37 := Tryz.zeroValue141
  t46 := Tryz.underlying182
  a46 := Tryz.isAgg182
  z46 := Tryz.sizeOf182
  v46 := Tryz.zeroValue182
  t51 := Tryz.underlying222
  a51 := Tryz.isAgg222
  z51 := Tryz.sizeOf222
  v51 := Tryz.zeroValue222
  t53 := Tryz.underlying160
  a53 := Tryz.isAgg160
  z53 := Tryz.sizeOf160
  v53 := Tryz.zeroValue160
  t75 := Tryz.underlying278
  a75 := Tryz.isAgg278
  z75 := Tryz.sizeOf278
  v75 := Tryz.zeroValue278
  t76 := Tryz.underlying281
  a76 := Tryz.isAgg281
  z76 := Tryz.sizeOf281
  v76 := Tryz.zeroValue281
  t85 := Tryz.underlying279
  a85 := Tryz.isAgg279
  z85 := Tryz.sizeOf279
  v85 := Tryz.zeroValue279
  t127 := Tryz.underlying299
  a127 := Tryz.isAgg299
  z127 := Tryz.sizeOf299
  v127 := Tryz.zeroValue299
  t143 := Tryz.underlying300
  a143 := Tryz.isAgg300
  z143 := Tryz.sizeOf300
  v143 := Tryz.zeroValue300
  t145 := Tryz.underlying302
  a145 := Tryz.isAgg302
  z145 := Tryz.sizeOf302
  v145 := Tryz.zeroValue302
  t167 := Tryz.underlying288
  a167 := Tryz.isAgg288
  z167 := Tryz.sizeOf288
  v167 := Tryz.zeroValue288
  t168 := Tryz.underlying291
  a168 := Tryz.isAgg291
  z168 := Tryz.sizeOf291
  v168 := Tryz.zeroValue291
  t171 := Tryz.underlying253
  a171 := Tryz.isAgg253
  z171 := Tryz.sizeOf253
  v171 := Tryz.zeroValue253
  t173 := Tryz.underlying255
  a173 := Tryz.isAgg255
  z173 := Tryz.sizeOf255
  v173 := Tryz.zeroValue255
  t175 := Tryz.underlying289
  a175 := Tryz.isAgg289
  z175 := Tryz.sizeOf289
  v175 := Tryz.zeroValue289
  t210 := Tryz.underlying297
  a210 := Tryz.isAgg297
  z210 := Tryz.sizeOf297
  v210 := Tryz.zeroValue297
  t212 := Tryz.underlying268
  a212 := Tryz.isAgg268
  z212 := Tryz.sizeOf268
  v212 := Tryz.zeroValue268
  t213 := Tryz.underlying269
  a213 := Tryz.isAgg269
  z213 := Tryz.sizeOf269
  t232 := Tryz.underlying286
  a232 := Tryz.isAgg286
  z232 := Tryz.sizeOf286
  v232 := Tryz.zeroValue286
  t233 := Tryz.underlying287
  a233 := Tryz.isAgg287
  z233 := Tryz.sizeOf287
  v233 := Tryz.zeroValue287
  g15 := by kernel_rfl
  g16 := by kernel_rfl
  g17 := by kernel_rfl
  g18 := by kernel_rfl
  g19 := by kernel_rfl }
open Go.RowKit in
theorem l_strconv_Atoi (s : ByteArray) (n : Int) (hl : s.size ≤ 18) (h : Lib.atoi s.data.toList = some n) (w : World) :
    Calls Tryz.prog 245 #[.string s] w fun e w' => e = .returned (.tuple #[.int .i64 n, .nilIface]) ∧ ∃ t, w' = Lib.bytesWorld w 5 t := Any.strconv_Atoi l_lays172 s n hl h w
def l_laysM171_ren : Go.Shelf.Ren := ⟨fun | 171 => 124 | 243 => 160 | 246 => 176 | 283 => 214 | 284 => 215 | 285 => 216 | 286 => 217 | 129 => 175 | 317 => 232 | 318 => 233 | 319 => 234 | 320 => 235 | 337 => 247 | 338 => 248 | n => n, fun | 3 => 3 | 9 => 9 | 2 => 2 | 4 => 4 | 171 => 253 | 0 => 0 | 53 => 160 | 37 => 141 | 5 => 5 | 173 => 255 | 212 => 268 | 51 => 222 | 20 => 20 | 213 => 269 | 46 => 182 | 232 => 286 | 233 => 287 | n => n, fun | 17 => 0 | 18 => 1 | 19 => 2 | n => n⟩
theorem l_laysM171 : Go.Proofs.LaysM.n171 Tryz.prog l_laysM171_ren := {
  mixed := by kernel_rfl
  f129 := Tryz.func175.trans (congrArg some (by kernel_rfl))
  f171 := Tryz.func124.trans (congrArg some (by kernel_rfl))
  f243 := Tryz.func160.trans (congrArg some (by kernel_rfl))
  f246 := Tryz.func176.trans (congrArg some (by kernel_rfl))
  f283 := Tryz.func214.trans (congrArg some (by kernel_rfl))
  f284 := Tryz.func215.trans (congrArg some (by kernel_rfl))
  f285 := Tryz.func216.trans (congrArg some (by kernel_rfl))
  f286 := Tryz.func217.trans (congrArg some (by kernel_rfl))
  f317 := Tryz.func232.trans (congrArg some (by kernel_rfl))
  f318 := Tryz.func233.trans (congrArg some (by kernel_rfl))
  f319 := Tryz.func234.trans (congrArg some (by kernel_rfl))
  f320 := Tryz.func235.trans (congrArg some (by kernel_rfl))
  f337 := Tryz.func247.trans (congrArg some (by kernel_rfl))
  f338 := Tryz.func248.trans (congrArg some (by kernel_rfl))
  t0 := Tryz.underlying0
  a0 := Tryz.isAgg0
  z0 := Tryz.sizeOf0
  v0 := Tryz.zeroValue0
  t2 := Tryz.underlying2
  a2 := Tryz.isAgg2
  z2 := Tryz.sizeOf2
  v2 := Tryz.zeroValue2
  t3 := Tryz.underlying3
  a3 := Tryz.isAgg3
  z3 := Tryz.sizeOf3
  v3 := Tryz.zeroValue3
  t4 := Tryz.underlying4
  a4 := Tryz.isAgg4
  z4 := Tryz.sizeOf4
  v4 := Tryz.zeroValue4
  t5 := Tryz.underlying5
  a5 := Tryz.isAgg5
  z5 := Tryz.sizeOf5
  v5 := Tryz.zeroValue5
  t9 := Tryz.underlying9
  a9 := Tryz.isAgg9
  z9 := Tryz.sizeOf9
  v9 := Tryz.zeroValue9
  t20 := Tryz.underlying20
  a20 := Tryz.isAgg20
  z20 := Tryz.sizeOf20
  v20 := Tryz.zeroValue20
  t37 := Tryz.underlying141
  a37 := Tryz.isAgg141
  z37 := Tryz.sizeOf141
  v37 := Tryz.zeroValue141
  t46 := Tryz.underlying182
  a46 := Tryz.isAgg182
  z46 := Tryz.sizeOf182
  v46 := Tryz.zeroValue182
  t51 := Tryz.underlying222
  a51 := Tryz.isAgg222
  z51 := Tryz.sizeOf222
  v51 := Tryz.zeroValue222
  t53 := Tryz.underlying160
  a53 := Tryz.isAgg160
  z53 := Tryz.sizeOf160
  v53 := Tryz.zeroValue160
  t171 := Tryz.underlying253
  a171 := Tryz.isAgg253
  z171 := Tryz.sizeOf253
  v171 := Tryz.zeroValue253
  t173 := Tryz.underlying255
  a173 := Tryz.isAgg255
  z173 := Tryz.sizeOf255
  v173 := Tryz.zeroValue255
  t212 := Tryz.underlying268
  a212 := Tryz.isAgg268
  z212 := Tryz.sizeOf268
  v212 := Tryz.zeroValue268
  t213 := Tryz.underlying269
  a213 := Tryz.isAgg269
  z213 := Tryz.sizeOf269
  t232 := Tryz.underlying286
  a232 := Tryz.isAgg286
  z232 := Tryz.sizeOf286
  v232 := Tryz.zeroValue286
  t233 := Tryz.underlying287
  a233 := Tryz.isAgg287
  z233 := Tryz.sizeOf287
  v233 := Tryz.zeroValue287
  g17 := by kernel_rfl
  g18 := by kernel_rfl
  g19 := by kernel_rfl
  i0 := by kernel_rfl
  i2 := by kernel_rfl
  i3 := by kernel_rfl
  i4 := by kernel_rfl
  i5 := by kernel_rfl
  i9 := by kernel_rfl
  i20 := by kernel_rfl
  i37 := by kernel_rfl
  i46 := by kernel_rfl
  i51 := by kernel_rfl
  i53 := by kernel_rfl
  i171 := by kernel_rfl
  i173 := by kernel_rfl
  i212 := by kernel_rfl
  i232 := by kernel_rfl
  i233 := by kernel_rfl
  m17 := by kernel_rfl
  m18 := by kernel_rfl
  m19 := by kernel_rfl }
open Go.RowKit Go.Sort Go.Lib in
theorem l_strconv_Itoa (n : Int) (h0 : -9223372036854775808 ≤ n) (h1 : n ≤ 9223372036854775807) (w : World) (htab : Lib.TabIs Tryz.prog w "internal/strconv.uint64pow10" .u64 Lib.pow10Tab) :
    Calls Tryz.prog 124 #[.int .i64 n] w fun e w' => e = .returned (.string ⟨(Lib.itoa n).toArray⟩) ∧ ∃ k os, w' = grow (w.drewN k) os := Any.strconv_Itoa l_laysM171 n h0 h1 w htab
def l_laysM173_ren : Go.Shelf.Ren := ⟨fun | 173 => 138 | 246 => 176 | 283 => 214 | 284 => 215 | 285 => 216 | 286 => 217 | 129 => 175 | 317 => 232 | 318 => 233 | 319 => 234 | 320 => 235 | 337 => 247 | 338 => 248 | n => n, fun | 2 => 2 | 3 => 3 | 9 => 9 | 4 => 4 | 171 => 253 | 0 => 0 | 53 => 160 | 37 => 141 | 5 => 5 | 173 => 255 | 212 => 268 | 51 => 222 | 20 => 20 | 213 => 269 | 46 => 182 | 232 => 286 | 233 => 287 | n => n, fun | 17 => 0 | 18 => 1 | 19 => 2 | n => n⟩
theorem l_laysM173 : Go.Proofs.LaysM.n173 Tryz.prog l_laysM173_ren := {
  mixed := by kernel_rfl
  f129 := Tryz.func175.trans (congrArg some (by kernel_rfl))
  f173 := Tryz.func138.trans (congrArg some (by kernel_rfl))
  f246 := Tryz.func176.trans (congrArg some (by kernel_rfl))
  f283 := Tryz.func214.trans (congrArg some (by kernel_rfl))
  f284 := Tryz.func215.trans (congrArg some (by kernel_rfl))
  f285 := Tryz.func216.trans (congrArg some (by kernel_rfl))
  f286 := Tryz.func217.trans (congrArg some (by kernel_rfl))
  f317 := Tryz.func232.trans (congrArg some (by kernel_rfl))
  f318 := Tryz.func233.trans (congrArg some (by kernel_rfl))
  f319 := Tryz.func234.trans (congrArg some (by kernel_rfl))
  f320 := Tryz.func235.trans (congrArg some (by kernel_rfl))
  f337 := Tryz.func247.trans (congrArg some (by kernel_rfl))
  f338 := Tryz.func248.trans (congrArg some (by kernel_rfl))
  t0 := Tryz.underlying0
  a0 := Tryz.isAgg0
  z0 := Tryz.sizeOf0
  v0 := Tryz.zeroValue0
  t2 := Tryz.underlying2
  a2 := Tryz.isAgg2
  z2 := Tryz.sizeOf2
  v2 := Tryz.zeroValue2
  t3 := Tryz.underlying3
  a3 := Tryz.isAgg3
  z3 := Tryz.sizeOf3
  v3 := Tryz.zeroValue3
  t4 := Tryz.underlying4
  a4 := Tryz.isAgg4
  z4 := Tryz.sizeOf4
  v4 := Tryz.zeroValue4
  t5 := Tryz.underlying5
  a5 := Tryz.isAgg5
  z5 := Tryz.sizeOf5
  v5 := Tryz.zeroValue5
  t9 := Tryz.underlying9
  a9 := Tryz.isAgg9
  z9 := Tryz.sizeOf9
  v9 := Tryz.zeroValue9
  t20 := Tryz.underlying20
  a20 := Tryz.isAgg20
  z20 := Tryz.sizeOf20
  v20 := Tryz.zeroValue20
  t37 := Tryz.underlying141
  a37 := Tryz.isAgg141
  z37 := Tryz.sizeOf141
  v37 := Tryz.zeroValue141
  t46 := Tryz.underlying182
  a46 := Tryz.isAgg182
  z46 := Tryz.sizeOf182
  v46 := Tryz.zeroValue182
  t51 := Tryz.underlying222
  a51 := Tryz.isAgg222
  z51 := Tryz.sizeOf222
  v51 := Tryz.zeroValue222
  t53 := Tryz.underlying160
  a53 := Tryz.isAgg160
  z53 := Tryz.sizeOf160
  v53 := Tryz.zeroValue160
  t171 := Tryz.underlying253
  a171 := Tryz.isAgg253
  z171 := Tryz.sizeOf253
  v171 := Tryz.zeroValue253
  t173 := Tryz.underlying255
  a173 := Tryz.isAgg255
  z173 := Tryz.sizeOf255
  v173 := Tryz.zeroValue255
  t212 := Tryz.underlying268
  a212 := Tryz.isAgg268
  z212 := Tryz.sizeOf268
  v212 := Tryz.zeroValue268
  t213 := Tryz.underlying269
  a213 := Tryz.isAgg269
  z213 := Tryz.sizeOf269
  t232 := Tryz.underlying286
  a232 := Tryz.isAgg286
  z232 := Tryz.sizeOf286
  v232 := Tryz.zeroValue286
  t233 := Tryz.underlying287
  a233 := Tryz.isAgg287
  z233 := Tryz.sizeOf287
  v233 := Tryz.zeroValue287
  g17 := by kernel_rfl
  g18 := by kernel_rfl
  g19 := by kernel_rfl
  i0 := by kernel_rfl
  i2 := by kernel_rfl
  i3 := by kernel_rfl
  i4 := by kernel_rfl
  i5 := by kernel_rfl
  i9 := by kernel_rfl
  i20 := by kernel_rfl
  i37 := by kernel_rfl
  i46 := by kernel_rfl
  i51 := by kernel_rfl
  i53 := by kernel_rfl
  i171 := by kernel_rfl
  i173 := by kernel_rfl
  i212 := by kernel_rfl
  i232 := by kernel_rfl
  i233 := by kernel_rfl
  m17 := by kernel_rfl
  m18 := by kernel_rfl
  m19 := by kernel_rfl }
open Go.RowKit Go.Sort Go.Lib in
theorem l_strconv_FormatInt_10 (n : Int) (h0 : -9223372036854775808 ≤ n) (h1 : n ≤ 9223372036854775807) (w : World) (htab : Lib.TabIs Tryz.prog w "internal/strconv.uint64pow10" .u64 Lib.pow10Tab) :
    Calls Tryz.prog 138 #[.int .i64 n, .int .i64 10] w fun e w' => e = .returned (.string ⟨(Lib.itoa n).toArray⟩) ∧ ∃ k os, w' = grow (w.drewN k) os := Any.strconv_FormatInt_10 l_laysM173 n h0 h1 w htab
def l_laysC174_ren : Go.Shelf.Ren := ⟨fun | 174 => 244 | 247 => 250 | 245 => 251 | 287 => 253 | 279 => 254 | 280 => 255 | 281 => 256 | 282 => 257 | 321 => 258 | 322 => 259 | 316 => 260 | 171 => 124 | 205 => 261 | 243 => 160 | 246 => 176 | 283 => 214 | 284 => 215 | 285 => 216 | 286 => 217 | 129 => 175 | 317 => 232 | 318 => 233 | 319 => 234 | 320 => 235 | 337 => 247 | 338 => 248 | n => n, fun | 9 => 9 | 3 => 3 | 2 => 2 | 75 => 278 | 85 => 279 | 4 => 4 | 167 => 288 | 5 => 5 | 53 => 160 | 175 => 289 | 46 => 182 | 168 => 291 | 37 => 141 | 0 => 0 | 210 => 297 | 21 => 21 | 127 => 299 | 145 => 302 | 143 => 300 | 171 => 253 | 173 => 255 | 212 => 268 | 51 => 222 | 20 => 20 | 213 => 269 | 232 => 286 | 233 => 287 | 80 => 204 | n => n, fun | 15 => 3 | 16 => 4 | 17 => 0 | 18 => 1 | 19 => 2 | n => n⟩
theorem l_laysC174 : Go.Proofs.LaysC.n174 Tryz.prog l_laysC174_ren := {
  mixed := by kernel_rfl
  f129 := Tryz.func175.trans (congrArg some (by kernel_rfl))
  f171 := Tryz.func124.trans (congrArg some (by kernel_rfl))
  f174 := Tryz.func244.trans (congrArg some (by kernel_rfl))
  f205 := Tryz.func261.trans (congrArg some (by kernel_rfl))
  f243 := Tryz.func160.trans (congrArg some (by kernel_rfl))
  f245 := Tryz.func251.trans (congrArg some (by kernel_rfl))
  f246 := Tryz.func176.trans (congrArg some (by kernel_rfl))
  f247 := Tryz.func250.trans (congrArg some (by kernel_rfl))
  f279 := Tryz.func254.trans (congrArg some (by kernel_rfl))
  f280 := Tryz.func255.trans (congrArg some (by kernel_rfl))
  f281 := Tryz.func256.trans (congrArg some (by kernel_rfl))
  f282 := Tryz.func257.trans (congrArg some (by kernel_rfl))
  f283 := Tryz.func214.trans (congrArg some (by kernel_rfl))
  f284 := Tryz.func215.trans (congrArg some (by kernel_rfl))
  f285 := Tryz.func216.trans (congrArg some (by kernel_rfl))
  f286 := Tryz.func217.trans (congrArg some (by kernel_rfl))
  f287 := Tryz.func253.trans (congrArg some (by kernel_rfl))
  f316 := Tryz.func260.trans (congrArg some (by kernel_rfl))
  f317 := Tryz.func232.trans (congrArg some (by kernel_rfl))
  f318 := Tryz.func233.trans (congrArg some (by kernel_rfl))
  f319 := Tryz.func234.trans (congrArg some (by kernel_rfl))
  f320 := Tryz.func235.trans (congrArg some (by kernel_rfl))
  f321 := Tryz.func258.trans (congrArg some (by kernel_rfl))
  f322 := Tryz.func259.trans (congrArg some (by kernel_rfl))
  f337 := Tryz.func247.trans (congrArg some (by kernel_rfl))
  f338 := Tryz.func248.trans (congrArg some (by kernel_rfl))
  t0 := Tryz.underlying0
  a0 := Tryz.isAgg0
  z0 := Tryz.sizeOf0
  v0 := Tryz.zeroValue0
  t2 := Tryz.underlying2
  a2 := Tryz.isAgg2
  z2 := Tryz.sizeOf2
  v2 := Tryz.zeroValue2
  t3 := Tryz.underlying3
  a3 := Tryz.isAgg3
  z3 := Tryz.sizeOf3
  v3 := Tryz.zeroValue3
  t4 := Tryz.underlying4
  a4 := Tryz.isAgg4
  z4 := Tryz.sizeOf4
  v4 := Tryz.zeroValue4
  t5 := Tryz.underlying5
  a5 := Tryz.isAgg5
  z5 := Tryz.sizeOf5
  v5 := Tryz.zeroValue5
  t9 := Tryz.underlying9
  a9 := Tryz.isAgg9
  z9 := Tryz.sizeOf9
  v9 := Tryz.zeroValue9
  t20 := Tryz.underlying20
  a20 := Tryz.isAgg20
  z20 := Tryz.sizeOf20
  v20 := Tryz.zeroValue20
  t21 := Tryz.underlying21
  a21 := Tryz.isAgg21
  z21 := Tryz.sizeOf21
  v21 := Tryz.zeroValue21
  t37 := Tryz.underlying141
  a37 := Tryz.isAgg141
  z37 := Tryz.sizeOf141
  v37 := Tryz.zeroValue141
  t46 := Tryz.underlying182
  a46 := Tryz.isAgg182
  z46 := Tryz.sizeOf182
  v46 := Tryz.zeroValue182
  t51 := Tryz.underlying222
  a51 := Tryz.isAgg222
  z51 := Tryz.sizeOf222
  v51 := Tryz.zeroValue222
  t53 := Tryz.underlying160
  a53 := Tryz.isAgg160
  z53 := Tryz.sizeOf160
  v53 := Tryz.zeroValue160
  t75 := Tryz.underlying278
  a75 := Tryz.isAgg278
  z75 := Tryz.sizeOf278
  v75 := Tryz.zeroValue278
  t85 := Tryz.underlying279
  a85 := Tryz.isAgg279
  z85 := Tryz.sizeOf279
  v85 := Tryz.zeroValue279
  t127 := Tryz.underlying299
  a127 := Tryz.isAgg299
  z127 := Tryz.sizeOf299
  v127 := Tryz.zeroValue299
  t143 := Tryz.underlying300
  a143 := Tryz.isAgg300
  z143 := Tryz.sizeOf300
  v143 := Tryz.zeroValue300
  t145 := Tryz.underlying302
  a145 := Tryz.isAgg302
  z145 := Tryz.sizeOf302
  v145 := Tryz.zeroValue302
  t167 := Tryz.underlying288
  a167 := Tryz.isAgg288
  z167 := Tryz.sizeOf288
  v167 := Tryz.zeroValue288
  t168 := Tryz.underlying291
  a168 := Tryz.isAgg291
  z168 := Tryz.sizeOf291
  v168 := Tryz.zeroValue291
  t171 := Tryz.underlying253
  a171 := Tryz.isAgg253
  z171 := Tryz.sizeOf253
  v171 := Tryz.zeroValue253
  t173 := Tryz.underlying255
  a173 := Tryz.isAgg255
  z173 := Tryz.sizeOf255
  v173 := Tryz.zeroValue255
  t175 := Tryz.underlying289
  a175 := Tryz.isAgg289
  z175 := Tryz.sizeOf289
  v175 := Tryz.zeroValue289
  t210 := Tryz.underlying297
  a210 := Tryz.isAgg297
  z210 := Tryz.sizeOf297
  v210 := Tryz.zeroValue297
  t212 := Tryz.underlying268
  a212 := Tryz.isAgg268
  z212 := Tryz.sizeOf268
  v212 := Tryz.zeroValue268
  t213 := Tryz.underlying269
  a213 := Tryz.isAgg269
  z213 := Tryz.sizeOf269
  t232 := Tryz.underlying286
  a232 := Tryz.isAgg286
  z232 := Tryz.sizeOf286
  v232 := Tryz.zeroValue286
  t233 := Tryz.underlying287
  a233 := Tryz.isAgg287
  z233 := Tryz.sizeOf287
  v233 := Tryz.zeroValue287
  g15 := by kernel_rfl
  g16 := by kernel_rfl
  g17 := by kernel_rfl
  g18 := by kernel_rfl
  g19 := by kernel_rfl
  t80 := Tryz.underlying204
  a80 := Tryz.isAgg204
  z80 := Tryz.sizeOf204
  v80 := Tryz.zeroValue204
  i0 := by kernel_rfl
  i2 := by kernel_rfl
  i3 := by kernel_rfl
  i4 := by kernel_rfl
  i5 := by kernel_rfl
  i9 := by kernel_rfl
  i20 := by kernel_rfl
  i21 := by kernel_rfl
  i37 := by kernel_rfl
  i46 := by kernel_rfl
  i51 := by kernel_rfl
  i53 := by kernel_rfl
  i75 := by kernel_rfl
  i80 := by kernel_rfl
  i85 := by kernel_rfl
  i127 := by kernel_rfl
  i143 := by kernel_rfl
  i145 := by kernel_rfl
  i167 := by kernel_rfl
  i168 := by kernel_rfl
  i171 := by kernel_rfl
  i173 := by kernel_rfl
  i175 := by kernel_rfl
  i210 := by kernel_rfl
  i212 := by kernel_rfl
  i232 := by kernel_rfl
  i233 := by kernel_rfl
  m15 := by kernel_rfl
  m16 := by kernel_rfl
  m17 := by kernel_rfl
  m18 := by kernel_rfl
  m19 := by kernel_rfl
  c0 := by kernel_rfl
  c2 := by kernel_rfl
  c3 := by kernel_rfl
  c4 := by kernel_rfl
  c5 := by kernel_rfl
  c9 := by kernel_rfl
  c20 := by kernel_rfl
  c21 := by kernel_rfl
  c37 := by kernel_rfl
  c46 := by kernel_rfl
  c51 := by kernel_rfl
  c53 := by kernel_rfl
  c75 := by kernel_rfl
  c80 := by kernel_rfl
  c85 := by kernel_rfl
  c127 := by kernel_rfl
  c143 := by kernel_rfl
  c145 := by kernel_rfl
  c167 := by kernel_rfl
  c168 := by kernel_rfl
  c171 := by kernel_rfl
  c173 := by kernel_rfl
  c175 := by kernel_rfl
  c210 := by kernel_rfl
  c212 := by kernel_rfl
  c213 := by kernel_rfl
  c232 := by kernel_rfl
  c233 := by kernel_rfl }
open Go.RowKit in
theorem l_strconv_ParseInt_10_at64_ok (s : ByteArray) (hmax : s.size ≤ 9223372036854775806) (v : Int) (h : Lib.parseIntB 64 s.data.toList = .ok v) (w : World) :
    Calls Tryz.prog 244 #[.string s, .int .i64 10, .int .i64 64] w fun e w' => e = .returned (.tuple #[.int .i64 v, .nilIface]) ∧ (w' = w ∨ ∃ t, w' = Lib.bytesWorld w 5 t) := Any.strconv_ParseInt_10_at64_ok l_laysC174 s hmax v h w
end Go.Proofs.YtleccblkafcidaaGreatDoor.ShelfB
