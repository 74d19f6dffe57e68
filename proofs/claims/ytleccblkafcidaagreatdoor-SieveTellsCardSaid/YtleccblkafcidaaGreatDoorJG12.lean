/- Joined texts: num.Sub, num.Gcd by contract; the reference's guess; the reference's guess, of any two numbers; the reference's Div. -/
import Derived.Test.YtleccblkafcidaaGreatDoorJG05
import Derived.Test.YtleccblkafcidaaGreatDoorJG08
import Derived.Test.YtleccblkafcidaaGreatDoorJG04
set_option linter.unusedSimpArgs false
set_option linter.unusedVariables false
/- num.Sub, num.Gcd by contract -/
namespace Go.Proofs.YtleccblkafcidaaGreatDoor
open Go.RowKit
theorem gcd_le {a b c : Nat} (ha : a ≤ c) (hb : b ≤ c) : Nat.gcd a b ≤ c := by
  rcases Nat.eq_zero_or_pos a with h | h
  · subst h; rw [Nat.gcd_zero_left]; exact hb
  · exact Nat.le_trans (Nat.gcd_le_left b h) ha
set_option maxRecDepth 100000 in
theorem sub_ok (l1 l2 : List UInt8) (w : World) (h1 : l1.length ≤ 140737488351232) (h2 : l2.length ≤ 140737488351232) (v1 : K.validL l1 = true) (v2 : K.validL l2 = true) (ht : Tab w) :
    Calls Tryz.prog 119 #[.string (Str l1), .string (Str l2)] w (ToldPost (K.numL l1 - K.numL l2) w) := by
  have f1 := fits_top (K.txt_numL l1 v1).2
  have f2 := fits_top (K.txt_numL l2 v2).2
  have g1 := fits_big (K.txt_numL l1 v1).2
  have g2 := fits_big (K.txt_numL l2 v2).2
  have hc := combine_ok 152 (enter_of Tryz.func152 (by kernel_rfl) (by kernel_rfl)) (K.numL l1 - K.numL l2) l1 l2 w h1 h2 v1 v2 ht (hid fun W va vb ha hb => nminus_any va vb _ _ W ha hb g1 g2) (by refine le_big (a := 224) ?_ (by omega); rw [show (224 : Nat) = 223 + 1 from rfl, TOP_add]; have := TOP_pos 223; have : TOP 1 = 1000000000 := rfl; rw [this]; omega)
  have HC := hid hc
  clear hc f1 f2 g1 g2
  go_enter Tryz.func119, Tryz.ntmps119
  go_wp2_with fail
  refine HC.out.mono ?_
  intro e w1 hq
  by_cases hf : K.fits (K.numL l1 - K.numL l2)
  · have he := hq.1 hf
    subst he
    go_wp2
    go_ret2
    exact hq
  · have he := hq.2.1 hf
    subst he
    go_wp2
    go_ret2
    exact hq
set_option maxRecDepth 100000 in
theorem sub_bad (l1 l2 : List UInt8) (w : World) (h1 : l1.length ≤ 140737488351232) (h2 : l2.length ≤ 140737488351232) (v : K.validL l1 = false ∨ K.validL l2 = false) :
    Calls Tryz.prog 119 #[.string (Str l1), .string (Str l2)] w (BadStr w) := by
  go_enter Tryz.func119, Tryz.ntmps119
  go_wp2_with fail
  refine (combine_bad _ l1 l2 w h1 h2 v).mono ?_
  rintro e w1 ⟨rfl, hx⟩
  go_wp2
  go_ret2
  exact ⟨rfl, hx⟩
set_option maxRecDepth 100000 in
theorem gcd_ok (l1 l2 : List UInt8) (w : World) (h1 : l1.length ≤ 140737488351232) (h2 : l2.length ≤ 140737488351232) (v1 : K.validL l1 = true) (v2 : K.validL l2 = true) (ht : Tab w) :
    Calls Tryz.prog 121 #[.string (Str l1), .string (Str l2)] w (ToldPost ((Nat.gcd (K.numL l1).natAbs (K.numL l2).natAbs : Int)) w) := by
  have f1 := fits_top (K.txt_numL l1 v1).2
  have f2 := fits_top (K.txt_numL l2 v2).2
  have g1 := fits_big (K.txt_numL l1 v1).2
  have g2 := fits_big (K.txt_numL l2 v2).2
  have hc := combine_ok 154 (enter_of Tryz.func154 (by kernel_rfl) (by kernel_rfl)) ((Nat.gcd (K.numL l1).natAbs (K.numL l2).natAbs : Int)) l1 l2 w h1 h2 v1 v2 ht (hid fun W va vb ha hb => ngcd_any va vb _ _ W ha hb g1 g2) (by rw [abs_cast]; exact gcd_le g1 g2)
  have HC := hid hc
  clear hc f1 f2 g1 g2
  go_enter Tryz.func121, Tryz.ntmps121
  go_wp2_with fail
  refine HC.out.mono ?_
  intro e w1 hq
  by_cases hf : K.fits ((Nat.gcd (K.numL l1).natAbs (K.numL l2).natAbs : Int))
  · have he := hq.1 hf
    subst he
    go_wp2
    go_ret2
    exact hq
  · have he := hq.2.1 hf
    subst he
    go_wp2
    go_ret2
    exact hq
set_option maxRecDepth 100000 in
theorem gcd_bad (l1 l2 : List UInt8) (w : World) (h1 : l1.length ≤ 140737488351232) (h2 : l2.length ≤ 140737488351232) (v : K.validL l1 = false ∨ K.validL l2 = false) :
    Calls Tryz.prog 121 #[.string (Str l1), .string (Str l2)] w (BadStr w) := by
  go_enter Tryz.func121, Tryz.ntmps121
  go_wp2_with fail
  refine (combine_bad _ l1 l2 w h1 h2 v).mono ?_
  rintro e w1 ⟨rfl, hx⟩
  go_wp2
  go_ret2
  exact ⟨rfl, hx⟩
end Go.Proofs.YtleccblkafcidaaGreatDoor
/- the reference's guess -/
namespace Go.Proofs.YtleccblkafcidaaGreatDoor
open Go.RowKit
/-- a guess: at least 1, and not too many -/
def RGuess (a b : Nat) (w : World) (e : Ending) (w' : World) : Prop := ∃ (v : Value) (g : Nat), e = .returned v ∧ RefV w' v (g : Int) ∧ 1 ≤ g ∧ g * b ≤ a ∧ Ext w w'
/-- digits of a quotient behind zeros -/
def GInv (s q : Nat) (j p : Nat) (zs : List Nat) : Prop := zs.length = s + j ∧ K.lv zs + 1000000000 ^ (s + j) * p = 1000000000 ^ s * q ∧ (∀ z ∈ zs, z < 1000000000) ∧ j ≤ 3 ∧ 1000000000 ^ j * p ≤ q
theorem GInv.start (s q : Nat) : GInv s q 0 q (List.replicate s 0) := ⟨by simp, by rw [K.lv_zeros]; simp, by simp, by omega, by simp⟩
theorem GInv.step {s q j p : Nat} {zs : List Nat} (h : GInv s q j p zs) (hp : 0 < p) (hq : q < 1000000000000000000000000000) : GInv s q (j + 1) (p / 1000000000) (zs ++ [p % 1000000000]) ∧ j < 3 := by
  obtain ⟨h1, h2, h3, h4, h5⟩ := h
  have hm := Nat.div_add_mod p 1000000000
  have hj : j < 3 := by
    rcases Nat.lt_or_ge j 3 with h | h
    · exact h
    · obtain rfl : j = 3 := by omega
      have : 1000000000 ^ 3 * 1 ≤ 1000000000 ^ 3 * p := Nat.mul_le_mul_left _ hp
      have e : (1000000000 : Nat) ^ 3 = 1000000000000000000000000000 := rfl
      rw [e] at this h5
      omega
  refine ⟨⟨by simp [h1]; omega, ?_, ?_, by omega, ?_⟩, hj⟩
  · rw [lv_snoc, h1, ← h2, show s + (j + 1) = s + j + 1 by omega, Nat.pow_succ, Nat.mul_assoc, Nat.add_assoc, ← Nat.mul_add]
    congr 2
    omega
  · intro z hz
    rcases List.mem_append.1 hz with h | h
    · exact h3 z h
    · obtain rfl : z = p % 1000000000 := by simpa using h
      omega
  · rw [Nat.pow_succ, Nat.mul_assoc]
    exact Nat.le_trans (Nat.mul_le_mul_left _ (by omega)) h5
set_option maxRecDepth 100000 in
set_option maxHeartbeats 3200000 in
theorem rguess_wide (A B : Option Addr) (ca cb jb : Nat) (s z : Nat) (x y q P R : Nat) (na nb : Bool) (xs ys : List Nat) (w : World) (ha : Rd w A (I64s xs)) (hb : Rd w B (I64s ys)) (la : xs.length = jb + (s + 1) + 1) (lb : ys.length = jb + 1)
    (hx : xs[jb + (s + 1)]? = some x) (hy : ys[jb]? = some y) (gx : x < 1000000000) (gy : y < 1000000000) (hb1 : jb + (s + 1) ≤ 1000) (hz : xs[jb + s]? = some z) (gz : z < 1000000000) (h1 : x ≤ y) (hq : q = max ((x * 1000000000 + z) / (y + 1)) 1) (hres : Hid (1000000000 ^ s * q * P ≤ R)) :
    Calls Tryz.prog 105 #[.agg #[.bool na, .slice A (jb + (s + 1) + 1 : Nat) ca], .agg #[.bool nb, .slice B (jb + 1 : Nat) cb]] w (RGuess R P w) := by
  obtain ⟨i0, hi, hz0, hz1, hz2⟩ := info_parts infoI
  have hW3 : Ext w (((w.alloc (.cells #[.bool na, .slice A (jb + (s + 1) + 1 : Nat) ca] 47)).alloc (.cells #[.bool nb, .slice B (jb + 1 : Nat) cb] 47)).alloc (.cells #[.bool false, .slice none 0 0] 47)) := (((Ext.rfl' w).alloc' _).alloc' _).alloc' _
  have hk : ∀ w', Ext (((w.alloc (.cells #[.bool na, .slice A (jb + (s + 1) + 1 : Nat) ca] 47)).alloc (.cells #[.bool nb, .slice B (jb + 1 : Nat) cb] 47)).alloc (.cells #[.bool false, .slice none 0 0] 47)) w' →
      (w'.cell? ⟨w.heap.size, 0, none⟩ = some (.bool na) ∧ w'.cell? ⟨w.heap.size, 1, none⟩ = some (.slice A (jb + (s + 1) + 1 : Nat) ca) ∧ w'.cell? ⟨w.heap.size + 1, 0, none⟩ = some (.bool nb) ∧ w'.cell? ⟨w.heap.size + 1, 1, none⟩ = some (.slice B (jb + 1 : Nat) cb)) ∧ Row w' (w.heap.size + 1 + 1) 47 [.bool false, .slice none 0 0] := by
    intro w' e
    have h1 := two_facts (W := w) (H := w.heap.size) (t := 47) (a := .bool na) (b := .slice A (jb + (s + 1) + 1 : Nat) ca) (Ext.step (((Ext.rfl' _).alloc' _).alloc' _) e) rfl
    have h2 := two_facts (W := (w.alloc (.cells #[.bool na, .slice A (jb + (s + 1) + 1 : Nat) ca] 47))) (H := w.heap.size + 1) (t := 47) (a := .bool nb) (b := .slice B (jb + 1 : Nat) cb) (Ext.step ((Ext.rfl' _).alloc' _) e) (by simp)
    have h3 := two_facts (H := w.heap.size + 1 + 1) e (by simp)
    exact ⟨⟨h1.1, h1.2.1, h2.1, h2.2.1⟩, h3.2.2.2.2.2⟩
  obtain ⟨W3, hW3e⟩ : ∃ W3, (((w.alloc (.cells #[.bool na, .slice A (jb + (s + 1) + 1 : Nat) ca] 47)).alloc (.cells #[.bool nb, .slice B (jb + 1 : Nat) cb] 47)).alloc (.cells #[.bool false, .slice none 0 0] 47)) = W3 := ⟨_, rfl⟩
  have hsz : W3.heap.size = w.heap.size + 1 + 1 + 1 := by rw [← hW3e]; simp
  rw [hW3e] at hW3
  rw [hW3e] at hk
  have ha3 := ha.ext hW3
  obtain ⟨bb, ob, y', eB, ey, hbb, hyc⟩ := (hb.ext hW3).at_ (k := jb) (by omega)
  rw [hy] at ey
  cases ey
  obtain ⟨ba, oa, x', eA, ex, hba, hxc⟩ := ha3.at_ (k := jb + (s + 1)) (by omega)
  rw [hx] at ex
  cases ex
  obtain ⟨ba2, oa2, z', eA2, ez, hba2, hzc⟩ := ha3.at_ (k := jb + s) (by omega)
  rw [hz] at ez
  cases ez
  rw [eA] at eA2
  cases eA2
  subst eA
  clear hz hba2
  subst eB
  have HK := hid hk
  have HSZ := hid hsz
  have HW3 := hid hW3
  have HE := hid hW3e
  obtain ⟨⟨k0, k1, k2, k3⟩, -⟩ := hk _ (Ext.rfl' _)
  clear hx hy la lb ha hb hba hbb ha3 hW3 hk hsz hW3e
  have hmk := fun w => mkInts s (s : Int) rfl (by omega) w
  have hsh : (jb : Int) + ((s : Int) + 1) + 1 - ((jb : Int) + 1) = (s : Int) + 1 := by omega
  have hsh2 : (s : Int) + 1 - 1 = (s : Int) := by omega
  have hin : (jb : Int) + ((s : Int) + 1) + 1 - 2 = (jb : Int) + (s : Int) := by omega
  have hqi : max (((x : Int) * 1000000000 + (z : Int)) / ((y : Int) + 1)) (1 : Int) = (q : Int) := by
    have e : ((((x * 1000000000 + z) / (y + 1) : Nat)) : Int) = ((x : Int) * 1000000000 + (z : Int)) / ((y : Int) + 1) := by rw [Int.natCast_ediv]; simp
    rw [← e, hq]
    rcases Nat.le_total ((x * 1000000000 + z) / (y + 1)) 1 with h | h
    · rw [Nat.max_eq_right h, Int.max_eq_right (by omega)]; rfl
    · rw [Nat.max_eq_left h, Int.max_eq_left (by omega)]
  have hq1 : 1 ≤ q := by rw [hq]; exact Nat.le_max_right _ _
  have hq2 : q ≤ 1000000000000000000 := by
    rw [hq]; exact Nat.max_le.2 ⟨Nat.le_trans (Nat.div_le_self _ _) (by omega), by omega⟩
  have HQ2 := hid (show q < 1000000000000000000000000000 by omega)
  have HWX := hid hq
  clear hq

  go_enter Tryz.func105, Tryz.ntmps105
  go_upto_region 1 with fail
  rw [HE.out]
  go_upto_region 8 with fail
  have QQ := hid hqi
  clear hqi hsh HWX hsh2 hin
  have hown0 := World.ownsRow_lit (base := w.heap.size + 1 + 1 + 1) (e := 3) (size := 1) W3 (madeCells #[.int .i64 0] s) s (by rw [HSZ.out]; exact Nat.le_refl _) (by unfold maxLen; omega) (by rw [made_replicate]; simp)
  rw [HSZ.out, made_replicate, show (List.replicate s (Value.int .i64 0)).toArray.toList = I64s (List.replicate s 0) by rw [← I64s_zeros]] at hown0
  have hW4 : Ext W3 (W3.alloc (.cells (List.replicate s (Value.int .i64 0)).toArray 3)) := (Ext.rfl' W3).alloc' _
  have hgi := GInv.start s q
  have HGI := hid hgi
  have HOWN0 := hid hown0
  have HW4 := hid hW4
  have hmk2 : ∀ w, (Instr.makeSlice 22 (.int .i64 s) (.int .i64 s)).run Tryz.prog w = .ok (.slice (some ⟨w.heap.size, 0, none⟩) s s) (w.alloc (.cells (List.replicate s (Value.int .i64 0)).toArray 3)) := fun w => by rw [← made_replicate]; exact hmk w
  have HSZ2 := HSZ.out
  clear hgi hown0 hW4 hmk k0 k1 k2 k3 hyc hxc hzc
  go_wp2_with fail
  go_loopw [8, 9] (fun pz v wr => ∃ (j p : Nat) (zs : List Nat) (A : Option Addr) (c : Nat), v = .slice A (s + j : Nat) c ∧ pz = .int .i64 (p : Int) ∧ p ≤ q ∧ j ≤ 3 ∧ wr.ownsRow (w.heap.size + 1 + 1 + 1) 3 1 (.slice A (s + j : Nat) c) (s + j) (I64s zs) ∧ Ext W3 wr ∧ w.heap.size + 1 + 1 + 1 ≤ wr.heap.size ∧ Hid (GInv s q j p zs)) (fun pz _ _ => (intOf pz).toNat)
  case atStart => exact ⟨0, q, List.replicate s 0, _, _, rfl, rfl, Nat.le_refl _, by omega, HOWN0.out, HW4.out, Nat.le_trans (Nat.le_of_eq HSZ2.symm) HW4.out.size, HGI⟩
  case round =>
    obtain ⟨j, p, zs, A, c, rfl, rfl, hpq, hj3, hown, hex, hszr, hinv⟩ := hrel
    have HOWN := hid hown
    clear hown
    by_cases hp : 0 < p
    · have hst := hinv.out.step hp HQ2.out
      have HST := hid hst.1
      have hj : j < 3 := hst.2
      clear hst
      go_wp2_with (at_builtin; refine wpList_append_own _ rfl _ _ 22 rfl (w.heap.size + 1 + 1 + 1) 3 i0 (.int .i64 0) 1 8 Tryz.underlying22 hi hz0 hz1 hz2 rfl (by decide) _ _ _ rfl (HOWN.out.alloc _) ⟨wr.heap.size, 0, none⟩ 1 1 [.int .i64 ((p : Int) % 1000000000)] rfl rfl (cell_one_new _ _ _) (fun u hu => by simp at hu; subst hu; rfl) ?c1 ?c2 ?c3 ?_)
      case c1 => unfold maxLen; omega
      case c2 => omega
      case c3 => first | omega | (simp; omega)
      intro v' w1 hown' hgrow hnil
      obtain ⟨g, cap, sp, rfl, hg, hc1, hc2, hrow1, hvl, hsl⟩ := own_form hown' (by omega)
      have hex' : Ext W3 w1 := (hex.alloc' _).grown hgrow (by simp; omega) (by
        intro k hk
        rw [HSZ.out]
        exact (HOWN.out.lt k hk).1)
      have hsz' : w.heap.size + 1 + 1 + 1 ≤ w1.heap.size := by have := hex'.size; omega
      have HO := hid hown'
      clear hown' hgrow hnil hrow1 hvl hsl hg hc1 hc2
      go_wp2
      go_roundw
      case rel => exact ⟨j + 1, p / 1000000000, zs ++ [p % 1000000000], _, _, rfl, by simp, by omega, by omega, by have h := HO.out; rw [show s + (j + 1) = s + j + 1 by omega]; simpa using h, hex', hsz', HST⟩
      case measure => simp [intOf]; omega
    · obtain rfl : p = 0 := by omega
      have hjc : s + j ≤ c := by
        rcases HOWN.out.2 with ⟨h, h0⟩ | ⟨g, cap, cur, h, hg, hh, hc, _⟩
        · injection h with h1 h2 h3; omega
        · injection h with h1 h2 h3; omega
      have hgz := hinv.out
      have hrd := Rd.of_own HOWN.out
      have HRD := hid hrd
      have HGZ := hid hgz
      clear hrd hgz hinv
      go_wp2_with fail
      refine (rtrim_any false A c (s + j) zs _ HRD.out HGZ.out.1 (by omega) hjc).mono ?_
      rintro e w4 ⟨k4, b4, hk4, rfl, hb4, hcut, hx4⟩
      obtain rfl : b4 = false := by rw [hb4.out]; rfl
      have hx4' := hex.step hx4
      have hval : K.lv zs = 1000000000 ^ s * q := by
        have := HGZ.out.2.1
        simpa using this
      have hQ : RefV w4 (.agg #[.bool false, .slice A k4 c]) ((K.lv zs : Nat) : Int) := by
        refine ⟨_, k4, c, zs.take k4, false, rfl, hid ?_, by rw [List.length_take]; omega, by rw [HGZ.out.1] at hk4; omega, ?_, hcut.lim HGZ.out.2.2.1, by rw [hcut.lv]; rfl⟩
        · symm; exact decide_eq_false (by omega)
        · rw [show I64s (zs.take k4) = (I64s zs).take k4 from List.map_take ..]
          exact (HRD.out.ext hx4).take k4
      have hrr := (HK.out _ hx4').2
      have hfin : RGuess R P w (.returned (.agg #[.bool false, .slice A k4 c])) ((w4.setCell ⟨w.heap.size + 1 + 1, 0, none⟩ (.bool false)).setCell ⟨w.heap.size + 1 + 1, 1, none⟩ (.slice A k4 c)) := by
        have hh := NumInt.stored (r := 0) hrr (HW3.out.step hx4') (by omega) hQ
        obtain ⟨v, e1, e2, e3⟩ := hh
        cases e1
        refine ⟨_, K.lv zs, rfl, e2, ?_, by rw [hval]; exact hres.out, e3⟩
        rw [hval]
        exact Nat.mul_pos (Nat.pow_pos (by omega)) (by omega)
      have HF := hid hfin
      obtain ⟨g0, g1, g2, g3⟩ := row_facts hrr
      clear hfin hrr hQ hval hcut
      go_wp2
      refine bodyPost_ret (v := .agg #[.bool false, .slice A k4 c]) (by simp [results, Tryz.results105, go_sem, g0, g1]) rfl HF.out
set_option maxRecDepth 100000 in
set_option maxHeartbeats 3200000 in
theorem rguess_flat (A B : Option Addr) (ca cb jb : Nat) (s : Nat) (x y q P R : Nat) (na nb : Bool) (xs ys : List Nat) (w : World) (ha : Rd w A (I64s xs)) (hb : Rd w B (I64s ys)) (la : xs.length = jb + s + 1) (lb : ys.length = jb + 1)
    (hx : xs[jb + s]? = some x) (hy : ys[jb]? = some y) (gx : x < 1000000000) (gy : y < 1000000000) (hb1 : jb + s ≤ 1000)  (h1 : x ≤ y) (h2 : ¬ 0 < s) (hq : q = max (x / (y + 1)) 1) (hres : Hid (1000000000 ^ s * q * P ≤ R)) :
    Calls Tryz.prog 105 #[.agg #[.bool na, .slice A (jb + s + 1 : Nat) ca], .agg #[.bool nb, .slice B (jb + 1 : Nat) cb]] w (RGuess R P w) := by
  obtain ⟨i0, hi, hz0, hz1, hz2⟩ := info_parts infoI
  have hW3 : Ext w (((w.alloc (.cells #[.bool na, .slice A (jb + s + 1 : Nat) ca] 47)).alloc (.cells #[.bool nb, .slice B (jb + 1 : Nat) cb] 47)).alloc (.cells #[.bool false, .slice none 0 0] 47)) := (((Ext.rfl' w).alloc' _).alloc' _).alloc' _
  have hk : ∀ w', Ext (((w.alloc (.cells #[.bool na, .slice A (jb + s + 1 : Nat) ca] 47)).alloc (.cells #[.bool nb, .slice B (jb + 1 : Nat) cb] 47)).alloc (.cells #[.bool false, .slice none 0 0] 47)) w' →
      (w'.cell? ⟨w.heap.size, 0, none⟩ = some (.bool na) ∧ w'.cell? ⟨w.heap.size, 1, none⟩ = some (.slice A (jb + s + 1 : Nat) ca) ∧ w'.cell? ⟨w.heap.size + 1, 0, none⟩ = some (.bool nb) ∧ w'.cell? ⟨w.heap.size + 1, 1, none⟩ = some (.slice B (jb + 1 : Nat) cb)) ∧ Row w' (w.heap.size + 1 + 1) 47 [.bool false, .slice none 0 0] := by
    intro w' e
    have h1 := two_facts (W := w) (H := w.heap.size) (t := 47) (a := .bool na) (b := .slice A (jb + s + 1 : Nat) ca) (Ext.step (((Ext.rfl' _).alloc' _).alloc' _) e) rfl
    have h2 := two_facts (W := (w.alloc (.cells #[.bool na, .slice A (jb + s + 1 : Nat) ca] 47))) (H := w.heap.size + 1) (t := 47) (a := .bool nb) (b := .slice B (jb + 1 : Nat) cb) (Ext.step ((Ext.rfl' _).alloc' _) e) (by simp)
    have h3 := two_facts (H := w.heap.size + 1 + 1) e (by simp)
    exact ⟨⟨h1.1, h1.2.1, h2.1, h2.2.1⟩, h3.2.2.2.2.2⟩
  obtain ⟨W3, hW3e⟩ : ∃ W3, (((w.alloc (.cells #[.bool na, .slice A (jb + s + 1 : Nat) ca] 47)).alloc (.cells #[.bool nb, .slice B (jb + 1 : Nat) cb] 47)).alloc (.cells #[.bool false, .slice none 0 0] 47)) = W3 := ⟨_, rfl⟩
  have hsz : W3.heap.size = w.heap.size + 1 + 1 + 1 := by rw [← hW3e]; simp
  rw [hW3e] at hW3
  rw [hW3e] at hk
  have ha3 := ha.ext hW3
  obtain ⟨bb, ob, y', eB, ey, hbb, hyc⟩ := (hb.ext hW3).at_ (k := jb) (by omega)
  rw [hy] at ey
  cases ey
  obtain ⟨ba, oa, x', eA, ex, hba, hxc⟩ := ha3.at_ (k := jb + s) (by omega)
  rw [hx] at ex
  cases ex
  subst eA
  subst eB
  have HK := hid hk
  have HSZ := hid hsz
  have HW3 := hid hW3
  have HE := hid hW3e
  obtain ⟨⟨k0, k1, k2, k3⟩, -⟩ := hk _ (Ext.rfl' _)
  clear hx hy la lb ha hb hba hbb ha3 hW3 hk hsz hW3e
  have hmk := fun w => mkInts s (s : Int) rfl (by omega) w
  have hsh : (jb : Int) + ((s : Int)) + 1 - ((jb : Int) + 1) = (s : Int) := by omega
  have hqi : max ((x : Int) / ((y : Int) + 1)) (1 : Int) = (q : Int) := by
    have e : (((x / (y + 1) : Nat)) : Int) = (x : Int) / ((y : Int) + 1) := by rw [Int.natCast_ediv]; simp
    rw [← e, hq]
    rcases Nat.le_total (x / (y + 1)) 1 with h | h
    · rw [Nat.max_eq_right h, Int.max_eq_right (by omega)]; rfl
    · rw [Nat.max_eq_left h, Int.max_eq_left (by omega)]
  have hq1 : 1 ≤ q := by rw [hq]; exact Nat.le_max_right _ _
  have hq2 : q ≤ 1000000000000000000 := by
    rw [hq]; exact Nat.max_le.2 ⟨Nat.le_trans (Nat.div_le_self _ _) (by omega), by omega⟩
  have HQ2 := hid (show q < 1000000000000000000000000000 by omega)
  have HWX := hid hq
  clear hq
  have hwx : wrap64 ((x : Int) / ((y : Int) + 1)) = (x : Int) / ((y : Int) + 1) := IntWalk.wrap64_in _ ⟨by have := Int.ediv_nonneg (a := (x : Int)) (b := (y : Int) + 1) (by omega) (by omega); omega, by have := Int.ediv_le_self (b := (y : Int) + 1) (show (0 : Int) ≤ (x : Int) by omega); omega⟩
  go_enter Tryz.func105, Tryz.ntmps105
  go_upto_region 1 with fail
  rw [HE.out]
  go_upto_region 8 with fail
  have QQ := hid hqi
  clear hqi hsh HWX hwx
  have hown0 := World.ownsRow_lit (base := w.heap.size + 1 + 1 + 1) (e := 3) (size := 1) W3 (madeCells #[.int .i64 0] s) s (by rw [HSZ.out]; exact Nat.le_refl _) (by unfold maxLen; omega) (by rw [made_replicate]; simp)
  rw [HSZ.out, made_replicate, show (List.replicate s (Value.int .i64 0)).toArray.toList = I64s (List.replicate s 0) by rw [← I64s_zeros]] at hown0
  have hW4 : Ext W3 (W3.alloc (.cells (List.replicate s (Value.int .i64 0)).toArray 3)) := (Ext.rfl' W3).alloc' _
  have hgi := GInv.start s q
  have HGI := hid hgi
  have HOWN0 := hid hown0
  have HW4 := hid hW4
  have hmk2 : ∀ w, (Instr.makeSlice 22 (.int .i64 s) (.int .i64 s)).run Tryz.prog w = .ok (.slice (some ⟨w.heap.size, 0, none⟩) s s) (w.alloc (.cells (List.replicate s (Value.int .i64 0)).toArray 3)) := fun w => by rw [← made_replicate]; exact hmk w
  have HSZ2 := HSZ.out
  clear hgi hown0 hW4 hmk k0 k1 k2 k3 hyc hxc
  go_wp2_with fail
  go_loopw [8, 9] (fun pz v wr => ∃ (j p : Nat) (zs : List Nat) (A : Option Addr) (c : Nat), v = .slice A (s + j : Nat) c ∧ pz = .int .i64 (p : Int) ∧ p ≤ q ∧ j ≤ 3 ∧ wr.ownsRow (w.heap.size + 1 + 1 + 1) 3 1 (.slice A (s + j : Nat) c) (s + j) (I64s zs) ∧ Ext W3 wr ∧ w.heap.size + 1 + 1 + 1 ≤ wr.heap.size ∧ Hid (GInv s q j p zs)) (fun pz _ _ => (intOf pz).toNat)
  case atStart => exact ⟨0, q, List.replicate s 0, _, _, rfl, rfl, Nat.le_refl _, by omega, HOWN0.out, HW4.out, Nat.le_trans (Nat.le_of_eq HSZ2.symm) HW4.out.size, HGI⟩
  case round =>
    obtain ⟨j, p, zs, A, c, rfl, rfl, hpq, hj3, hown, hex, hszr, hinv⟩ := hrel
    have HOWN := hid hown
    clear hown
    by_cases hp : 0 < p
    · have hst := hinv.out.step hp HQ2.out
      have HST := hid hst.1
      have hj : j < 3 := hst.2
      clear hst
      go_wp2_with (at_builtin; refine wpList_append_own _ rfl _ _ 22 rfl (w.heap.size + 1 + 1 + 1) 3 i0 (.int .i64 0) 1 8 Tryz.underlying22 hi hz0 hz1 hz2 rfl (by decide) _ _ _ rfl (HOWN.out.alloc _) ⟨wr.heap.size, 0, none⟩ 1 1 [.int .i64 ((p : Int) % 1000000000)] rfl rfl (cell_one_new _ _ _) (fun u hu => by simp at hu; subst hu; rfl) ?c1 ?c2 ?c3 ?_)
      case c1 => unfold maxLen; omega
      case c2 => omega
      case c3 => first | omega | (simp; omega)
      intro v' w1 hown' hgrow hnil
      obtain ⟨g, cap, sp, rfl, hg, hc1, hc2, hrow1, hvl, hsl⟩ := own_form hown' (by omega)
      have hex' : Ext W3 w1 := (hex.alloc' _).grown hgrow (by simp; omega) (by
        intro k hk
        rw [HSZ.out]
        exact (HOWN.out.lt k hk).1)
      have hsz' : w.heap.size + 1 + 1 + 1 ≤ w1.heap.size := by have := hex'.size; omega
      have HO := hid hown'
      clear hown' hgrow hnil hrow1 hvl hsl hg hc1 hc2
      go_wp2
      go_roundw
      case rel => exact ⟨j + 1, p / 1000000000, zs ++ [p % 1000000000], _, _, rfl, by simp, by omega, by omega, by have h := HO.out; rw [show s + (j + 1) = s + j + 1 by omega]; simpa using h, hex', hsz', HST⟩
      case measure => simp [intOf]; omega
    · obtain rfl : p = 0 := by omega
      have hjc : s + j ≤ c := by
        rcases HOWN.out.2 with ⟨h, h0⟩ | ⟨g, cap, cur, h, hg, hh, hc, _⟩
        · injection h with h1 h2 h3; omega
        · injection h with h1 h2 h3; omega
      have hgz := hinv.out
      have hrd := Rd.of_own HOWN.out
      have HRD := hid hrd
      have HGZ := hid hgz
      clear hrd hgz hinv
      go_wp2_with fail
      refine (rtrim_any false A c (s + j) zs _ HRD.out HGZ.out.1 (by omega) hjc).mono ?_
      rintro e w4 ⟨k4, b4, hk4, rfl, hb4, hcut, hx4⟩
      obtain rfl : b4 = false := by rw [hb4.out]; rfl
      have hx4' := hex.step hx4
      have hval : K.lv zs = 1000000000 ^ s * q := by
        have := HGZ.out.2.1
        simpa using this
      have hQ : RefV w4 (.agg #[.bool false, .slice A k4 c]) ((K.lv zs : Nat) : Int) := by
        refine ⟨_, k4, c, zs.take k4, false, rfl, hid ?_, by rw [List.length_take]; omega, by rw [HGZ.out.1] at hk4; omega, ?_, hcut.lim HGZ.out.2.2.1, by rw [hcut.lv]; rfl⟩
        · symm; exact decide_eq_false (by omega)
        · rw [show I64s (zs.take k4) = (I64s zs).take k4 from List.map_take ..]
          exact (HRD.out.ext hx4).take k4
      have hrr := (HK.out _ hx4').2
      have hfin : RGuess R P w (.returned (.agg #[.bool false, .slice A k4 c])) ((w4.setCell ⟨w.heap.size + 1 + 1, 0, none⟩ (.bool false)).setCell ⟨w.heap.size + 1 + 1, 1, none⟩ (.slice A k4 c)) := by
        have hh := NumInt.stored (r := 0) hrr (HW3.out.step hx4') (by omega) hQ
        obtain ⟨v, e1, e2, e3⟩ := hh
        cases e1
        refine ⟨_, K.lv zs, rfl, e2, ?_, by rw [hval]; exact hres.out, e3⟩
        rw [hval]
        exact Nat.mul_pos (Nat.pow_pos (by omega)) (by omega)
      have HF := hid hfin
      obtain ⟨g0, g1, g2, g3⟩ := row_facts hrr
      clear hfin hrr hQ hval hcut
      go_wp2
      refine bodyPost_ret (v := .agg #[.bool false, .slice A k4 c]) (by simp [results, Tryz.results105, go_sem, g0, g1]) rfl HF.out
set_option maxRecDepth 100000 in
set_option maxHeartbeats 3200000 in
theorem rguess_more (A B : Option Addr) (ca cb jb : Nat) (s : Nat) (x y q P R : Nat) (na nb : Bool) (xs ys : List Nat) (w : World) (ha : Rd w A (I64s xs)) (hb : Rd w B (I64s ys)) (la : xs.length = jb + s + 1) (lb : ys.length = jb + 1)
    (hx : xs[jb + s]? = some x) (hy : ys[jb]? = some y) (gx : x < 1000000000) (gy : y < 1000000000) (hb1 : jb + s ≤ 1000)  (h1 : ¬ x ≤ y) (hq : q = max (x / (y + 1)) 1) (hres : Hid (1000000000 ^ s * q * P ≤ R)) :
    Calls Tryz.prog 105 #[.agg #[.bool na, .slice A (jb + s + 1 : Nat) ca], .agg #[.bool nb, .slice B (jb + 1 : Nat) cb]] w (RGuess R P w) := by
  obtain ⟨i0, hi, hz0, hz1, hz2⟩ := info_parts infoI
  have hW3 : Ext w (((w.alloc (.cells #[.bool na, .slice A (jb + s + 1 : Nat) ca] 47)).alloc (.cells #[.bool nb, .slice B (jb + 1 : Nat) cb] 47)).alloc (.cells #[.bool false, .slice none 0 0] 47)) := (((Ext.rfl' w).alloc' _).alloc' _).alloc' _
  have hk : ∀ w', Ext (((w.alloc (.cells #[.bool na, .slice A (jb + s + 1 : Nat) ca] 47)).alloc (.cells #[.bool nb, .slice B (jb + 1 : Nat) cb] 47)).alloc (.cells #[.bool false, .slice none 0 0] 47)) w' →
      (w'.cell? ⟨w.heap.size, 0, none⟩ = some (.bool na) ∧ w'.cell? ⟨w.heap.size, 1, none⟩ = some (.slice A (jb + s + 1 : Nat) ca) ∧ w'.cell? ⟨w.heap.size + 1, 0, none⟩ = some (.bool nb) ∧ w'.cell? ⟨w.heap.size + 1, 1, none⟩ = some (.slice B (jb + 1 : Nat) cb)) ∧ Row w' (w.heap.size + 1 + 1) 47 [.bool false, .slice none 0 0] := by
    intro w' e
    have h1 := two_facts (W := w) (H := w.heap.size) (t := 47) (a := .bool na) (b := .slice A (jb + s + 1 : Nat) ca) (Ext.step (((Ext.rfl' _).alloc' _).alloc' _) e) rfl
    have h2 := two_facts (W := (w.alloc (.cells #[.bool na, .slice A (jb + s + 1 : Nat) ca] 47))) (H := w.heap.size + 1) (t := 47) (a := .bool nb) (b := .slice B (jb + 1 : Nat) cb) (Ext.step ((Ext.rfl' _).alloc' _) e) (by simp)
    have h3 := two_facts (H := w.heap.size + 1 + 1) e (by simp)
    exact ⟨⟨h1.1, h1.2.1, h2.1, h2.2.1⟩, h3.2.2.2.2.2⟩
  obtain ⟨W3, hW3e⟩ : ∃ W3, (((w.alloc (.cells #[.bool na, .slice A (jb + s + 1 : Nat) ca] 47)).alloc (.cells #[.bool nb, .slice B (jb + 1 : Nat) cb] 47)).alloc (.cells #[.bool false, .slice none 0 0] 47)) = W3 := ⟨_, rfl⟩
  have hsz : W3.heap.size = w.heap.size + 1 + 1 + 1 := by rw [← hW3e]; simp
  rw [hW3e] at hW3
  rw [hW3e] at hk
  have ha3 := ha.ext hW3
  obtain ⟨bb, ob, y', eB, ey, hbb, hyc⟩ := (hb.ext hW3).at_ (k := jb) (by omega)
  rw [hy] at ey
  cases ey
  obtain ⟨ba, oa, x', eA, ex, hba, hxc⟩ := ha3.at_ (k := jb + s) (by omega)
  rw [hx] at ex
  cases ex
  subst eA
  subst eB
  have HK := hid hk
  have HSZ := hid hsz
  have HW3 := hid hW3
  have HE := hid hW3e
  obtain ⟨⟨k0, k1, k2, k3⟩, -⟩ := hk _ (Ext.rfl' _)
  clear hx hy la lb ha hb hba hbb ha3 hW3 hk hsz hW3e
  have hmk := fun w => mkInts s (s : Int) rfl (by omega) w
  have hsh : (jb : Int) + ((s : Int)) + 1 - ((jb : Int) + 1) = (s : Int) := by omega
  have hqi : max ((x : Int) / ((y : Int) + 1)) (1 : Int) = (q : Int) := by
    have e : (((x / (y + 1) : Nat)) : Int) = (x : Int) / ((y : Int) + 1) := by rw [Int.natCast_ediv]; simp
    rw [← e, hq]
    rcases Nat.le_total (x / (y + 1)) 1 with h | h
    · rw [Nat.max_eq_right h, Int.max_eq_right (by omega)]; rfl
    · rw [Nat.max_eq_left h, Int.max_eq_left (by omega)]
  have hq1 : 1 ≤ q := by rw [hq]; exact Nat.le_max_right _ _
  have hq2 : q ≤ 1000000000000000000 := by
    rw [hq]; exact Nat.max_le.2 ⟨Nat.le_trans (Nat.div_le_self _ _) (by omega), by omega⟩
  have HQ2 := hid (show q < 1000000000000000000000000000 by omega)
  have HWX := hid hq
  clear hq
  have hwx : wrap64 ((x : Int) / ((y : Int) + 1)) = (x : Int) / ((y : Int) + 1) := IntWalk.wrap64_in _ ⟨by have := Int.ediv_nonneg (a := (x : Int)) (b := (y : Int) + 1) (by omega) (by omega); omega, by have := Int.ediv_le_self (b := (y : Int) + 1) (show (0 : Int) ≤ (x : Int) by omega); omega⟩
  go_enter Tryz.func105, Tryz.ntmps105
  go_upto_region 1 with fail
  rw [HE.out]
  go_upto_region 8 with fail
  have QQ := hid hqi
  clear hqi hsh HWX hwx
  have hown0 := World.ownsRow_lit (base := w.heap.size + 1 + 1 + 1) (e := 3) (size := 1) W3 (madeCells #[.int .i64 0] s) s (by rw [HSZ.out]; exact Nat.le_refl _) (by unfold maxLen; omega) (by rw [made_replicate]; simp)
  rw [HSZ.out, made_replicate, show (List.replicate s (Value.int .i64 0)).toArray.toList = I64s (List.replicate s 0) by rw [← I64s_zeros]] at hown0
  have hW4 : Ext W3 (W3.alloc (.cells (List.replicate s (Value.int .i64 0)).toArray 3)) := (Ext.rfl' W3).alloc' _
  have hgi := GInv.start s q
  have HGI := hid hgi
  have HOWN0 := hid hown0
  have HW4 := hid hW4
  have hmk2 : ∀ w, (Instr.makeSlice 22 (.int .i64 s) (.int .i64 s)).run Tryz.prog w = .ok (.slice (some ⟨w.heap.size, 0, none⟩) s s) (w.alloc (.cells (List.replicate s (Value.int .i64 0)).toArray 3)) := fun w => by rw [← made_replicate]; exact hmk w
  have HSZ2 := HSZ.out
  clear hgi hown0 hW4 hmk k0 k1 k2 k3 hyc hxc
  go_wp2_with fail
  go_loopw [8, 9] (fun pz v wr => ∃ (j p : Nat) (zs : List Nat) (A : Option Addr) (c : Nat), v = .slice A (s + j : Nat) c ∧ pz = .int .i64 (p : Int) ∧ p ≤ q ∧ j ≤ 3 ∧ wr.ownsRow (w.heap.size + 1 + 1 + 1) 3 1 (.slice A (s + j : Nat) c) (s + j) (I64s zs) ∧ Ext W3 wr ∧ w.heap.size + 1 + 1 + 1 ≤ wr.heap.size ∧ Hid (GInv s q j p zs)) (fun pz _ _ => (intOf pz).toNat)
  case atStart => exact ⟨0, q, List.replicate s 0, _, _, rfl, rfl, Nat.le_refl _, by omega, HOWN0.out, HW4.out, Nat.le_trans (Nat.le_of_eq HSZ2.symm) HW4.out.size, HGI⟩
  case round =>
    obtain ⟨j, p, zs, A, c, rfl, rfl, hpq, hj3, hown, hex, hszr, hinv⟩ := hrel
    have HOWN := hid hown
    clear hown
    by_cases hp : 0 < p
    · have hst := hinv.out.step hp HQ2.out
      have HST := hid hst.1
      have hj : j < 3 := hst.2
      clear hst
      go_wp2_with (at_builtin; refine wpList_append_own _ rfl _ _ 22 rfl (w.heap.size + 1 + 1 + 1) 3 i0 (.int .i64 0) 1 8 Tryz.underlying22 hi hz0 hz1 hz2 rfl (by decide) _ _ _ rfl (HOWN.out.alloc _) ⟨wr.heap.size, 0, none⟩ 1 1 [.int .i64 ((p : Int) % 1000000000)] rfl rfl (cell_one_new _ _ _) (fun u hu => by simp at hu; subst hu; rfl) ?c1 ?c2 ?c3 ?_)
      case c1 => unfold maxLen; omega
      case c2 => omega
      case c3 => first | omega | (simp; omega)
      intro v' w1 hown' hgrow hnil
      obtain ⟨g, cap, sp, rfl, hg, hc1, hc2, hrow1, hvl, hsl⟩ := own_form hown' (by omega)
      have hex' : Ext W3 w1 := (hex.alloc' _).grown hgrow (by simp; omega) (by
        intro k hk
        rw [HSZ.out]
        exact (HOWN.out.lt k hk).1)
      have hsz' : w.heap.size + 1 + 1 + 1 ≤ w1.heap.size := by have := hex'.size; omega
      have HO := hid hown'
      clear hown' hgrow hnil hrow1 hvl hsl hg hc1 hc2
      go_wp2
      go_roundw
      case rel => exact ⟨j + 1, p / 1000000000, zs ++ [p % 1000000000], _, _, rfl, by simp, by omega, by omega, by have h := HO.out; rw [show s + (j + 1) = s + j + 1 by omega]; simpa using h, hex', hsz', HST⟩
      case measure => simp [intOf]; omega
    · obtain rfl : p = 0 := by omega
      have hjc : s + j ≤ c := by
        rcases HOWN.out.2 with ⟨h, h0⟩ | ⟨g, cap, cur, h, hg, hh, hc, _⟩
        · injection h with h1 h2 h3; omega
        · injection h with h1 h2 h3; omega
      have hgz := hinv.out
      have hrd := Rd.of_own HOWN.out
      have HRD := hid hrd
      have HGZ := hid hgz
      clear hrd hgz hinv
      go_wp2_with fail
      refine (rtrim_any false A c (s + j) zs _ HRD.out HGZ.out.1 (by omega) hjc).mono ?_
      rintro e w4 ⟨k4, b4, hk4, rfl, hb4, hcut, hx4⟩
      obtain rfl : b4 = false := by rw [hb4.out]; rfl
      have hx4' := hex.step hx4
      have hval : K.lv zs = 1000000000 ^ s * q := by
        have := HGZ.out.2.1
        simpa using this
      have hQ : RefV w4 (.agg #[.bool false, .slice A k4 c]) ((K.lv zs : Nat) : Int) := by
        refine ⟨_, k4, c, zs.take k4, false, rfl, hid ?_, by rw [List.length_take]; omega, by rw [HGZ.out.1] at hk4; omega, ?_, hcut.lim HGZ.out.2.2.1, by rw [hcut.lv]; rfl⟩
        · symm; exact decide_eq_false (by omega)
        · rw [show I64s (zs.take k4) = (I64s zs).take k4 from List.map_take ..]
          exact (HRD.out.ext hx4).take k4
      have hrr := (HK.out _ hx4').2
      have hfin : RGuess R P w (.returned (.agg #[.bool false, .slice A k4 c])) ((w4.setCell ⟨w.heap.size + 1 + 1, 0, none⟩ (.bool false)).setCell ⟨w.heap.size + 1 + 1, 1, none⟩ (.slice A k4 c)) := by
        have hh := NumInt.stored (r := 0) hrr (HW3.out.step hx4') (by omega) hQ
        obtain ⟨v, e1, e2, e3⟩ := hh
        cases e1
        refine ⟨_, K.lv zs, rfl, e2, ?_, by rw [hval]; exact hres.out, e3⟩
        rw [hval]
        exact Nat.mul_pos (Nat.pow_pos (by omega)) (by omega)
      have HF := hid hfin
      obtain ⟨g0, g1, g2, g3⟩ := row_facts hrr
      clear hfin hrr hQ hval hcut
      go_wp2
      refine bodyPost_ret (v := .agg #[.bool false, .slice A k4 c]) (by simp [results, Tryz.results105, go_sem, g0, g1]) rfl HF.out
end Go.Proofs.YtleccblkafcidaaGreatDoor
/- the reference's guess, of any two numbers -/
namespace Go.Proofs.YtleccblkafcidaaGreatDoor
open Go.RowKit
theorem top_pos {xs : List Nat} {j x : Nat} (hL : K.Lim xs) (hl : xs.length = j + 1) (hx : xs[j]? = some x) : 0 < x ∧ K.lv xs = K.lv (xs.take j) + 1000000000 ^ j * x ∧ K.lv (xs.take j) < 1000000000 ^ j := by
  have e := lv_take_at hx
  rw [List.take_of_length_le (by omega)] at e
  refine ⟨?_, e, ?_⟩
  · rcases Nat.eq_zero_or_pos x with h | h
    · exfalso
      apply hL.2
      rw [List.getLast?_eq_getElem?, hl, Nat.add_sub_cancel, hx, h]
    · exact h
  · have := K.lv_lt (xs.take j) (fun z hz => hL.1 z (List.mem_of_mem_take hz))
    rwa [List.length_take, Nat.min_eq_left (by omega)] at this
theorem guess_le {s q y jb T P R : Nat} (hq : q * (y + 1) ≤ T) (hP : P ≤ 1000000000 ^ jb * (y + 1)) (hR : 1000000000 ^ (jb + s) * T ≤ R) : 1000000000 ^ s * q * P ≤ R := by
  have h1 : 1000000000 ^ s * q * P ≤ 1000000000 ^ s * q * (1000000000 ^ jb * (y + 1)) := Nat.mul_le_mul_left _ hP
  have h2 : 1000000000 ^ s * q * (1000000000 ^ jb * (y + 1)) = 1000000000 ^ (jb + s) * (q * (y + 1)) := by
    rw [Nat.pow_add]
    simp only [Nat.mul_assoc, Nat.mul_comm, Nat.mul_left_comm]
  have h3 : 1000000000 ^ (jb + s) * (q * (y + 1)) ≤ 1000000000 ^ (jb + s) * T := Nat.mul_le_mul_left _ hq
  omega
theorem rguess_any (va vb : Value) (a b : Nat) (w : World) (ha : RefV w va (a : Int)) (hb : RefV w vb (b : Int)) (la : a ≤ BIG) (h0 : 0 < b) (hba : b ≤ a) :
    Calls Tryz.prog 105 #[va, vb] w (RGuess a b w) := by
  obtain ⟨A, ka, ca, xs, na, rfl, -, hla, hca, hra, hLa, hva⟩ := ha
  obtain ⟨B, kb, cb, ys, nb, rfl, -, hlb, hcb, hrb, hLb, hvb⟩ := hb
  rw [Int.natAbs_natCast] at hva hvb
  have l1 := len_of_big hLa (by omega)
  have l2 := lim_len hLa hLb (by omega)
  have hyne : ys ≠ [] := by intro e; rw [e] at hvb; simp [K.lv] at hvb; omega
  have hypos : 0 < ys.length := List.length_pos_iff.2 hyne
  obtain ⟨jb, rfl⟩ : ∃ jb, kb = jb + 1 := ⟨kb - 1, by omega⟩
  obtain ⟨s, rfl⟩ : ∃ s, ka = jb + s + 1 := ⟨ka - (jb + 1), by omega⟩
  obtain ⟨x, hx⟩ : ∃ x, xs[jb + s]? = some x := ⟨_, List.getElem?_eq_getElem (by omega)⟩
  obtain ⟨y, hy⟩ : ∃ y, ys[jb]? = some y := ⟨_, List.getElem?_eq_getElem (by omega)⟩
  have gx := hLa.1 x (mem_at hx)
  have gy := hLb.1 y (mem_at hy)
  obtain ⟨x0, ex, ex2⟩ := top_pos hLa hla hx
  obtain ⟨y0, ey, ey2⟩ := top_pos hLb hlb hy
  have hP : b ≤ 1000000000 ^ jb * (y + 1) := by rw [Nat.mul_add, ← hvb]; omega
  have hR : 1000000000 ^ (jb + s) * x ≤ a := by rw [← hva]; omega
  by_cases h1 : x ≤ y
  · by_cases h2 : 0 < s
    · obtain ⟨s, rfl⟩ : ∃ t, s = t + 1 := ⟨s - 1, by omega⟩
      obtain ⟨z, hz⟩ : ∃ z, xs[jb + s]? = some z := ⟨_, List.getElem?_eq_getElem (by omega)⟩
      have gz := hLa.1 z (mem_at hz)
      have e3 := lv_take_at hz
      have hR2 : 1000000000 ^ (jb + s) * (x * 1000000000 + z) ≤ a := by
        rw [Nat.mul_add, ← hva, ex]
        rw [show jb + (s + 1) = jb + s + 1 by omega, e3, Nat.pow_succ, Nat.mul_comm x, ← Nat.mul_assoc]
        omega
      have hmax : max ((x * 1000000000 + z) / (y + 1)) 1 = (x * 1000000000 + z) / (y + 1) := by
        refine Nat.max_eq_left ?_
        rw [Nat.le_div_iff_mul_le (by omega)]; omega
      exact rguess_wide A B ca cb jb s z x y _ b a na nb xs ys w hra hrb (by omega) hlb hx hy gx gy (by omega) hz gz h1 rfl (hid (by rw [hmax]; exact guess_le (Nat.div_mul_le_self _ _) hP hR2))
    · have hmax : max (x / (y + 1)) 1 = 1 := by rw [Nat.div_eq_of_lt (by omega)]; rfl
      exact rguess_flat A B ca cb jb s x y _ b a na nb xs ys w hra hrb (by omega) hlb hx hy gx gy (by omega) h1 h2 rfl (hid (by rw [hmax, show s = 0 by omega]; simpa using hba))
  · have hmax : max (x / (y + 1)) 1 = x / (y + 1) := by
      refine Nat.max_eq_left ?_
      rw [Nat.le_div_iff_mul_le (by omega)]; omega
    exact rguess_more A B ca cb jb s x y _ b a na nb xs ys w hra hrb (by omega) hlb hx hy gx gy (by omega) h1 rfl (hid (by rw [hmax]; exact guess_le (Nat.div_mul_le_self _ _) hP hR))
end Go.Proofs.YtleccblkafcidaaGreatDoor
/- the reference's Div -/
namespace Go.Proofs.YtleccblkafcidaaGreatDoor
open Go.RowKit
def RPair (q r : Int) (w : World) (e : Ending) (w' : World) : Prop := ∃ v1 v2, e = .returned (.tuple #[v1, v2]) ∧ RefV w' v1 q ∧ RefV w' v2 r ∧ Ext w w'
/-- a number survives a store into another's box -/
theorem RefV.box {w : World} {v : Value} {q : Int} {A1 : Option Addr} {H k1 c1 : Nat} {t : TypeId} {x : Bool} {a b : Value} (h : RefV w v q) (r : Row w H t [.bool x, .slice A1 k1 c1]) :
    RefV ((w.setCell ⟨H, 0, none⟩ a).setCell ⟨H, 1, none⟩ b) v q := by
  obtain ⟨A', k', c', xs, b', rfl, h1, h2, h3, h4, h5, h6⟩ := h
  exact ⟨_, _, _, xs, _, rfl, h1, h2, h3, RefV.two h4 r, h5, h6⟩
theorem RPair.stored {w w3 : World} {q r : Int} {v1 v2 : Value} {b1 b2 : Bool} {A1 A2 : Option Addr} {k1 c1 k2 c2 H : Nat} {t : TypeId} (r1 : Row w3 H t [.bool false, .slice none 0 0]) (r2 : Row w3 (H + 1) t [.bool false, .slice none 0 0])
    (hw : Ext w w3) (hH : w.heap.size ≤ H) (h1 : RefV w3 v1 q) (h2 : RefV w3 v2 r) (e1 : v1 = .agg #[.bool b1, .slice A1 k1 c1]) (e2 : v2 = .agg #[.bool b2, .slice A2 k2 c2]) :
    RPair q r w (.returned (.tuple #[.agg #[.bool b1, .slice A1 k1 c1], .agg #[.bool b2, .slice A2 k2 c2]]))
      ((((w3.setCell ⟨H, 0, none⟩ (.bool b1)).setCell ⟨H, 1, none⟩ (.slice A1 k1 c1)).setCell ⟨H + 1, 0, none⟩ (.bool b2)).setCell ⟨H + 1, 1, none⟩ (.slice A2 k2 c2)) := by
  subst e1 e2
  have r2' : Row ((w3.setCell ⟨H, 0, none⟩ (.bool b1)).setCell ⟨H, 1, none⟩ (.slice A1 k1 c1)) (H + 1) t [.bool false, .slice none 0 0] :=
    (r2.far (by show H + 1 ≠ H; omega) _).far (by show H + 1 ≠ H; omega) _
  exact ⟨_, _, rfl, (h1.box r1).box r2', (h2.box r1).box r2',
    (((hw.set' (by show _ ≤ H; omega) _).set' (by show _ ≤ H; omega) _).set' (by show _ ≤ H + 1; omega) _).set' (by show _ ≤ H + 1; omega) _⟩
theorem far2 {w : World} {H i g j : Nat} {u : Value} (h : H ≠ g) : (w.setCell ⟨H, i, none⟩ u).cell? ⟨g, j, none⟩ = w.cell? ⟨g, j, none⟩ := World.cell?_setCell_far _ _ _ _ h
theorem RPair.drew {w w' : World} {q r : Int} {e : Ending} (h : RPair q r w e w') : RPair q r w e w'.drew := by
  obtain ⟨v1, v2, h1, h2, h3, h4⟩ := h
  exact ⟨v1, v2, h1, h2.ext (Ext.rfl' _).drew', h3.ext (Ext.rfl' _).drew', h4.drew'⟩
set_option maxRecDepth 100000 in
set_option maxHeartbeats 6400000 in
theorem rdiv_any (va vb : Value) (a : Int) (b : Nat) (w : World) (ha : RefV w va a) (hb : RefV w vb (b : Int)) (la : a.natAbs ≤ BIG) (lb : b ≤ BIG) (hb0 : 0 < b) :
    Calls Tryz.prog 57 #[va, vb] w (RPair (a / b) (a % b) w) := by
  have HA := hid ha
  have HB := hid hb
  obtain ⟨A, ka, ca, xs, na, rfl, HNA, hla, hca, hra, hLa, hva⟩ := ha
  obtain ⟨B, kb, cb, ys, nb, rfl, -⟩ := hb
  have hW4 : Ext w ((((w.alloc (.cells #[.bool na, .slice A ka ca] 47)).alloc (.cells #[.bool nb, .slice B kb cb] 47)).alloc (.cells #[.bool false, .slice none 0 0] 47)).alloc (.cells #[.bool false, .slice none 0 0] 47)) := ((((Ext.rfl' w).alloc' _).alloc' _).alloc' _).alloc' _
  have hk := fun w' (e : Ext ((((w.alloc (.cells #[.bool na, .slice A ka ca] 47)).alloc (.cells #[.bool nb, .slice B kb cb] 47)).alloc (.cells #[.bool false, .slice none 0 0] 47)).alloc (.cells #[.bool false, .slice none 0 0] 47)) w') => four e
  obtain ⟨W4, hW4e⟩ : ∃ W4, ((((w.alloc (.cells #[.bool na, .slice A ka ca] 47)).alloc (.cells #[.bool nb, .slice B kb cb] 47)).alloc (.cells #[.bool false, .slice none 0 0] 47)).alloc (.cells #[.bool false, .slice none 0 0] 47)) = W4 := ⟨_, rfl⟩
  have hsz : W4.heap.size = w.heap.size + 1 + 1 + 1 + 1 := by rw [← hW4e]; simp
  rw [hW4e] at hW4
  rw [hW4e] at hk
  have hrq : Row ((W4.alloc (.cells #[.bool false, .slice none 0 0] 47)).alloc (.cells #[.bool false, .slice A ka ca] 47)) (w.heap.size + 1 + 1 + 1 + 1) 47 [.bool false, .slice none 0 0] := by
    have := Row.alloc (Row.new W4 47 [.bool false, .slice none 0 0]) (.cells #[.bool false, .slice A ka ca] 47)
    rwa [hsz] at this
  have hrr : Row ((W4.alloc (.cells #[.bool false, .slice none 0 0] 47)).alloc (.cells #[.bool false, .slice A ka ca] 47)) (w.heap.size + 1 + 1 + 1 + 1 + 1) 47 [.bool false, .slice A ka ca] := by
    have := Row.new (W4.alloc (.cells #[.bool false, .slice none 0 0] 47)) 47 [.bool false, .slice A ka ca]
    rwa [World.size_alloc, hsz] at this
  have hx6 : Ext W4 ((W4.alloc (.cells #[.bool false, .slice none 0 0] 47)).alloc (.cells #[.bool false, .slice A ka ca] 47)) := ((Ext.rfl' W4).alloc' _).alloc' _
  have hvr : RefV ((W4.alloc (.cells #[.bool false, .slice none 0 0] 47)).alloc (.cells #[.bool false, .slice A ka ca] 47)) (.agg #[.bool false, .slice A ka ca]) (a.natAbs : Int) :=
    ⟨A, ka, ca, xs, false, rfl, hid (by symm; exact decide_eq_false (by omega)), hla, hca, (hra.ext hW4).ext hx6, hLa, by rw [hva, Int.natAbs_natCast]⟩
  have hvq : RefV ((W4.alloc (.cells #[.bool false, .slice none 0 0] 47)).alloc (.cells #[.bool false, .slice A ka ca] 47)) (.agg #[.bool false, .slice none 0 0]) ((0 : Nat) : Int) :=
    ⟨none, 0, 0, [], false, rfl, hid (by rfl), rfl, Nat.le_refl _, Rd.nil _ _, K.Lim.nil, rfl⟩
  have HK := hid hk
  have HSZ := hid hsz
  have HW4 := hid hW4
  have HE := hid hW4e
  have HRQ := hid hrq
  have HRR := hid hrr
  have HX6 := hid hx6
  have HVR := hid hvr
  have HVQ := hid hvq
  obtain ⟨⟨k0, k1, k2, k3⟩, -⟩ := hk _ (Ext.rfl' _)
  clear hra hla hLa hva hW4 hk hsz hW4e hrq hrr hx6 hvr hvq
  go_enter Tryz.func57, Tryz.ntmps57
  go_upto_region 1 with fail
  rw [HE.out]
  have hx5 : Ext W4 (W4.alloc (.cells #[.bool false, .slice none 0 0] 47)) := (Ext.rfl' W4).alloc' _
  obtain ⟨W5, hW5⟩ : ∃ W5, W4.alloc (.cells #[.bool false, .slice none 0 0] 47) = W5 := ⟨_, rfl⟩
  rw [hW5] at hx5 HRQ HRR HX6 HVR HVQ
  have HW5 := hid hW5
  have hsz5 : W5.heap.size = w.heap.size + 1 + 1 + 1 + 1 + 1 := by rw [← hW5, World.size_alloc, HSZ.out]
  have HSZ5 := hid hsz5
  clear k0 k1 k2 k3 hW5 hsz5
  obtain ⟨⟨k0, k1, k2, k3⟩, -⟩ := HK.out _ hx5
  go_upto_region 2 with fail
  rw [HW5.out, HSZ.out]
  go_wp2_with fail
  clear k0 k1 k2 k3
  rw [HSZ5.out]
  go_loopg [8] a.natAbs (fun g _ wr => ∃ (Q R : Nat) (bq br : Bool) (Aq Ar : Option Addr) (kq cq kr cr : Nat), R = g ∧ Row wr (w.heap.size + 1 + 1 + 1 + 1) 47 [.bool bq, .slice Aq kq cq] ∧ Row wr (w.heap.size + 1 + 1 + 1 + 1 + 1) 47 [.bool br, .slice Ar kr cr] ∧
      RefV wr (.agg #[.bool bq, .slice Aq kq cq]) (Q : Int) ∧ RefV wr (.agg #[.bool br, .slice Ar kr cr]) (R : Int) ∧ Hid (Q * b + R = a.natAbs) ∧ Ext W4 wr)
  case atStart => exact ⟨0, a.natAbs, _, _, _, _, _, _, _, _, rfl, HRQ.out, HRR.out, HVQ.out, HVR.out, hid (by simp), HX6.out⟩
  case round =>
    obtain ⟨Q, R, bq, br, Aq, Ar, kq, cq, kr, cr, rfl, hrq, hrr, hvq, hvr, HQR, hex⟩ := hrel
    have HRBIG : Hid (R ≤ BIG) := hid (by have := HQR.out; omega)
    have HQBIG : Hid (Q ≤ BIG) := hid (by have := HQR.out; have := Nat.le_mul_of_pos_right Q hb0; omega)
    have HRQ := hid hrq
    have HRR := hid hrr
    have HVQ := hid hvq
    have HVR := hid hvr
    obtain ⟨⟨k0, k1, k2, k3⟩, -⟩ := HK.out _ hex
    obtain ⟨q0, q1, -, -⟩ := row_facts hrq
    obtain ⟨r0, r1, -, -⟩ := row_facts hrr
    clear hrq hrr hvq hvr HX6
    by_cases hlt : R < b
    · have hsv : sgnI (R : Int) (b : Int) = -1 := by unfold sgnI; rw [if_pos (by omega)]
      have HSV := hid hsv
      clear hsv
      go_wp2_with fail
      refine (rcmp_any _ _ (R : Int) (b : Int) wr HVR.out ((HB.out.ext HW4.out).ext hex) (by rw [Int.natAbs_natCast]; exact HRBIG.out) (by rw [Int.natAbs_natCast]; exact lb)).mono ?_
      rintro e w5 ⟨rfl, hx5⟩
      rw [HSV.out]
      have hqv : Q = a.natAbs / b ∧ R = a.natAbs % b := by
        have e := HQR.out
        have h1 : a.natAbs / b = Q := by
          rw [← e, Nat.mul_comm, Nat.mul_add_div (by omega), Nat.div_eq_of_lt hlt]; rfl
        have h2 : a.natAbs % b = R := by rw [← e, Nat.mul_comm, Nat.mul_add_mod, Nat.mod_eq_of_lt hlt]
        exact ⟨h1.symm, h2.symm⟩
      have HQV := hid hqv
      have hex5 := hex.step hx5
      have HEX5 := hid hex5
      have HRQ5 := hid (HRQ.out.ext hx5)
      have HRR5 := hid (HRR.out.ext hx5)
      have HVQ5 := hid (HVQ.out.ext hx5)
      have HVR5 := hid (HVR.out.ext hx5)
      have HWW5 := hid (HW4.out.step hex5)
      clear k0 k1 k2 k3 q0 q1 r0 r1 HRQ HRR HVQ HVR hex hx5 hqv
      obtain ⟨⟨k0, k1, k2, k3⟩, s1, s2, hlen⟩ := HK.out _ hex5
      obtain ⟨q0, q1, -, -⟩ := row_facts HRQ5.out
      obtain ⟨r0, r1, -, -⟩ := row_facts HRR5.out
      have S1 := hid s1
      have S2 := hid s2
      obtain ⟨x0, x1, x2, x3⟩ := row_facts s1
      obtain ⟨y0, y1, y2, y3⟩ := row_facts s2
      clear s1 s2 hex5
      have n1 : ¬ (w.heap.size + 1 + 1 = w.heap.size + 1 + 1 + 1 + 1) := by omega
      have n2 : ¬ (w.heap.size + 1 + 1 = w.heap.size + 1 + 1 + 1 + 1 + 1) := by omega
      have n3 : ¬ (w.heap.size + 1 + 1 + 1 = w.heap.size + 1 + 1 + 1 + 1) := by omega
      have n4 : ¬ (w.heap.size + 1 + 1 + 1 = w.heap.size + 1 + 1 + 1 + 1 + 1) := by omega
      have n5 : ¬ (w.heap.size + 1 + 1 = w.heap.size + 1) := by omega
      have n6 : ¬ (w.heap.size + 1 + 1 + 1 = w.heap.size + 1) := by omega
      have m1 : ¬ (w.heap.size + 1 + 1 + 1 + 1 = w.heap.size + 1 + 1) := by omega
      have m2 : ¬ (w.heap.size + 1 + 1 + 1 + 1 + 1 = w.heap.size + 1 + 1) := by omega
      have m3 : ¬ (w.heap.size + 1 + 1 + 1 + 1 = w.heap.size + 1 + 1 + 1) := by omega
      have m4 : ¬ (w.heap.size + 1 + 1 + 1 + 1 + 1 = w.heap.size + 1 + 1 + 1) := by omega
      have m5 : ¬ (w.heap.size + 1 = w.heap.size + 1 + 1) := by omega
      have m6 : ¬ (w.heap.size + 1 = w.heap.size + 1 + 1 + 1) := by omega
      cases na with
      | false =>
        have ha0 : 0 ≤ a := by have := HNA.out; simpa using this.symm
        have e1 : a / (b : Int) = (Q : Int) := by rw [HQV.out.1, Int.natCast_ediv]; congr 1; omega
        have e2 : a % (b : Int) = (R : Int) := by rw [HQV.out.2, Int.natCast_emod]; congr 1; omega
        have E1 := hid e1
        have E2 := hid e2
        clear e1 e2 ha0
        go_wp2_with fail
        go_region_held3 (fun w' => w'.cell? ⟨w.heap.size + 1 + 1 + 1 + 1, 0, none⟩ = some (.bool bq) ∧ w'.cell? ⟨w.heap.size + 1 + 1 + 1 + 1, 1, none⟩ = some (.slice Aq kq cq) ∧ w'.cell? ⟨w.heap.size + 1 + 1 + 1 + 1 + 1, 0, none⟩ = some (.bool br) ∧ w'.cell? ⟨w.heap.size + 1 + 1 + 1 + 1 + 1, 1, none⟩ = some (.slice Ar kr cr)) (go_keep) (fail)
        have hfin := (RPair.stored (q := a / (b : Int)) (r := a % (b : Int)) S1.out S2.out HWW5.out (by omega) (by rw [E1.out]; exact HVQ5.out) (by rw [E2.out]; exact HVR5.out) rfl rfl).drew
        have HF := hid hfin
        clear hfin
        go_wp2
        refine bodyPost_ret (v := .tuple #[.agg #[.bool bq, .slice Aq kq cq], .agg #[.bool br, .slice Ar kr cr]]) (by simp [results, Tryz.results57, go_sem, x0, x1, y0, y1]) rfl HF.out
      | true =>
        have ha0 : a < 0 := by have := HNA.out; simpa using this.symm
        have HKQ : Hid (∀ w', Ext w5 w' → w'.cell? ⟨w.heap.size + 1 + 1 + 1 + 1, 0, none⟩ = some (.bool bq) ∧ w'.cell? ⟨w.heap.size + 1 + 1 + 1 + 1, 1, none⟩ = some (.slice Aq kq cq) ∧ w'.cell? ⟨w.heap.size + 1 + 1 + 1 + 1 + 1, 0, none⟩ = some (.bool br) ∧ w'.cell? ⟨w.heap.size + 1 + 1 + 1 + 1 + 1, 1, none⟩ = some (.slice Ar kr cr)) := hid fun w' e => by
          obtain ⟨a0, a1, -, -⟩ := row_facts (HRQ5.out.ext e)
          obtain ⟨b0, b1, -, -⟩ := row_facts (HRR5.out.ext e)
          exact ⟨a0, a1, b0, b1⟩
        have hcur : Ext w5 w5 := Ext.rfl' _
        by_cases hr0 : R = 0
        · subst hr0
          have hv := div_neg (n := (b : Int)) ha0 (by omega) (by rw [Int.natAbs_natCast]; exact HQV.out.2.symm)
          rw [Int.natAbs_natCast, ← HQV.out.1] at hv
          have HVD := hid hv
          clear hv ha0
          go_wp2_with fail
          refine (rsign_at0 w5 HVR5.out (hid (show sgn0 ((0 : Nat) : Int) = 0 from rfl))).mono ?_
          rintro e w6 ⟨rfl, hx6⟩
          have hcur := hx6
          clear x0 x1 x2 x3 y0 y1 y2 y3 q0 q1 r0 r1 k0 k1 k2 k3
          obtain ⟨q0, q1, r0, r1⟩ := HKQ.out _ hcur
          obtain ⟨x0, x1, x2, x3⟩ := row_facts (S1.out.ext hcur)
          obtain ⟨y0, y1, y2, y3⟩ := row_facts (S2.out.ext hcur)
          go_wp2_with fail
          go_region_held3 (fun w' => w'.cell? ⟨w.heap.size + 1 + 1 + 1 + 1, 0, none⟩ = some (.bool bq) ∧ w'.cell? ⟨w.heap.size + 1 + 1 + 1 + 1, 1, none⟩ = some (.slice Aq kq cq) ∧ w'.cell? ⟨w.heap.size + 1 + 1 + 1 + 1 + 1, 0, none⟩ = some (.bool br) ∧ w'.cell? ⟨w.heap.size + 1 + 1 + 1 + 1 + 1, 1, none⟩ = some (.slice Ar kr cr)) (first | go_keep | exact HKQ.out _ hcur)
            (first | (go_at_call 81; refine (rminus_any _ (Q : Int) _ (HVQ5.out.ext ?_)).mono ?_; (first | exact hcur | exact hcur.drew'); rintro e w7 ⟨v7, rfl, hv7, hx⟩; have hcur := Ext.step hcur (by first | exact hx | exact Ext.undrew hx); have HV7 := hid hv7; obtain ⟨A7, k7, c7, xs7, b7, rfl, -⟩ := hv7; obtain ⟨x0, x1, x2, x3⟩ := row_facts (S1.out.ext hcur); obtain ⟨y0, y1, y2, y3⟩ := row_facts (S2.out.ext hcur)))
          all_goals
            have hfin := RPair.stored (S1.out.ext hcur) (S2.out.ext hcur) (HWW5.out.step hcur) (by omega) (q := a / (b : Int)) (by rw [HVD.out.1]; exact HV7.out) (r := a % (b : Int)) (by rw [HVD.out.2]; exact HVR5.out.ext hcur) rfl rfl
            have HF := hid hfin
            clear hfin
            go_wp2
            refine bodyPost_ret (v := .tuple #[.agg #[.bool b7, .slice A7 k7 c7], .agg #[.bool br, .slice Ar kr cr]]) (by simp [results, Tryz.results57, go_sem, x0, x1, y0, y1]) rfl ?_
            first | exact HF.out | exact HF.out.drew
        · have hr1 : 0 < R := by omega
          have hv := div_neg' (n := (b : Int)) ha0 (by omega) (by rw [Int.natAbs_natCast, ← HQV.out.2]; exact hr1)
          rw [Int.natAbs_natCast, ← HQV.out.2, ← HQV.out.1] at hv
          have HVD := hid hv
          have hs1 : sgn0 ((R : Nat) : Int) = 1 := by unfold sgn0; rw [if_neg (by omega), if_neg (by omega)]
          have HS1 := hid hs1
          have hone : (1 : Int).natAbs ≤ BIG := by unfold BIG; rw [show (1000 : Nat) = 999 + 1 from rfl, zeros_succ, K.lv]; omega
          have HONE := hid hone
          have HQB : Hid ((Q : Int).natAbs ≤ BIG) := hid (by rw [Int.natAbs_natCast]; exact HQBIG.out)
          have HRB : Hid ((R : Int).natAbs ≤ BIG) := hid (by rw [Int.natAbs_natCast]; exact HRBIG.out)
          have HBB : Hid ((b : Int).natAbs ≤ BIG) := hid (by rw [Int.natAbs_natCast]; exact lb)
          have hrb : R ≤ b := by omega
          clear hv ha0 hr0 hs1 hone
          go_wp2_with fail
          refine (rsign_at0 w5 HVR5.out HS1).mono ?_
          rintro e w6 ⟨rfl, hx6⟩
          have hcur := hx6
          have HKB : Hid (∀ w', Ext w5 w' → w'.cell? ⟨w.heap.size + 1, 0, none⟩ = some (.bool nb) ∧ w'.cell? ⟨w.heap.size + 1, 1, none⟩ = some (.slice B kb cb)) := hid fun w' e => by
            obtain ⟨⟨-, -, b2, b3⟩, -⟩ := HK.out _ (HEX5.out.step e)
            exact ⟨b2, b3⟩
          clear x0 x1 x2 x3 y0 y1 y2 y3 q0 q1 r0 r1 k0 k1 k2 k3
          obtain ⟨q0, q1, r0, r1⟩ := HKQ.out _ hcur
          obtain ⟨k2, k3⟩ := HKB.out _ hcur
          obtain ⟨x0, x1, x2, x3⟩ := row_facts (S1.out.ext hcur)
          obtain ⟨y0, y1, y2, y3⟩ := row_facts (S2.out.ext hcur)
          have HB5 := hid (HB.out.ext HWW5.out)
          go_wp2_with fail
          go_region_held3 (fun w' => w'.cell? ⟨w.heap.size + 1, 0, none⟩ = some (.bool nb) ∧ w'.cell? ⟨w.heap.size + 1, 1, none⟩ = some (.slice B kb cb) ∧ w'.cell? ⟨w.heap.size + 1 + 1 + 1 + 1, 0, none⟩ = some (.bool bq) ∧ w'.cell? ⟨w.heap.size + 1 + 1 + 1 + 1, 1, none⟩ = some (.slice Aq kq cq) ∧ w'.cell? ⟨w.heap.size + 1 + 1 + 1 + 1 + 1, 0, none⟩ = some (.bool br) ∧ w'.cell? ⟨w.heap.size + 1 + 1 + 1 + 1 + 1, 1, none⟩ = some (.slice Ar kr cr)) (first | exact ⟨(HKB.out _ hcur).1, (HKB.out _ hcur).2, HKQ.out _ hcur⟩ | (refine ⟨?_, ?_, ?_, ?_, ?_, ?_⟩ <;> (repeat (rw [far2 (by omega)])) <;> (first | exact (HKB.out _ hcur).1 | exact (HKB.out _ hcur).2 | exact (HKQ.out _ hcur).1 | exact (HKQ.out _ hcur).2.1 | exact (HKQ.out _ hcur).2.2.1 | exact (HKQ.out _ hcur).2.2.2)) | go_keep)
            (first
              | (go_at_call 28; refine (of_one _).mono ?_; rintro e w7 ⟨v7, rfl, hv7, hx⟩; (try have HV10 := hid (HV10.out.ext (w' := w7) (by first | exact hx | exact Ext.undrew hx))); have HV7 := hid hv7; obtain ⟨A7, k7, c7, xs7, b7, rfl, -⟩ := hv7; have hcur := Ext.step hcur (by first | exact hx | exact Ext.undrew hx); obtain ⟨x0, x1, x2, x3⟩ := row_facts (S1.out.ext hcur); obtain ⟨y0, y1, y2, y3⟩ := row_facts (S2.out.ext hcur))
              | (go_at_call 31; refine (radd_any _ _ (Q : Int) 1 _ (HVQ5.out.ext ?_) (HV7.out.ext ?_) HQB.out HONE.out).mono ?_; (first | exact hcur | exact hcur.drew'); (first | exact Ext.rfl' _ | exact (Ext.rfl' _).drew'); rintro e w8 ⟨v8, rfl, hv8, hx⟩; (try have HV10 := hid (HV10.out.ext (w' := w8) (by first | exact hx | exact Ext.undrew hx))); have HV8 := hid hv8; obtain ⟨A8, k8, c8, xs8, b8, rfl, -⟩ := hv8; have hcur := Ext.step hcur (by first | exact hx | exact Ext.undrew hx); obtain ⟨x0, x1, x2, x3⟩ := row_facts (S1.out.ext hcur); obtain ⟨y0, y1, y2, y3⟩ := row_facts (S2.out.ext hcur))
              | (go_at_call 81; refine (rminus_any _ ((Q : Int) + 1) _ (HV8.out.ext ?_)).mono ?_; (first | exact Ext.rfl' _ | exact (Ext.rfl' _).drew'); rintro e w9 ⟨v9, rfl, hv9, hx⟩; (try have HV10 := hid (HV10.out.ext (w' := w9) (by first | exact hx | exact Ext.undrew hx))); have HV9 := hid hv9; obtain ⟨A9, k9, c9, xs9, b9, rfl, -⟩ := hv9; have hcur := Ext.step hcur (by first | exact hx | exact Ext.undrew hx); obtain ⟨x0, x1, x2, x3⟩ := row_facts (S1.out.ext hcur); obtain ⟨y0, y1, y2, y3⟩ := row_facts (S2.out.ext hcur))
              | (go_at_call 33; refine (rsub_any _ _ (b : Int) (R : Int) _ (HB5.out.ext ?_) (HVR5.out.ext ?_) HBB.out HRB.out).mono ?_; (first | exact hcur | exact hcur.drew'); (first | exact hcur | exact hcur.drew'); rintro e w10 ⟨v10, rfl, hv10, hx⟩; (try have HV7 := hid (HV7.out.ext (w' := w10) (by first | exact hx | exact Ext.undrew hx))); (try have HV8 := hid (HV8.out.ext (w' := w10) (by first | exact hx | exact Ext.undrew hx))); (try have HV9 := hid (HV9.out.ext (w' := w10) (by first | exact hx | exact Ext.undrew hx))); have HV10 := hid hv10; obtain ⟨A10, k10, c10, xs10, b10, rfl, -⟩ := hv10; have hcur := Ext.step hcur (by first | exact hx | exact Ext.undrew hx); obtain ⟨x0, x1, x2, x3⟩ := row_facts (S1.out.ext hcur); obtain ⟨y0, y1, y2, y3⟩ := row_facts (S2.out.ext hcur)))
          all_goals
            have hv9 := HV9.out
            have hv10 := HV10.out
            rw [show -((Q : Int) + 1) = a / (b : Int) by rw [HVD.out.1]; omega] at hv9
            rw [show (b : Int) - (R : Int) = a % (b : Int) by rw [HVD.out.2, Int.ofNat_sub hrb]] at hv10
            have hfin := RPair.stored (S1.out.ext hcur) (S2.out.ext hcur) (HWW5.out.step hcur) (by omega) hv9 hv10 rfl rfl
            have HF := hid hfin
            clear hfin hv9 hv10
            go_wp2
            refine bodyPost_ret (v := .tuple #[.agg #[.bool b9, .slice A9 k9 c9], .agg #[.bool b10, .slice A10 k10 c10]]) (by simp [results, Tryz.results57, go_sem, x0, x1, y0, y1]) rfl ?_
            first | exact HF.out | exact HF.out.drew
    · have hsv : 0 ≤ sgnI (R : Int) (b : Int) := by unfold sgnI; rw [if_neg (by omega)]; split <;> omega
      obtain ⟨sv, hsv2⟩ : ∃ sv, sgnI (R : Int) (b : Int) = sv := ⟨_, rfl⟩
      rw [hsv2] at hsv
      have HSV := hid hsv2
      clear hsv2
      go_wp2_with fail
      refine (rcmp_any _ _ (R : Int) (b : Int) wr HVR.out ((HB.out.ext HW4.out).ext hex) (by rw [Int.natAbs_natCast]; exact HRBIG.out) (by rw [Int.natAbs_natCast]; exact lb)).mono ?_
      rintro e w5 ⟨rfl, hx5⟩
      rw [HSV.out]
      have hex5 := hex.step hx5
      have HRQ5 := hid (HRQ.out.ext hx5)
      have HRR5 := hid (HRR.out.ext hx5)
      have HVQ5 := hid (HVQ.out.ext hx5)
      have HVR5 := hid (HVR.out.ext hx5)
      clear k0 k1 k2 k3 q0 q1 r0 r1 HRQ HRR HVQ HVR hex hx5
      obtain ⟨⟨k0, k1, k2, k3⟩, -⟩ := HK.out _ hex5
      obtain ⟨r0, r1, -, -⟩ := row_facts HRR5.out
      go_wp2_with fail
      refine (rguess_any _ _ R b w5 HVR5.out ((HB.out.ext HW4.out).ext hex5) HRBIG.out hb0 (by omega)).mono ?_
      rintro e w6 ⟨vg, g, rfl, hvg, hg1, hgb, hx6⟩
      have HVG0 := hid hvg
      obtain ⟨Ag, kg, cg, xsg, bg, rfl, -⟩ := hvg
      have hx7 : Ext w5 (w6.alloc (.cells #[.bool bg, .slice Ag kg cg] 47)) := hx6.alloc' _
      have hx67 : Ext w6 (w6.alloc (.cells #[.bool bg, .slice Ag kg cg] 47)) := (Ext.rfl' w6).alloc' _
      have hrg : Row (w6.alloc (.cells #[.bool bg, .slice Ag kg cg] 47)) w6.heap.size 47 [.bool bg, .slice Ag kg cg] := Row.new w6 _ _
      have hgl : w.heap.size + 1 + 1 + 1 + 1 + 1 < w6.heap.size := (HRR5.out.ext hx6).lt
      obtain ⟨W7, hW7⟩ : ∃ W7, w6.alloc (.cells #[.bool bg, .slice Ag kg cg] 47) = W7 := ⟨_, rfl⟩
      rw [hW7] at hx7 hx67 hrg
      have HW7 := hid hW7
      have HRG := hid hrg
      have HVG := hid (HVG0.out.ext hx67)
      have hex7 := hex5.step hx7
      have HRQ7 := hid (HRQ5.out.ext hx7)
      have HRR7 := hid (HRR5.out.ext hx7)
      have HVQ7 := hid (HVQ5.out.ext hx7)
      have HVR7 := hid (HVR5.out.ext hx7)
      clear k0 k1 k2 k3 r0 r1 HRQ5 HRR5 HVQ5 HVR5 hex5 hx7 hx67 hrg hW7 HVG0 hx6
      go_upto_region 5 with fail
      rw [HW7.out]
      obtain ⟨q0, q1, -, -⟩ := row_facts HRQ7.out
      obtain ⟨g0, g1, -, -⟩ := row_facts HRG.out
      have hgB : g ≤ BIG := by
        have h1 := Nat.le_mul_of_pos_right g hb0
        have h2 := HRBIG.out
        omega
      have HGB := hid hgB
      clear hgB
      go_wp2_with fail
      refine (radd_any _ _ (Q : Int) (g : Int) W7 HVQ7.out HVG.out (by rw [Int.natAbs_natCast]; exact HQBIG.out) (by rw [Int.natAbs_natCast]; exact HGB.out)).mono ?_
      rintro e w8 ⟨v8, rfl, hv8, hx8⟩
      have HV8 := hid hv8
      obtain ⟨A8, k8, c8, xs8, b8, rfl, -⟩ := hv8
      have hrq8 := HRQ7.out.ext hx8
      have hrr8 := HRR7.out.ext hx8
      have hrg8 := HRG.out.ext hx8
      have hrq9 : Row ((w8.setCell ⟨w.heap.size + 1 + 1 + 1 + 1, 0, none⟩ (.bool b8)).setCell ⟨w.heap.size + 1 + 1 + 1 + 1, 1, none⟩ (.slice A8 k8 c8)) (w.heap.size + 1 + 1 + 1 + 1) 47 [.bool b8, .slice A8 k8 c8] := (hrq8.set 0 _).set 1 _
      have hrr9 : Row ((w8.setCell ⟨w.heap.size + 1 + 1 + 1 + 1, 0, none⟩ (.bool b8)).setCell ⟨w.heap.size + 1 + 1 + 1 + 1, 1, none⟩ (.slice A8 k8 c8)) (w.heap.size + 1 + 1 + 1 + 1 + 1) 47 [.bool br, .slice Ar kr cr] := (hrr8.far (by show w.heap.size + 1 + 1 + 1 + 1 + 1 ≠ w.heap.size + 1 + 1 + 1 + 1; omega) _).far (by show w.heap.size + 1 + 1 + 1 + 1 + 1 ≠ w.heap.size + 1 + 1 + 1 + 1; omega) _
      have hrg9 : Row ((w8.setCell ⟨w.heap.size + 1 + 1 + 1 + 1, 0, none⟩ (.bool b8)).setCell ⟨w.heap.size + 1 + 1 + 1 + 1, 1, none⟩ (.slice A8 k8 c8)) w6.heap.size 47 [.bool bg, .slice Ag kg cg] := (hrg8.far (by show w6.heap.size ≠ w.heap.size + 1 + 1 + 1 + 1; omega) _).far (by show w6.heap.size ≠ w.heap.size + 1 + 1 + 1 + 1; omega) _
      have hv9 := HV8.out.box (a := .bool b8) (b := .slice A8 k8 c8) hrq8
      have hvr9 := (HVR7.out.ext hx8).box (a := .bool b8) (b := .slice A8 k8 c8) hrq8
      have hvg9 := (HVG.out.ext hx8).box (a := .bool b8) (b := .slice A8 k8 c8) hrq8
      have hex9 : Ext W4 ((w8.setCell ⟨w.heap.size + 1 + 1 + 1 + 1, 0, none⟩ (.bool b8)).setCell ⟨w.heap.size + 1 + 1 + 1 + 1, 1, none⟩ (.slice A8 k8 c8)) := ((hex7.step hx8).set' (by show W4.heap.size ≤ _; rw [HSZ.out]; exact Nat.le_refl _) _).set' (by show W4.heap.size ≤ _; rw [HSZ.out]; exact Nat.le_refl _) _
      obtain ⟨W9, hW9⟩ : ∃ W9, ((w8.setCell ⟨w.heap.size + 1 + 1 + 1 + 1, 0, none⟩ (.bool b8)).setCell ⟨w.heap.size + 1 + 1 + 1 + 1, 1, none⟩ (.slice A8 k8 c8)) = W9 := ⟨_, rfl⟩
      rw [hW9] at hrq9 hrr9 hrg9 hv9 hvr9 hvg9 hex9
      have HW9 := hid hW9
      have HRQ9 := hid hrq9
      have HRR9 := hid hrr9
      have HRG9 := hid hrg9
      have HV9 := hid hv9
      have HVR9 := hid hvr9
      have HVG9 := hid hvg9
      have HEX9 := hid hex9
      clear q0 q1 g0 g1
      obtain ⟨q0, q1, q2, q3⟩ := row_facts hrq8
      clear hrq8 hrr8 hrg8 hrq9 hrr9 hrg9 hv9 hvr9 hvg9 hex9 hW9 hx8 hex7 HRQ7 HRR7 HRG HVQ7 HVR7 HVG HV8
      go_upto_region 6 with fail
      rw [HW9.out]
      clear q0 q1 q2 q3
      obtain ⟨⟨k0, k1, k2, k3⟩, -⟩ := HK.out _ HEX9.out
      obtain ⟨r0, r1, r2, r3⟩ := row_facts HRR9.out
      obtain ⟨g0, g1, -, -⟩ := row_facts HRG9.out
      have hcur : Ext W9 W9 := Ext.rfl' _
      have HBW := hid ((HB.out.ext HW4.out).ext HEX9.out)
      have hgb2 : Hid (((g : Int) * (b : Int)).natAbs ≤ BIG) := hid (by rw [← Int.natCast_mul, Int.natAbs_natCast]; have := HRBIG.out; omega)
      have B1 : Hid ((g : Int).natAbs ≤ BIG) := hid (by rw [Int.natAbs_natCast]; exact HGB.out)
      have B2 : Hid ((b : Int).natAbs ≤ BIG) := hid (by rw [Int.natAbs_natCast]; exact lb)
      have B3 : Hid ((R : Int).natAbs ≤ BIG) := hid (by rw [Int.natAbs_natCast]; exact HRBIG.out)
      have HSUB : Hid ((R : Int) - (g : Int) * (b : Int) = ((R - g * b : Nat) : Int)) := hid (by rw [Int.ofNat_sub hgb, Int.natCast_mul])
      have HMEAS : Hid (R - g * b < R) := hid (by have := Nat.mul_pos (show 0 < g by omega) hb0; omega)
      have HNEW : Hid ((Q + g) * b + (R - g * b) = a.natAbs) := hid (by rw [← HQR.out, Nat.add_mul]; omega)
      have HGBL := hid hgb
      clear hgb HQR
      go_region_with (first
        | (go_at_call 30; refine (rmul_any _ _ (g : Int) (b : Int) _ (HVG9.out.ext ?_) (HBW.out.ext ?_) B1.out B2.out).mono ?_; (first | exact hcur | exact hcur.drew'); (first | exact hcur | exact hcur.drew'); rintro e w10 ⟨v10, rfl, hv10, hx⟩; have hcur := Ext.step hcur (by first | exact hx | exact Ext.undrew hx); have HV10 := hid hv10; obtain ⟨A10, k10, c10, xs10, b10, rfl, -⟩ := hv10; obtain ⟨r0, r1, r2, r3⟩ := row_facts (HRR9.out.ext hcur))
        | (go_at_call 33; refine (rsub_any _ _ (R : Int) ((g : Int) * (b : Int)) _ (HVR9.out.ext ?_) (HV10.out.ext ?_) B3.out hgb2.out).mono ?_; (first | exact hcur | exact hcur.drew'); (first | exact Ext.rfl' _ | exact (Ext.rfl' _).drew'); rintro e w11 ⟨v11, rfl, hv11, hx⟩; have hcur := Ext.step hcur (by first | exact hx | exact Ext.undrew hx); have HV11 := hid hv11; obtain ⟨A11, k11, c11, xs11, b11, rfl, -⟩ := hv11; obtain ⟨r0, r1, r2, r3⟩ := row_facts (HRR9.out.ext hcur)))
      all_goals
        have hr11 := HRR9.out.ext hcur
        have hrow : Row ((w11.setCell ⟨w.heap.size + 1 + 1 + 1 + 1 + 1, 0, none⟩ (.bool b11)).setCell ⟨w.heap.size + 1 + 1 + 1 + 1 + 1, 1, none⟩ (.slice A11 k11 c11)) (w.heap.size + 1 + 1 + 1 + 1 + 1) 47 [.bool b11, .slice A11 k11 c11] := (hr11.set 0 _).set 1 _
        have hqrow : Row ((w11.setCell ⟨w.heap.size + 1 + 1 + 1 + 1 + 1, 0, none⟩ (.bool b11)).setCell ⟨w.heap.size + 1 + 1 + 1 + 1 + 1, 1, none⟩ (.slice A11 k11 c11)) (w.heap.size + 1 + 1 + 1 + 1) 47 [.bool b8, .slice A8 k8 c8] := ((HRQ9.out.ext hcur).far (by show w.heap.size + 1 + 1 + 1 + 1 ≠ w.heap.size + 1 + 1 + 1 + 1 + 1; omega) _).far (by show w.heap.size + 1 + 1 + 1 + 1 ≠ w.heap.size + 1 + 1 + 1 + 1 + 1; omega) _
        have hvr := HV11.out.box (a := .bool b11) (b := .slice A11 k11 c11) hr11
        have hvq := (HV9.out.ext hcur).box (a := .bool b11) (b := .slice A11 k11 c11) hr11
        rw [HSUB.out] at hvr
        rw [← Int.natCast_add] at hvq
        have hexE : Ext W4 ((w11.setCell ⟨w.heap.size + 1 + 1 + 1 + 1 + 1, 0, none⟩ (.bool b11)).setCell ⟨w.heap.size + 1 + 1 + 1 + 1 + 1, 1, none⟩ (.slice A11 k11 c11)) := ((HEX9.out.step hcur).set' (by show W4.heap.size ≤ w.heap.size + 1 + 1 + 1 + 1 + 1; rw [HSZ.out]; omega) _).set' (by show W4.heap.size ≤ w.heap.size + 1 + 1 + 1 + 1 + 1; rw [HSZ.out]; omega) _
        have HROW := hid hrow
        have HQROW := hid hqrow
        have HVRN := hid hvr
        have HVQN := hid hvq
        have HEXE := hid hexE
        clear hrow hqrow hvr hvq hexE hr11 k0 k1 k2 k3 r0 r1 r2 r3 g0 g1
        go_wp2
        go_roundg (R - g * b)
        case measure => exact HMEAS.out
        case rel => exact ⟨Q + g, R - g * b, _, _, _, _, _, _, _, _, rfl, HQROW.out, HROW.out, HVQN.out, HVRN.out, HNEW, HEXE.out⟩
end Go.Proofs.YtleccblkafcidaaGreatDoor
