/- Joined texts: the word law package's awake; the law WordPowers; a number is mapped by the linear map of its word as by Run; the reference's Word. -/
import Derived.Test.YtlfbgemceeibiaaGreatDoorJG17
import Derived.StillTailTactics
import Derived.Test.YtlfbgemceeibiaaGreatDoorJG14
import Derived.Test.YtlfbgemceeibiaaGreatDoorJG13
import Derived.Test.YtlfbgemceeibiaaGreatDoorJG11
set_option linter.unusedSimpArgs false
set_option linter.unusedVariables false
/- the word law package's awake -/
namespace Go.Proofs.YtlfbgemceeibiaaGreatDoor
open Go.RowKit
set_option maxRecDepth 100000 in
set_option maxHeartbeats 3200000 in
theorem awake3_any (w : World) (ht : Tab w) :
    Calls Tryz.prog 19 #[] w (fun e w' => e = .returned (.bool true) ∧ Ext w w') := by
  have HT := hid ht
  go_enter Tryz.func19, Tryz.ntmps19
  go_wp2_with fail
  refine (refCollatz_any w).mono ?_
  rintro e w1 ⟨v1, rfl, hn1, hx1⟩
  have hv1 := hn1.mapV
  obtain ⟨g1, g2, k1, rfl, -⟩ := hn1
  have r1 := Row.new w1 24 [.int .i64 2, .slice (some ⟨g1, 0, none⟩) k1 k1, .slice (some ⟨g2, 0, none⟩) k1 k1]
  have hx1a := hx1.alloc' (.cells #[.int .i64 2, .slice (some ⟨g1, 0, none⟩) k1 k1, .slice (some ⟨g2, 0, none⟩) k1 k1] 24)
  have hv1a := hv1.ext ((Ext.rfl' w1).alloc' (.cells #[.int .i64 2, .slice (some ⟨g1, 0, none⟩) k1 k1, .slice (some ⟨g2, 0, none⟩) k1 k1] 24))
  obtain ⟨W1, hW1⟩ : ∃ W1, w1.alloc (.cells #[.int .i64 2, .slice (some ⟨g1, 0, none⟩) k1 k1, .slice (some ⟨g2, 0, none⟩) k1 k1] 24) = W1 := ⟨_, rfl⟩
  rw [hW1] at hx1a hv1a
  have r1 : Row W1 w1.heap.size 24 [.int .i64 2, .slice (some ⟨g1, 0, none⟩) k1 k1, .slice (some ⟨g2, 0, none⟩) k1 k1] := by rw [← hW1]; exact r1
  have HW1 := hid hW1
  have HX1 := hid hx1a
  have HV1 := hid hv1a
  have R1 := hid r1
  obtain ⟨f0, f1, f2, -, -, -⟩ := row_facts3 r1
  clear hx1 hx1a hv1 hv1a r1 hW1
  go_upto_region 2 with fail
  rw [HW1.out]
  go_wp2_with fail
  refine (line110_ok _ _ _ (HV1.out.ext ((Ext.rfl' _).alloc' _)) (Row.new _ _ _).rd0 (HT.out.ext (HX1.out.alloc' _))).mono ?_
  rintro e w2 ⟨rfl, hx2⟩
  have hy2 := (((Ext.rfl' W1).alloc' _).step hx2).alloc' (.cells #[.string ⟨#[57]⟩, .string ⟨#[53]⟩, .string ⟨#[56]⟩] 41)
  have r2 := Row.new w2 41 [.string ⟨#[57]⟩, .string ⟨#[53]⟩, .string ⟨#[56]⟩]
  obtain ⟨W2, hW2⟩ : ∃ W2, w2.alloc (.cells #[.string ⟨#[57]⟩, .string ⟨#[53]⟩, .string ⟨#[56]⟩] 41) = W2 := ⟨_, rfl⟩
  rw [hW2] at hy2
  have r2 : Row W2 w2.heap.size 41 [.string ⟨#[57]⟩, .string ⟨#[53]⟩, .string ⟨#[56]⟩] := by rw [← hW2]; exact r2
  have HY2 := hid hy2
  have HW2 := hid hW2
  have R2 := hid r2
  clear f0 f1 f2 hx2 hy2 r2 hW2
  obtain ⟨f0, f1, f2, -, -, -⟩ := row_facts3 (R1.out.ext HY2.out)
  go_upto_region 3 with fail
  rw [HW2.out]
  go_wp2_with fail
  refine (rest110_ok _ _ _ (HV1.out.ext (HY2.out.alloc' _)) (Row.new _ _ _).rd0 (HT.out.ext (HX1.out.step (HY2.out.alloc' _)))).mono ?_
  rintro e w3 ⟨rfl, hx3⟩
  have HX3 := hid (((Ext.rfl' W2).alloc' _).step hx3)
  clear f0 f1 f2 hx3
  obtain ⟨f0, f1, f2, -, -, -⟩ := row_facts3 ((R1.out.ext HY2.out).ext HX3.out)
  go_wp2_with fail
  refine (word7_ok _ _ (HV1.out.ext (HY2.out.step HX3.out)) (HT.out.ext (HX1.out.step (HY2.out.step HX3.out)))).mono ?_
  rintro e w4 ⟨g4, rfl, hr4, hx4⟩
  have HX4 := hid (HX3.out.step hx4)
  have HR4 := hid hr4
  clear f0 f1 f2 hx4 hr4
  go_wp2_with fail
  refine (apply11 _ (HT.out.ext (HX1.out.step (HY2.out.step HX4.out)))).mono ?_
  rintro e w5 ⟨rfl, hx5⟩
  have HX5 := hid (HX4.out.step hx5)
  have HR5 := hid (HR4.out.ext hx5)
  clear hx5
  go_wp2_with fail
  refine (apply12 _ (HT.out.ext (HX1.out.step (HY2.out.step HX5.out)))).mono ?_
  rintro e w6 ⟨rfl, hx6⟩
  have HX6 := hid (HX5.out.step hx6)
  have HR6 := hid (HR5.out.ext hx6)
  clear hx6
  obtain ⟨f0, f1, f2, -, -, -⟩ := row_facts3 (R2.out.ext HX6.out)
  have HEND := hid (HX1.out.step (HY2.out.step HX6.out))
  go_wp2_with fail
  refine (ralike_eq _ _ 4 _ _ [1, 1, 1, 0] _ (HR6.out.ext ((Ext.rfl' _).alloc' _)) (Row.new _ _ _).rd0 rfl (by omega)).mono ?_
  rintro e w7 ⟨rfl, hx7⟩
  have HZ := hid ((HEND.out.alloc' _).step hx7)
  go_wp2
  go_ret
  exact ⟨rfl, HZ.out⟩
end Go.Proofs.YtlfbgemceeibiaaGreatDoor
/- the law WordPowers -/
namespace Go.Proofs.YtlfbgemceeibiaaGreatDoor
open Go.RowKit
theorem rtext_s {v : Value} {n : Int} {su : ByteArray} (w : World) (h : RefV w v n) (hb : n.natAbs ≤ BIG) (hs : Hid (Str (K.txt n) = su)) : Calls Tryz.prog 30 #[v] w (fun e w' => e = .returned (.string su) ∧ Ext w w') :=
  (rtext_any v n w h hb).mono fun e w' k => ⟨by rw [k.1, hs.out], k.2⟩
theorem line_s (v : Value) (m : Int) (us ad : List Int) (Wd : Option Addr) (wn wc : Nat) (ws : List Int) (su sa sd : ByteArray) (w : World) (hv : MapV w v m us ad) (hw : Rd w Wd (Is ws)) (hl : ws.length = wn) (hwb : wn ≤ 140737488351232) (hM : Hid (mapP m us ad)) (hW : Hid (wordB m ws = true)) (ht : Tab w)
    (h1 : Hid (Str (K.txt (lineI m us ad ws).1) = su)) (h2 : Hid (Str (K.txt (lineI m us ad ws).2.1) = sa)) (h3 : Hid (Str (K.txt (lineI m us ad ws).2.2) = sd)) :
    Calls Tryz.prog 23 #[v, .slice Wd wn wc] w (fun e w' => e = .returned (.tuple #[.agg #[.string su, .string sa, .string sd], .int .i64 0]) ∧ Ext w w') :=
  (line_ok v m us ad Wd wn wc ws w hv hw hl hwb hM hW ht).mono fun e w' k => ⟨by rw [k.1, lineV, h1.out, h2.out, h3.out], k.2⟩
theorem powers_next {m : Int} {us ad ws : List Int} {j : Nat} (hM : mapP m us ad) (hW : wordB m ws = true) (hj : j < ws.length) :
    (lineI m us ad (ws.take j)).1 * us.getD (ws.getD j 0).toNat 0 = (lineI m us ad (ws.take (j + 1))).1 ∧ (lineI m us ad (ws.take j)).2.2 * m = (lineI m us ad (ws.take (j + 1))).2.2 ∧
      (lineI m us ad (ws.take j)).1.natAbs ≤ BIG ∧ (lineI m us ad (ws.take j)).2.2.natAbs ≤ BIG ∧ 0 ≤ ws.getD j 0 ∧ ws.getD j 0 < m ∧ 1 ≤ us.getD (ws.getD j 0).toNat 0 ∧ us.getD (ws.getD j 0).toNat 0 ≤ 999 ∧ (ws.getD j 0).toNat < us.length := by
  have hw := wordB_iff.1 hW
  have hr := hw.2 (ws.getD j 0) (by rw [List.getD_eq_getElem?_getD, List.getElem?_eq_getElem hj]; exact List.getElem_mem hj)
  obtain ⟨u1, u2, -, -, l1, -⟩ := rule_of hM hr.1 hr.2
  have hB := lineI_B hM (ws.take j) (fun x hx => hw.2 x (List.mem_of_mem_take hx))
  have hf := hB.fits hM (by rw [List.length_take]; have := hw.1; omega) hr.1 hr.2
  refine ⟨?_, ?_, fits_big hf.1, fits_big hf.2.2.1, hr.1, hr.2, u1, u2, l1⟩
  · rw [take_succ_I hj, lineI_snoc]; exact Int.mul_comm _ _
  · rw [take_succ_I hj, lineI_snoc]; rfl
theorem powers_big {m : Int} {us ad ws : List Int} (hM : mapP m us ad) (hW : wordB m ws = true) : (lineI m us ad ws).1.natAbs ≤ BIG ∧ (lineI m us ad ws).2.2.natAbs ≤ BIG := by
  have hw := wordB_iff.1 hW
  have hB := lineI_B hM ws hw.2
  have hm := hM.1
  have hf := hB.fits hM hw.1 (r := 0) (by omega) (by omega)
  exact ⟨fits_big hf.1, fits_big hf.2.2.1⟩
end Go.Proofs.YtlfbgemceeibiaaGreatDoor
/- a number is mapped by the linear map of its word as by Run -/
namespace Go.Proofs.YtlfbgemceeibiaaGreatDoor
open Go.RowKit
theorem word_snoc (m : Int) (us ad : List Int) (k : Nat) (x : Int) : wordI m us ad (k + 1) x = wordI m us ad k x ++ [orbN m us ad k x % m] := by
  unfold wordI; rw [List.range_succ, List.map_append]; rfl
theorem word_len (m : Int) (us ad : List Int) (k : Nat) (x : Int) : (wordI m us ad k x).length = k := by simp [wordI]
theorem word_B {m : Int} {us ad : List Int} {k : Nat} {x : Int} (hm : 0 < m) (hk : k ≤ 200) : wordB m (wordI m us ad k x) = true :=
  wordB_iff.2 ⟨by rw [word_len]; exact hk, fun r hr => by
    obtain ⟨i, -, rfl⟩ := List.mem_map.1 hr
    exact ⟨Int.emod_nonneg _ (by omega), Int.emod_lt_of_pos _ hm⟩⟩
theorem div_shift {m u a r q y : Int} (hy : y = m * q + r) (h : (u * r + a) % m = 0) : (u * y + a) % m = 0 := by
  subst hy
  rw [show u * (m * q + r) + a = (u * r + a) + m * (u * q) by rw [Int.mul_add, Int.mul_left_comm]; omega, Int.add_mul_emod_self_left]
  exact h
theorem step_mul {m : Int} {us ad : List Int} (hM : mapP m us ad) (y : Int) : stepI m us ad y * m = us.getD (y % m).toNat 0 * y + ad.getD (y % m).toNat 0 := by
  have hr := rOf_lt (m := m) (x := y) (by have := hM.1; omega)
  have hu := rule_at hM y
  have hd : (us.getD (rOf m y) 0 * y + ad.getD (rOf m y) 0) % m = 0 := div_shift (r := (rOf m y : Int)) (q := y / m) (by rw [hr.2]; exact (Int.mul_ediv_add_emod y m).symm) hu.2.2.2.2
  show (us.getD (rOf m y) 0 * y + ad.getD (rOf m y) 0) / m * m = _
  rw [Int.ediv_mul_cancel (Int.dvd_of_emod_eq_zero hd)]
  rfl
theorem lin_orb {m : Int} {us ad : List Int} (hM : mapP m us ad) (x : Int) : ∀ k : Nat, (lineI m us ad (wordI m us ad k x)).1 * x + (lineI m us ad (wordI m us ad k x)).2.1 = (lineI m us ad (wordI m us ad k x)).2.2 * orbN m us ad k x
  | 0 => by
    show (1 : Int) * x + 0 = 1 * x
    omega
  | k + 1 => by
    have ih := lin_orb hM x k
    have hs := step_mul hM (orbN m us ad k x)
    rw [word_snoc, lineI_snoc]
    show us.getD _ 0 * (lineI m us ad (wordI m us ad k x)).1 * x + (us.getD _ 0 * (lineI m us ad (wordI m us ad k x)).2.1 + ad.getD _ 0 * (lineI m us ad (wordI m us ad k x)).2.2) = (lineI m us ad (wordI m us ad k x)).2.2 * m * stepI m us ad (orbN m us ad k x)
    generalize lineI m us ad (wordI m us ad k x) = l at *
    generalize us.getD (orbN m us ad k x % m).toNat 0 = u at *
    generalize ad.getD (orbN m us ad k x % m).toNat 0 = a at *
    generalize stepI m us ad (orbN m us ad k x) = s at *
    generalize orbN m us ad k x = y at *
    obtain ⟨M, A, D⟩ := l
    simp only at ih ⊢
    have e1 : u * M * x + (u * A + a * D) = u * (M * x + A) + a * D := by rw [Int.mul_add, Int.mul_assoc, Int.add_assoc]
    rw [e1, ih, Int.mul_assoc, Int.mul_comm m s, hs, Int.mul_add, Int.mul_left_comm, Int.mul_comm a D]
theorem run_orb {m : Int} {us ad : List Int} (k : Nat) : ∀ (x : Int), none ∉ seqO m us ad k x → runO m us ad k x = some (orbN m us ad k x) := by
  induction k with
  | zero => intro x h; rfl
  | succ k ih =>
    intro x h
    rw [seqO] at h
    rw [runO_succ, orbN_cons]
    have ih2 := ih (stepI m us ad x)
    generalize fitsB (stepI m us ad x) = b at *
    cases b with
    | true =>
      rw [if_pos rfl] at h ⊢
      exact ih2 (fun h2 => h (List.mem_cons_of_mem _ h2))
    | false =>
      rw [if_neg (by simp)] at h
      exact absurd (List.mem_singleton.2 rfl) h
/-- what a run tells, where the word is told -/
def RunS (m : Int) (us ad : List Int) (k : Nat) (x : Int) : Prop := (K.fits (orbN m us ad k x) ∧ runO m us ad k x = some (orbN m us ad k x)) ∨ (¬ K.fits (orbN m us ad k x) ∧ runO m us ad k x = none)
theorem run_s {m : Int} {us ad : List Int} {k : Nat} {x : Int} (h : none ∉ seqO m us ad k x) : RunS m us ad (k + 1) x := by
  unfold RunS
  rw [runO_snoc, run_orb k x h, Option.bind_some]
  show (K.fits (stepI m us ad (orbN m us ad k x)) ∧ _) ∨ (¬ K.fits (stepI m us ad (orbN m us ad k x)) ∧ _)
  by_cases hf : K.fits (stepI m us ad (orbN m us ad k x))
  · exact .inl ⟨hf, by rw [if_pos (fitsB_yes hf)]; rfl⟩
  · exact .inr ⟨hf, by rw [if_neg (by rw [fitsB_no hf]; simp)]⟩
theorem run_n {m : Int} {us ad : List Int} {k : Nat} {x : Int} (h : none ∈ seqO m us ad k x) : runO m us ad (k + 1) x = none := by
  rw [runO_snoc, (seq_run m us ad k x).2 h]; rfl
/-- what Word tells -/
def WordS (m : Int) (us ad : List Int) (k : Nat) (x : Int) (ws : List Int) (f : Int) : Prop := (f = 0 ∧ ws = wordI m us ad k x ∧ RunS m us ad k x) ∨ (f = 3 ∧ runO m us ad k x = none)
theorem wordl_any (v : Value) (m : Int) (us ad : List Int) (l : List UInt8) (k : Nat) (w : World) (hv : MapV w v m us ad) (hlen : l.length ≤ 140737488351232) (hb1 : Hid (mapB m us ad = true)) (hb2 : Hid (K.validL l = true)) (hk : k ≤ 200) (ht : Tab w) :
    Calls Tryz.prog 15 #[v, .string (Str l), .int .i64 (k : Int)] w (fun e w' => ∃ A wn f ws, e = .returned (.tuple #[.slice A wn wn, .int .i64 f]) ∧ Rd w' A (Is ws) ∧ ws.length = wn ∧ wn ≤ 200 ∧ WordS m us ad k (K.numL l) ws f ∧ Ext w w') := by
  rcases k with - | k
  · refine (word_zero v m us ad l 0 w hv hlen hb1 hb2 rfl).mono ?_
    rintro e w' ⟨rfl, h2⟩
    exact ⟨_, _, _, [], rfl, Rd.nil _ _, rfl, by omega, .inl ⟨rfl, rfl, .inl ⟨(K.txt_numL l hb2.out).2, rfl⟩⟩, h2⟩
  · by_cases hn : none ∈ seqO m us ad k (K.numL l)
    · refine (word_size v m us ad l k w hv hlen hb1 hb2 hk ht (hid hn)).mono ?_
      rintro e w' ⟨rfl, h2⟩
      exact ⟨_, _, _, [], rfl, Rd.nil _ _, rfl, by omega, .inr ⟨rfl, run_n hn⟩, h2⟩
    · refine (word_ok v m us ad l k w hv hlen hb1 hb2 hk ht (hid hn)).mono ?_
      rintro e w' ⟨g, rfl, h1, -, h2⟩
      exact ⟨_, _, _, _, rfl, h1.rd0, word_len _ _ _ _ _, hk, .inl ⟨rfl, rfl, run_s hn⟩, h2⟩
theorem fits_mul {D y : Int} (hD : 0 < D) (h : K.fits (D * y)) : K.fits y := by
  unfold K.fits at *
  rw [Int.natAbs_mul] at h
  have h1 : 1 * y.natAbs ≤ D.natAbs * y.natAbs := Nat.mul_le_mul_right _ (by omega)
  omega
theorem applyl_yes (M A D N y : Int) (su sa sd : ByteArray) (ln : List UInt8) (sy : ByteArray) (w : World) (FM : K.fits M) (FA : K.fits A) (FD : K.fits D) (v3 : K.validL ln = true) (hN : K.numL ln = N) (ht : Tab w) (hd : 0 < D) (e : M * N + A = D * y) (hf : K.fits (D * y))
    (h1 : Hid (Str (K.txt M) = su)) (h2 : Hid (Str (K.txt A) = sa)) (h3 : Hid (Str (K.txt D) = sd)) (h4 : Hid (Str (K.txt y) = sy)) :
    Calls Tryz.prog 47 #[.agg #[.string su, .string sa, .string sd], .string (Str ln)] w (fun e w' => e = .returned (.tuple #[.string sy, .bool true, .int .i64 0]) ∧ Ext w w') := by
  obtain ⟨t3, f3⟩ := K.txt_numL ln v3
  have h := apply_yes M A D N w (hid FM) (hid FA) (hid FD) (hid (by rw [← hN]; exact f3)) ht hd (hid (by rw [e]; exact hf)) (by rw [e]; exact Int.mul_emod_right _ _)
  rw [e, Int.mul_ediv_cancel_left _ (by omega), h1.out, h2.out, h3.out, h4.out, ← hN, t3] at h
  exact h
theorem applyl_no (M A D N y : Int) (su sa sd : ByteArray) (ln : List UInt8) (w : World) (FM : K.fits M) (FA : K.fits A) (FD : K.fits D) (v3 : K.validL ln = true) (hN : K.numL ln = N) (ht : Tab w) (hd : 0 < D) (e : M * N + A = D * y) (hf : ¬ K.fits (D * y))
    (h1 : Hid (Str (K.txt M) = su)) (h2 : Hid (Str (K.txt A) = sa)) (h3 : Hid (Str (K.txt D) = sd)) :
    Calls Tryz.prog 47 #[.agg #[.string su, .string sa, .string sd], .string (Str ln)] w (fun e w' => e = .returned (.tuple #[.string ⟨#[]⟩, .bool false, .int .i64 3]) ∧ Ext w w') := by
  obtain ⟨t3, f3⟩ := K.txt_numL ln v3
  have h := apply_size M A D N w (hid FM) (hid FA) (hid FD) (hid (by rw [← hN]; exact f3)) ht hd (hid (by rw [e]; exact hf))
  rw [h1.out, h2.out, h3.out, ← hN, t3] at h
  exact h
end Go.Proofs.YtlfbgemceeibiaaGreatDoor
/- the reference's Word -/
namespace Go.Proofs.YtlfbgemceeibiaaGreatDoor
open Go.RowKit
/-- the word after j rounds -/
def WordAt (m : Int) (us ad : List Int) (x : Int) (j : Nat) (z : Int) (ws : List Int) : Prop := z = orbN m us ad j x ∧ ws = wordI m us ad j x ∧ ∀ i, i < j → K.fits (orbN m us ad i x)
theorem WordAt.next {m : Int} {us ad : List Int} {x : Int} {j : Nat} {z : Int} {ws : List Int} (h : WordAt m us ad x j z ws) (hf : K.fits z) : WordAt m us ad x (j + 1) (stepI m us ad z) (ws ++ [z % m]) := by
  obtain ⟨rfl, rfl, h3⟩ := h
  refine ⟨rfl, by rw [word_snoc], fun i hi => ?_⟩
  rcases Nat.lt_or_ge i j with h | h
  · exact h3 i h
  · obtain rfl : i = j := by omega
    exact hf
/-- what the reference tells of a word -/
def RWordPost (m : Int) (us ad : List Int) (x : Int) (k : Nat) (w : World) (e : Ending) (w' : World) : Prop :=
  ∃ (L : Option Addr) (n c : Nat) (ws : List Int) (b : Bool), e = .returned (.tuple #[.slice L n c, .bool b]) ∧ ws.length = n ∧ n ≤ k ∧ Rd w' L (Is ws) ∧
    ((b = true ∧ ws = wordI m us ad k x ∧ ∀ i, i < k → K.fits (orbN m us ad i x)) ∨ (b = false ∧ ∃ i, i < k ∧ ¬ K.fits (orbN m us ad i x))) ∧ Ext w w'
theorem own_cap {w : World} {base e n c : Nat} {L : Option Addr} {vs : List Value} (h : w.ownsRow base e 1 (.slice L n c) n vs) : vs.length = n := by have := h.1; omega
set_option maxRecDepth 100000 in
set_option maxHeartbeats 6400000 in
theorem rword_any (v vn : Value) (m x : Int) (us ad : List Int) (k : Nat) (w : World) (hv : MapV w v m us ad) (hM : Hid (mapP m us ad)) (hn : RefV w vn x) (hf : Hid (K.fits x)) (hk : k ≤ 1000) :
    Calls Tryz.prog 20 #[v, vn, .int .i64 (k : Int)] w (RWordPost m us ad x k w) := by
  obtain ⟨i0, hi, hz0, hz1, hz2⟩ := info_parts infoI
  have hm1 : 1 ≤ m := by have := hM.out.1; omega
  have hm2 : m ≤ 2147483647 := by have := hM.out.2.1; omega
  have HV := hid hv
  have HN := hid hn
  obtain ⟨A, n, cc, B, n2, d, rfl, -⟩ := hv
  obtain ⟨A1, k1, c1, xs1, b1, rfl, -⟩ := hn
  go_enter Tryz.func20, Tryz.ntmps20
  go_upto_region 1 with fail
  have hx : Ext w ((w.alloc (.cells #[.int .i64 m, .slice A n cc, .slice B n2 d] 24)).alloc (.cells #[.bool b1, .slice A1 k1 c1] 36)) := ((Ext.rfl' w).alloc' _).alloc' _
  have r1 : Row ((w.alloc (.cells #[.int .i64 m, .slice A n cc, .slice B n2 d] 24)).alloc (.cells #[.bool b1, .slice A1 k1 c1] 36)) w.heap.size 24 [.int .i64 m, .slice A n cc, .slice B n2 d] := (Row.new w _ _).alloc _
  have r2 : Row ((w.alloc (.cells #[.int .i64 m, .slice A n cc, .slice B n2 d] 24)).alloc (.cells #[.bool b1, .slice A1 k1 c1] 36)) (w.heap.size + 1) 36 [.bool b1, .slice A1 k1 c1] := by
    have := Row.new (w.alloc (.cells #[.int .i64 m, .slice A n cc, .slice B n2 d] 24)) 36 [.bool b1, .slice A1 k1 c1]
    rwa [World.size_alloc] at this
  have hsz : ((w.alloc (.cells #[.int .i64 m, .slice A n cc, .slice B n2 d] 24)).alloc (.cells #[.bool b1, .slice A1 k1 c1] 36)).heap.size = (w.heap.size + 1 + 1) := by simp
  obtain ⟨W2, hW2⟩ : ∃ W2, ((w.alloc (.cells #[.int .i64 m, .slice A n cc, .slice B n2 d] 24)).alloc (.cells #[.bool b1, .slice A1 k1 c1] 36)) = W2 := ⟨_, rfl⟩
  rw [hW2] at hx r1 r2 hsz
  rw [hW2]
  have HX := hid hx
  have R1 := hid r1
  have R2 := hid r2
  have HSZ := hid hsz
  clear hW2 hx r1 r2 hsz
  go_wp2_with fail
  go_loopw [8, 9] (fun lv iz wr => ∃ (j : Nat) (z : Int) (b : Bool) (P : Option Addr) (q c : Nat) (L : Option Addr) (cap : Nat) (ws : List Int), j ≤ k ∧ lv = .slice L j cap ∧ iz = .int .i64 (j : Int) ∧ Row wr w.heap.size 24 [.int .i64 m, .slice A n cc, .slice B n2 d] ∧ Row wr (w.heap.size + 1) 36 [.bool b, .slice P q c] ∧ wr.ownsRow (w.heap.size + 1 + 1) 3 1 (.slice L j cap) j (Is ws) ∧ Hid (∀ g c', Value.slice L j cap = .slice (some ⟨g, 0, none⟩) j c' → SpZ wr g j) ∧ RefV wr (.agg #[.bool b, .slice P q c]) z ∧ Hid (z.natAbs ≤ BIG) ∧ Hid (WordAt m us ad x j z ws) ∧ Ext w wr) (fun _ iz _ => k - (intOf iz).toNat)
  case atStart =>
    refine ⟨0, x, b1, A1, k1, c1, none, 0, [], by omega, rfl, rfl, R1.out, R2.out, World.ownsRow_nil _ _ _ _, hid (fun g c' h => by cases h), HN.out.ext HX.out, hid (fits_big hf.out), hid ⟨rfl, rfl, fun i hi => absurd hi (by omega)⟩, HX.out⟩
  case round =>
    obtain ⟨j, z, b, P, q, c, L, cap, ws, hj, rfl, rfl, hr1, hr2, hown, HSP, hvz, ZB, HAT, hex⟩ := hrel
    have RM := hid hr1
    have RN := hid hr2
    have HOWN := hid hown
    have VZ := hid hvz
    have EX := hid hex
    clear hr1 hr2 hown hvz hex R1 R2
    by_cases hlt : j < k
    · obtain ⟨g0, g1, g2, g3⟩ := row_facts RN.out
      by_cases hfz : K.fits z
      · have HFZ := hid hfz
        clear hfz
        go_wp2_with fail
        refine (rfits_any _ z wr VZ.out ZB.out true (hid ⟨fun _ => HFZ.out, fun _ => rfl⟩)).mono ?_
        rintro e w5 ⟨rfl, hx5⟩
        clear g0 g1 g2 g3
        obtain ⟨f0, f1, f2, -, -, -⟩ := row_facts3 (RM.out.ext hx5)
        obtain ⟨g0, g1, g2, g3⟩ := row_facts (RN.out.ext hx5)
        have HX5 := hid hx5
        clear hx5
        go_wp2_with fail
        refine (rest2_any _ _ m z us ad w5 (HV.out.ext (EX.out.step HX5.out)) (VZ.out.ext HX5.out) ZB.out hm1 hm2).mono ?_
        rintro e w6 ⟨rfl, hx6⟩
        have HX6 := hid (HX5.out.step hx6)
        clear f0 f1 f2 g0 g1 g2 g3 hx6
        have OW6 := hid (own_keep HOWN.out (fun gg _ h2 => HX6.out.block gg h2))
        have SP6 : Hid (∀ g c', Value.slice L j cap = .slice (some ⟨g, 0, none⟩) j c' → SpZ w6 g j) := hid (fun g c' h => by
          have hb : g < wr.heap.size := by
            injection h with h1 h2 h3
            subst h1
            exact (HOWN.out.lt g rfl).2
          exact (HSP.out g c' h).keep (HX6.out.block g hb))
        obtain ⟨rr, hrr⟩ : ∃ rr, z % m = rr := ⟨_, rfl⟩
        have HRR := hid hrr
        rw [hrr]
        have hbs : (w.heap.size + 1 + 1) ≤ (w6.alloc (.cells #[.int .i64 rr] 3)).heap.size := by
          have h1 := HX6.out.size
          have h2 := EX.out.size
          have h3 := RN.out.lt
          rw [World.size_alloc]; omega
        clear hrr
        go_wp2_with (at_builtin; refine wpList_append_int rfl _ _ 22 rfl (w.heap.size + 1 + 1) 3 i0 Tryz.underlying22 hi hz0 hz1 hz2 (.slice L j cap) j (Is ws) rfl (OW6.out.alloc _) (fun g c' h => (SP6.out g c' h).keep (Below.heap_alloc w6 _ g (by injection h with h1 h2 h3; subst h1; exact (OW6.out.lt g rfl).2))) ⟨w6.heap.size, 0, none⟩ 1 rr rfl (cell_one_new _ _ _) (by omega) hbs ?_)
        intro g' cap' w8 hown8 hgrow hcap8 hsp8 hkeep
        have hk8 : KeepT w6 w8 := (KeepT.of_ext ((Ext.rfl' w6).alloc' _)).trans hkeep
        have hfar : ∀ kk, Value.ownBlock (.slice L j cap) = some kk → (w.heap.size + 1 + 1) ≤ kk := fun kk hkk => (OW6.out.lt kk hkk).1
        have rm8 := (RM.out.ext HX6.out).grownO hgrow (fun kk hkk => by have := hfar kk hkk; omega)
        have rn8 := (RN.out.ext HX6.out).grownO hgrow (fun kk hkk => by have := hfar kk hkk; omega)
        have vz8 := (VZ.out.ext HX6.out).keptT hk8
        have ex8 : Ext w w8 := ((EX.out.step HX6.out).alloc' _).grown hgrow (by have := (EX.out.step HX6.out).size; rw [World.size_alloc]; omega) (fun kk hkk => by have := hfar kk hkk; omega)
        have RM8 := hid rm8
        have RN8 := hid rn8
        have VZ8 := hid vz8
        have EX8 := hid ex8
        have OW8 := hid hown8
        have SP8 := hid hsp8
        clear hown8 hgrow hcap8 hsp8 hkeep hk8 hfar rm8 rn8 vz8 ex8 hbs
        obtain ⟨f0, f1, f2, -, -, -⟩ := row_facts3 RM8.out
        obtain ⟨g0, g1, g2, g3⟩ := row_facts RN8.out
        go_wp2_with fail
        refine (step2_fits _ _ m z us ad w8 (HV.out.ext EX8.out) hM VZ8.out HFZ).mono ?_
        rintro e w9 ⟨v9, rfl, hv9, hx9⟩
        have HX9 := hid hx9
        have HV9 := hid hv9
        obtain ⟨A9, k9, c9, xs9, b9, rfl, -⟩ := hv9
        have rn9 := RN8.out.ext HX9.out
        have HFIN : Hid (∀ WF, WF = ((w9.setCell ⟨w.heap.size + 1, 0, none⟩ (.bool b9)).setCell ⟨w.heap.size + 1, 1, none⟩ (.slice A9 k9 c9)) → ∃ (jn : Nat) (z : Int) (b : Bool) (P : Option Addr) (q c : Nat) (L : Option Addr) (cap : Nat) (ws : List Int), jn ≤ k ∧ Value.slice (some ⟨g', 0, none⟩) (j + 1) cap' = .slice L jn cap ∧ Value.int .i64 ((j : Int) + 1) = .int .i64 (jn : Int) ∧ Row WF w.heap.size 24 [.int .i64 m, .slice A n cc, .slice B n2 d] ∧ Row WF (w.heap.size + 1) 36 [.bool b, .slice P q c] ∧ WF.ownsRow (w.heap.size + 1 + 1) 3 1 (.slice L jn cap) jn (Is ws) ∧ Hid (∀ g c', Value.slice L jn cap = .slice (some ⟨g, 0, none⟩) jn c' → SpZ WF g jn) ∧ RefV WF (.agg #[.bool b, .slice P q c]) z ∧ Hid (z.natAbs ≤ BIG) ∧ Hid (WordAt m us ad x jn z ws) ∧ Ext w WF) := hid (by
          rintro WF rfl
          have hb7 : ∀ gg, (w.heap.size + 1 + 1) ≤ gg → gg < w8.heap.size → ((w9.setCell ⟨w.heap.size + 1, 0, none⟩ (.bool b9)).setCell ⟨w.heap.size + 1, 1, none⟩ (.slice A9 k9 c9)).heap[gg]? = w8.heap[gg]? := fun gg h1 h2 => by
            rw [Below.heap_setCell _ _ _ gg (by show gg ≠ w.heap.size + 1; omega), Below.heap_setCell _ _ _ gg (by show gg ≠ w.heap.size + 1; omega)]
            exact HX9.out.block gg h2
          refine ⟨j + 1, stepI m us ad z, b9, A9, k9, c9, some ⟨g', 0, none⟩, cap', ws ++ [rr], by omega, rfl, by simp, ((RM8.out.ext HX9.out).far (by show w.heap.size ≠ w.heap.size + 1; omega) _).far (by show w.heap.size ≠ w.heap.size + 1; omega) _, (rn9.set 0 _).set 1 _, ?_, hid ?_, HV9.out.box rn9, hid (stepI_big hM.out HFZ.out), hid ?_, ((EX8.out.step HX9.out).set' (by show w.heap.size ≤ w.heap.size + 1; omega) _).set' (by show w.heap.size ≤ w.heap.size + 1; omega) _⟩
          · have := own_keep OW8.out hb7
            rw [show Is (ws ++ [rr]) = Is ws ++ [.int .i64 rr] by simp]
            exact this
          · intro g c' h
            injection h with h1 h2 h3
            injection h1 with h1
            injection h1 with h1
            subst h1
            exact SP8.out.keep (hb7 _ (own_ge OW8.out).1 (own_ge OW8.out).2.1)
          · rw [← HRR.out]; exact HAT.out.next HFZ.out)
        clear f0 f1 f2 g0 g1 g2 g3 hx9
        obtain ⟨g0, g1, g2, g3⟩ := row_facts rn9
        clear rn9
        go_wp2
        go_roundw
        case rel => exact HFIN.out _ rfl
        case measure => first | (simp [intOf]; done) | (simp [intOf]; omega)
      · have HFZ := hid hfz
        clear hfz
        go_wp2_with fail
        refine (rfits_any _ z wr VZ.out ZB.out false (hid ⟨fun h => Bool.noConfusion h, fun h => absurd h HFZ.out⟩)).mono ?_
        rintro e wE ⟨rfl, hxE⟩
        have HR : Hid (RWordPost m us ad x k w (.returned (.tuple #[.slice none 0 0, .bool false])) wE) := hid ⟨_, _, _, [], false, rfl, rfl, by omega, Rd.nil _ _, .inr ⟨rfl, j, hlt, by rw [← HAT.out.1]; exact HFZ.out⟩, EX.out.step hxE⟩
        clear g0 g1 g2 g3 hxE
        go_wp2
        go_ret2
        exact HR.out
    · obtain rfl : k = j := by omega
      have HR : Hid (RWordPost m us ad x k w (.returned (.tuple #[.slice L k cap, .bool true])) wr) := hid ⟨_, _, _, ws, true, rfl, by have := own_cap HOWN.out; simpa using this, by omega, Rd.of_own HOWN.out, .inl ⟨rfl, HAT.out.2.1, HAT.out.2.2⟩, EX.out⟩
      go_wp2
      go_ret2
      exact HR.out
end Go.Proofs.YtlfbgemceeibiaaGreatDoor
