/- Joined texts: word.timesPlus, word.Apply; word.Apply; the word law package's awake; the word law package's awake; the law WordPowers. -/
import Derived.Test.YtleccblkafcidaaGreatDoorJG13
import Derived.Test.YtleccblkafcidaaGreatDoorJG10
import Derived.Test.YtleccblkafcidaaGreatDoorJG15
import Derived.Test.YtleccblkafcidaaGreatDoorJG14
import Derived.StillTailTactics
set_option linter.unusedSimpArgs false
set_option linter.unusedVariables false
/- word.timesPlus, word.Apply -/
namespace Go.Proofs.YtleccblkafcidaaGreatDoor
open Go.RowKit
theorem cutMinus_any (l : List UInt8) (w : World) :
    Calls Tryz.prog 120 #[.string (Str l), .string ⟨#[45]⟩] w fun e w' => e = .returned (.tuple #[.string (Str (K.body l)), .bool (decide (l.head? = some 45))]) ∧ w = w' :=
  (Shelf.l_strings_CutPrefix (Str l) ⟨#[45]⟩ w).mono fun e w' ⟨he, hw⟩ => by
    have e1 : Lib.trimPrefix (Str l).data.toList (⟨#[45]⟩ : ByteArray).data.toList = K.body l := trim_minus l
    have e2 : Lib.hasPrefix (Str l).data.toList (⟨#[45]⟩ : ByteArray).data.toList = decide (l.head? = some 45) := by
      show Lib.hasPrefix l [45] = _
      unfold Lib.hasPrefix
      cases l with
      | nil => rfl
      | cons x r =>
        show ((45 : UInt8) == x && [].isPrefixOf r) = _
        rw [show ([] : List UInt8).isPrefixOf r = true from by cases r <;> rfl, Bool.and_true]
        simp only [List.head?_cons, Option.some.injEq]
        rw [Bool.eq_iff_iff, beq_iff_eq, decide_eq_true_iff]
        exact eq_comm
    rw [e1, e2] at he
    exact ⟨he, hw.symm⟩
theorem body_txt2 (n : Int) : K.body (K.txt n) = K.txt (n.natAbs : Int) := by
  rw [K.body_txt]
  unfold K.txt
  rw [if_neg (by omega), Int.natAbs_natCast]
theorem rec_use {f f' r S : Int} {l : List UInt8} (h : l.length ≤ 2001 ∧ (f = 0 → (K.fits r → f' = 0 ∧ l = K.txt r) ∧ (¬ K.fits r → f' = 3)) ∧ (f = 3 → f' = 3)) (hf : f = 0 ∨ f = 3) (hr : f = 0 → r = S) :
    (f' = 0 → f = 0 ∧ K.fits S ∧ l = K.txt S) ∧ (f = 0 → K.fits S → f' = 0) := by
  refine ⟨fun h0 => ?_, fun h0 hs => ?_⟩
  · rcases hf with hf | hf
    · have h1 := h.2.1 hf
      rw [hr hf] at h1
      by_cases hs : K.fits S
      · exact ⟨hf, hs, (h1.1 hs).2⟩
      · have := h1.2 hs; omega
    · have := h.2.2 hf; omega
  · have h1 := h.2.1 h0
    rw [hr h0] at h1
    exact (h1.1 hs).1
/-- no number on the way is too long where the sum is not -/
theorem tp_way {P Q A : Int} {L : Nat} (hs : (0 ≤ P ∧ 0 ≤ Q) ∨ (P ≤ 0 ∧ Q ≤ 0)) (hA : A.natAbs < L) (hT : (P + A + P + Q).natAbs < L) : P.natAbs < L ∧ (P + A).natAbs < L ∧ (P + A + P).natAbs < L := by
  rcases hs with h | h <;> omega
theorem half_parts (M N : Int) (hN : 0 ≤ N) : (0 ≤ M * (N / 2) ∧ 0 ≤ M * (N % 2)) ∨ (M * (N / 2) ≤ 0 ∧ M * (N % 2) ≤ 0) := by
  have h1 : 0 ≤ N / 2 := Int.ediv_nonneg hN (by omega)
  have h2 : 0 ≤ N % 2 := Int.emod_nonneg _ (by omega)
  rcases Int.le_total 0 M with h | h
  · exact .inl ⟨Int.mul_nonneg h h1, Int.mul_nonneg h h2⟩
  · exact .inr ⟨Int.mul_nonpos_of_nonpos_of_nonneg h h1, Int.mul_nonpos_of_nonpos_of_nonneg h h2⟩
theorem half_sum (M N A : Int) : M * (N / 2) + A + M * (N / 2) + M * (N % 2) = M * N + A := by
  have h := Int.mul_ediv_add_emod N 2
  have : M * N = M * (N / 2) + M * (N / 2) + M * (N % 2) := by
    rw [← Int.mul_add, ← Int.mul_add]
    congr 1
    omega
  omega
theorem odd_fits {M N : Int} (hM : K.fits M) : K.fits (M * (N % 2)) := by
  have h2 : N % 2 = 0 ∨ N % 2 = 1 := by omega
  rcases h2 with h | h
  · rw [h, Int.mul_zero]; exact K.LIM_pos
  · rw [h, Int.mul_one]; exact hM
/-- what timesPlus returns: the text, or ErrSize -/
def TPPost (S : Int) (w : World) (e : Ending) (w' : World) : Prop := ∃ (s : ByteArray) (c : Int), e = .returned (.tuple #[.string s, .int .i64 c]) ∧ Hid (Told2 S s c) ∧ Ext w w'
theorem two_ok : K.validL [50] = true := by decide +kernel
theorem two_num : K.numL [50] = 2 := by decide +kernel
theorem zero_ok : K.validL [48] = true := by decide +kernel
theorem zero_num : K.numL [48] = 0 := by decide +kernel
theorem fits_neg {M : Int} (h : K.fits M) : K.fits (0 - M) := by
  show (0 - M).natAbs < K.LIM
  have h2 : M.natAbs < K.LIM := h
  omega
theorem fits_half {N : Int} (h0 : 0 ≤ N) (h : K.fits N) : K.fits (N / 2) ∧ K.fits (N % 2) := by
  have h2 : N.natAbs < K.LIM := h
  have h3 := K.LIM_pos
  refine ⟨?_, ?_⟩
  · show (N / 2).natAbs < K.LIM
    omega
  · show (N % 2).natAbs < K.LIM
    have h4 : (1 : Nat) < K.LIM := by
      have h5 : K.pw 1 ≤ K.pw 2000 := K.pw_mono (by omega)
      have h6 : K.pw 1 = 10 := by decide
      unfold K.LIM
      omega
    omega
theorem minus_s (g : Nat) (M : Int) (w : World) (hr : Row w g 193 [.int .i64 0]) (hf : K.fits M) (ht : Tab w) :
    Calls Tryz.prog 206 #[.pointer (some ⟨g, 0, none⟩), .string ⟨#[48]⟩, .string (Str (K.txt M))] w (RecOk (0 - M) w) := by
  have h := minus_ok g [48] (K.txt M) w hr zero_ok (K.valid_txt _ hf) (by rw [zero_num, K.numL_txt]; exact fits_neg hf) ht
  rwa [zero_num, K.numL_txt] at h
set_option maxRecDepth 100000 in
set_option maxHeartbeats 6400000 in
theorem tplus_any (M N A : Int) (w : World) (FM0 : Hid (K.fits M)) (FN : Hid (K.fits N)) (FA : Hid (K.fits A)) (ht : Tab w) :
    Calls Tryz.prog 162 #[.string (Str (K.txt M)), .string (Str (K.txt N)), .string (Str (K.txt A))] w (TPPost (M * N + A) w) := by
  have HT := hid ht
  have hr0 := Row.new w 193 [.int .i64 0]
  have hx0 : Ext w (w.alloc (.cells #[.int .i64 0] 193)) := (Ext.rfl' w).alloc' _
  obtain ⟨W1, hW1⟩ : ∃ W1, (w.alloc (.cells #[.int .i64 0] 193)) = W1 := ⟨_, rfl⟩
  have hr0 : Row W1 w.heap.size 193 [.int .i64 0] := by rw [← hW1]; exact hr0
  rw [hW1] at hx0
  have HW1 := hid hW1
  have RG0 := hid hr0
  have E0 := hid hx0
  clear hW1 hr0 hx0
  by_cases hn : N < 0
  · obtain ⟨M1, hM1⟩ : ∃ M1, 0 - M = M1 := ⟨_, rfl⟩
    obtain ⟨N1, hN1⟩ : ∃ N1, -N = N1 := ⟨_, rfl⟩
    have HM1 := hid hM1
    have HN1 := hid hN1
    have HB : Hid (K.body (K.txt N) = K.txt N1) := hid (by rw [body_txt2, ← hN1]; congr 1; omega)
    have HD : Hid (decide ((K.txt N).head? = some 45) = true) := hid (decide_eq_true ((K.head_txt N).2 hn))
    have HN0 : Hid (0 ≤ N1) := hid (by omega)
    have FNN : Hid (K.fits N1) := hid (by rw [← hN1]; show (-N).natAbs < K.LIM; have h2 : N.natAbs < K.LIM := FN.out; omega)
    have HVN : Hid (K.validL (K.txt N1) = true) := hid (K.valid_txt _ FNN.out)
    have FM : Hid (K.fits M1) := hid (by rw [← hM1]; exact fits_neg FM0.out)
    have HTOT : Hid (M1 * N1 + A = M * N + A) := hid (by rw [← hM1, ← hN1, Int.zero_sub, Int.neg_mul_neg])
    obtain ⟨hh, hhh⟩ : ∃ hh, N1 / 2 = hh := ⟨_, rfl⟩
    obtain ⟨qq, hqq⟩ : ∃ qq, N1 % 2 = qq := ⟨_, rfl⟩
    have FH : Hid (K.fits hh) := hid (by rw [← hhh]; exact (fits_half HN0.out FNN.out).1)
    have FO : Hid (K.fits qq) := hid (by rw [← hqq]; exact (fits_half HN0.out FNN.out).2)
    have HHH := hid hhh
    have HQQ := hid hqq
    clear hM1 hN1 hhh hqq
    go_enter Tryz.func162, Tryz.ntmps162
    go_upto_region 2 with fail
    rw [HW1.out]
    go_wp2_with fail
    refine (cutMinus_any (K.txt N) W1).mono ?_
    rintro e wz ⟨rfl, rfl⟩
    rw [HB.out, HD.out]
    go_wp2_with fail
    refine (minus_s w.heap.size M W1 RG0.out FM0.out (HT.out.ext E0.out)).mono ?_
    rintro e wm ⟨rfl, hxm⟩
    rw [HM1.out]
    have RG := hid (RG0.out.ext hxm)
    have E1 := hid (E0.out.step hxm)
    clear hxm
    go_wp2_with fail
    refine (divide_ok (K.txt N1) [50] wm (len_of (valid_len HVN.out)) (by decide) HVN.out two_ok (by rw [two_num]; omega) (HT.out.ext E1.out)).mono ?_
    rintro e wd ⟨rfl, hxd⟩
    rw [K.numL_txt, two_num, HHH.out, HQQ.out]
    have RD := hid (RG.out.ext hxd)
    have ED := hid (E1.out.step hxd)
    clear hxd
    go_wp2_with fail
    refine (times_gen w.heap.size (K.txt M1) (K.txt hh) 0 w wd ED.out (Nat.le_refl _) RD.out (.inl rfl) (K.txt_len _ FM.out) (K.txt_len _ FH.out) (hid (fun _ => ⟨K.valid_txt _ FM.out, K.valid_txt _ FH.out⟩)) (HT.out.ext ED.out)).mono ?_
    rintro e w1 ⟨l1, f1, rfl, hr1, hf1, HQ1, hx1⟩
    have U1 := hid (rec_use (S := M1 * hh) HQ1.out (.inl rfl) (fun _ => by rw [K.numL_txt, K.numL_txt]))
    have RA := hid hr1
    have EA := hid hx1
    clear hr1 hx1
    go_wp2_with fail
    refine (plus_gen w.heap.size l1 (K.txt A) f1 w w1 EA.out (Nat.le_refl _) RA.out hf1 HQ1.out.1 (K.txt_len _ FA.out) (hid (fun h => by rw [(U1.out.1 h).2.2]; exact ⟨K.valid_txt _ (U1.out.1 h).2.1, K.valid_txt _ FA.out⟩)) (HT.out.ext EA.out)).mono ?_
    rintro e w2 ⟨l2, f2, rfl, hr2, hf2, HQ2, hx2⟩
    have U2 := hid (rec_use (S := M1 * hh + A) HQ2.out hf1 (fun h => by rw [(U1.out.1 h).2.2, K.numL_txt, K.numL_txt]))
    have RB := hid hr2
    have EB := hid hx2
    clear hr2 hx2
    go_wp2_with fail
    refine (plus_gen w.heap.size l2 l1 f2 w w2 EB.out (Nat.le_refl _) RB.out hf2 HQ2.out.1 HQ1.out.1 (hid (fun h => by have h2 := U2.out.1 h; have h1 := U1.out.1 h2.1; rw [h2.2.2, h1.2.2]; exact ⟨K.valid_txt _ h2.2.1, K.valid_txt _ h1.2.1⟩)) (HT.out.ext EB.out)).mono ?_
    rintro e w3 ⟨l3, f3, rfl, hr3, hf3, HQ3, hx3⟩
    have U3 := hid (rec_use (S := M1 * hh + A + M1 * hh) HQ3.out hf2 (fun h => by have h2 := U2.out.1 h; have h1 := U1.out.1 h2.1; rw [h2.2.2, h1.2.2, K.numL_txt, K.numL_txt]))
    have RC := hid hr3
    have EC := hid hx3
    clear hr3 hx3
    go_wp2_with fail
    refine (times_gen w.heap.size (K.txt M1) (K.txt qq) f3 w w3 EC.out (Nat.le_refl _) RC.out hf3 (K.txt_len _ FM.out) (K.txt_len _ FO.out) (hid (fun _ => ⟨K.valid_txt _ FM.out, K.valid_txt _ FO.out⟩)) (HT.out.ext EC.out)).mono ?_
    rintro e w4 ⟨l4, f4, rfl, hr4, hf4, HQ4, hx4⟩
    have U4 := hid (rec_use (S := M1 * qq) HQ4.out hf3 (fun _ => by rw [K.numL_txt, K.numL_txt]))
    have RDD := hid hr4
    have EDD := hid hx4
    clear hr4 hx4
    go_wp2_with fail
    refine (plus_gen w.heap.size l3 l4 f4 w w4 EDD.out (Nat.le_refl _) RDD.out hf4 HQ3.out.1 HQ4.out.1 (hid (fun h => by have h4 := U4.out.1 h; have h3 := U3.out.1 h4.1; rw [h4.2.2, h3.2.2]; exact ⟨K.valid_txt _ h3.2.1, K.valid_txt _ h4.2.1⟩)) (HT.out.ext EDD.out)).mono ?_
    rintro e w5 ⟨l5, f5, rfl, hr5, hf5, HQ5, hx5⟩
    have U5 := hid (rec_use (S := M1 * hh + A + M1 * hh + M1 * qq) HQ5.out hf4 (fun h => by have h4 := U4.out.1 h; have h3 := U3.out.1 h4.1; rw [h4.2.2, h3.2.2, K.numL_txt, K.numL_txt]))
    have RE := hid hr5
    have EE := hid hx5
    clear hr5 hx5
    have c0 : w5.cell? ⟨w.heap.size, 0, none⟩ = some (.int .i64 f5) := RE.out.cell 0
    rcases hf5 with rfl | rfl
    · have HF : Hid (Told2 (M * N + A) (Str l5) 0) := hid (by
        have h5 := (U5.out.1 (by trivial)).2
        rw [← HHH.out, ← HQQ.out, half_sum, HTOT.out] at h5
        exact ⟨fun _ => ⟨by rw [h5.2], rfl⟩, fun h => absurd h5.1 h⟩)
      clear U1 U2 U3 U4 U5 HQ1 HQ2 HQ3 HQ4 HQ5
      go_wp2
      go_ret2
      exact ⟨_, _, rfl, HF, EE.out⟩
    · have HF : Hid (Told2 (M * N + A) ⟨#[]⟩ 3) := hid ⟨fun h => by
        exfalso
        have hT : K.fits (M1 * hh + A + M1 * hh + M1 * qq) := by rw [← HHH.out, ← HQQ.out, half_sum, HTOT.out]; exact h
        have hw := tp_way (by rw [← HHH.out, ← HQQ.out]; exact half_parts M1 N1 HN0.out) FA.out hT
        have g1 := U1.out.2 (by trivial) hw.1
        have g2 := U2.out.2 g1 hw.2.1
        have g3 := U3.out.2 g2 hw.2.2
        have g4 := U4.out.2 g3 (by rw [← HQQ.out]; exact odd_fits FM.out)
        have g5 := U5.out.2 g4 hT
        omega, fun _ => ⟨rfl, rfl⟩⟩
      clear U1 U2 U3 U4 U5 HQ1 HQ2 HQ3 HQ4 HQ5
      go_wp2_with fail
      first | (go_quiet (fail)) | (go_region)
      all_goals
        have HE5 := hid (show Ext w _ from EE.out.drewN nq)
        go_wp2
        go_ret2
        exact ⟨_, _, rfl, HF, HE5.out⟩
  · have HB : Hid (K.body (K.txt N) = K.txt N) := hid (by rw [body_txt2]; congr 1; omega)
    have HD : Hid (decide ((K.txt N).head? = some 45) = false) := hid (decide_eq_false (fun h => hn ((K.head_txt N).1 h)))
    have HN0 : Hid (0 ≤ N) := hid (by omega)
    have HVN : Hid (K.validL (K.txt N) = true) := hid (K.valid_txt _ FN.out)
    have FM := FM0
    obtain ⟨hh, hhh⟩ : ∃ hh, N / 2 = hh := ⟨_, rfl⟩
    obtain ⟨qq, hqq⟩ : ∃ qq, N % 2 = qq := ⟨_, rfl⟩
    have FH : Hid (K.fits hh) := hid (by rw [← hhh]; exact (fits_half HN0.out FN.out).1)
    have FO : Hid (K.fits qq) := hid (by rw [← hqq]; exact (fits_half HN0.out FN.out).2)
    have HHH := hid hhh
    have HQQ := hid hqq
    clear hhh hqq
    go_enter Tryz.func162, Tryz.ntmps162
    go_upto_region 2 with fail
    rw [HW1.out]
    go_wp2_with fail
    refine (cutMinus_any (K.txt N) W1).mono ?_
    rintro e wz ⟨rfl, rfl⟩
    rw [HD.out]
    have RG := RG0
    go_wp2_with fail
    refine (divide_ok (K.txt N) [50] W1 (len_of (valid_len HVN.out)) (by decide) HVN.out two_ok (by rw [two_num]; omega) (HT.out.ext E0.out)).mono ?_
    rintro e wd ⟨rfl, hxd⟩
    rw [K.numL_txt, two_num, HHH.out, HQQ.out]
    have RD := hid (RG.out.ext hxd)
    have ED := hid (E0.out.step hxd)
    clear hxd
    go_wp2_with fail
    refine (times_gen w.heap.size (K.txt M) (K.txt hh) 0 w wd ED.out (Nat.le_refl _) RD.out (.inl rfl) (K.txt_len _ FM.out) (K.txt_len _ FH.out) (hid (fun _ => ⟨K.valid_txt _ FM.out, K.valid_txt _ FH.out⟩)) (HT.out.ext ED.out)).mono ?_
    rintro e w1 ⟨l1, f1, rfl, hr1, hf1, HQ1, hx1⟩
    have U1 := hid (rec_use (S := M * hh) HQ1.out (.inl rfl) (fun _ => by rw [K.numL_txt, K.numL_txt]))
    have RA := hid hr1
    have EA := hid hx1
    clear hr1 hx1
    go_wp2_with fail
    refine (plus_gen w.heap.size l1 (K.txt A) f1 w w1 EA.out (Nat.le_refl _) RA.out hf1 HQ1.out.1 (K.txt_len _ FA.out) (hid (fun h => by rw [(U1.out.1 h).2.2]; exact ⟨K.valid_txt _ (U1.out.1 h).2.1, K.valid_txt _ FA.out⟩)) (HT.out.ext EA.out)).mono ?_
    rintro e w2 ⟨l2, f2, rfl, hr2, hf2, HQ2, hx2⟩
    have U2 := hid (rec_use (S := M * hh + A) HQ2.out hf1 (fun h => by rw [(U1.out.1 h).2.2, K.numL_txt, K.numL_txt]))
    have RB := hid hr2
    have EB := hid hx2
    clear hr2 hx2
    go_wp2_with fail
    refine (plus_gen w.heap.size l2 l1 f2 w w2 EB.out (Nat.le_refl _) RB.out hf2 HQ2.out.1 HQ1.out.1 (hid (fun h => by have h2 := U2.out.1 h; have h1 := U1.out.1 h2.1; rw [h2.2.2, h1.2.2]; exact ⟨K.valid_txt _ h2.2.1, K.valid_txt _ h1.2.1⟩)) (HT.out.ext EB.out)).mono ?_
    rintro e w3 ⟨l3, f3, rfl, hr3, hf3, HQ3, hx3⟩
    have U3 := hid (rec_use (S := M * hh + A + M * hh) HQ3.out hf2 (fun h => by have h2 := U2.out.1 h; have h1 := U1.out.1 h2.1; rw [h2.2.2, h1.2.2, K.numL_txt, K.numL_txt]))
    have RC := hid hr3
    have EC := hid hx3
    clear hr3 hx3
    go_wp2_with fail
    refine (times_gen w.heap.size (K.txt M) (K.txt qq) f3 w w3 EC.out (Nat.le_refl _) RC.out hf3 (K.txt_len _ FM.out) (K.txt_len _ FO.out) (hid (fun _ => ⟨K.valid_txt _ FM.out, K.valid_txt _ FO.out⟩)) (HT.out.ext EC.out)).mono ?_
    rintro e w4 ⟨l4, f4, rfl, hr4, hf4, HQ4, hx4⟩
    have U4 := hid (rec_use (S := M * qq) HQ4.out hf3 (fun _ => by rw [K.numL_txt, K.numL_txt]))
    have RDD := hid hr4
    have EDD := hid hx4
    clear hr4 hx4
    go_wp2_with fail
    refine (plus_gen w.heap.size l3 l4 f4 w w4 EDD.out (Nat.le_refl _) RDD.out hf4 HQ3.out.1 HQ4.out.1 (hid (fun h => by have h4 := U4.out.1 h; have h3 := U3.out.1 h4.1; rw [h4.2.2, h3.2.2]; exact ⟨K.valid_txt _ h3.2.1, K.valid_txt _ h4.2.1⟩)) (HT.out.ext EDD.out)).mono ?_
    rintro e w5 ⟨l5, f5, rfl, hr5, hf5, HQ5, hx5⟩
    have U5 := hid (rec_use (S := M * hh + A + M * hh + M * qq) HQ5.out hf4 (fun h => by have h4 := U4.out.1 h; have h3 := U3.out.1 h4.1; rw [h4.2.2, h3.2.2, K.numL_txt, K.numL_txt]))
    have RE := hid hr5
    have EE := hid hx5
    clear hr5 hx5
    have c0 : w5.cell? ⟨w.heap.size, 0, none⟩ = some (.int .i64 f5) := RE.out.cell 0
    rcases hf5 with rfl | rfl
    · have HF : Hid (Told2 (M * N + A) (Str l5) 0) := hid (by
        have h5 := (U5.out.1 (by trivial)).2
        rw [← HHH.out, ← HQQ.out, half_sum] at h5
        exact ⟨fun _ => ⟨by rw [h5.2], rfl⟩, fun h => absurd h5.1 h⟩)
      clear U1 U2 U3 U4 U5 HQ1 HQ2 HQ3 HQ4 HQ5
      go_wp2
      go_ret2
      exact ⟨_, _, rfl, HF, EE.out⟩
    · have HF : Hid (Told2 (M * N + A) ⟨#[]⟩ 3) := hid ⟨fun h => by
        exfalso
        have hT : K.fits (M * hh + A + M * hh + M * qq) := by rw [← HHH.out, ← HQQ.out, half_sum]; exact h
        have hw := tp_way (by rw [← HHH.out, ← HQQ.out]; exact half_parts M N HN0.out) FA.out hT
        have g1 := U1.out.2 (by trivial) hw.1
        have g2 := U2.out.2 g1 hw.2.1
        have g3 := U3.out.2 g2 hw.2.2
        have g4 := U4.out.2 g3 (by rw [← HQQ.out]; exact odd_fits FM.out)
        have g5 := U5.out.2 g4 hT
        omega, fun _ => ⟨rfl, rfl⟩⟩
      clear U1 U2 U3 U4 U5 HQ1 HQ2 HQ3 HQ4 HQ5
      go_wp2_with fail
      first | (go_quiet (fail)) | (go_region)
      all_goals
        have HE5 := hid (show Ext w _ from EE.out.drewN nq)
        go_wp2
        go_ret2
        exact ⟨_, _, rfl, HF, HE5.out⟩
end Go.Proofs.YtleccblkafcidaaGreatDoor
/- word.Apply -/
namespace Go.Proofs.YtleccblkafcidaaGreatDoor
open Go.RowKit
theorem txt_not_zero {z : Int} (h : z ≠ 0) : Str (K.txt z) ≠ ⟨#[48]⟩ := by
  intro e
  have h2 : K.txt z = [48] := by
    have := congrArg (fun b : ByteArray => b.data.toList) e
    simpa [Str] using this
  rw [← txt_zero2] at h2
  exact h (K.txt_inj h2)
set_option maxRecDepth 100000 in
set_option maxHeartbeats 1600000 in
theorem apply_bad0 (lm la ld ln : List UInt8) (w : World) (h1 : lm.length ≤ 140737488351232) (h2 : la.length ≤ 140737488351232) (h3 : ld.length ≤ 140737488351232) (h4 : ln.length ≤ 140737488351232) (v0 : Hid (K.validL lm = false)) :
    Calls Tryz.prog 125 #[.agg #[.string (Str lm), .string (Str la), .string (Str ld)], .string (Str ln)] w (fun e w' => e = .returned (.tuple #[.string ⟨#[]⟩, .bool false, .int .i64 1]) ∧ Ext w w') := by
  have hx : Ext w (w.alloc (.cells #[.string (Str lm), .string (Str la), .string (Str ld)] 38)) := (Ext.rfl' w).alloc' _
  have hrw : Row (w.alloc (.cells #[.string (Str lm), .string (Str la), .string (Str ld)] 38)) w.heap.size 38 [.string (Str lm), .string (Str la), .string (Str ld)] := Row.new w _ _
  obtain ⟨W1, hW1⟩ : ∃ W1, (w.alloc (.cells #[.string (Str lm), .string (Str la), .string (Str ld)] 38)) = W1 := ⟨_, rfl⟩
  rw [hW1] at hx hrw
  have HX := hid hx
  have HR := hid hrw
  have HW1 := hid hW1
  have HY0 := hid (Ext.rfl' W1)
  obtain ⟨f0, f1, f2, -, -, -⟩ := row_facts3 hrw
  clear hW1 hx hrw
  go_enter Tryz.func125, Tryz.ntmps125
  go_upto_region 1 with fail
  rw [HW1.out]
  go_wp2_with fail
  refine (valid_at lm W1 v0 h1).mono ?_
  rintro e w2 ⟨rfl, hx⟩
  have HY1 := hid (HY0.out.step hx)
  clear f0 f1 f2 hx
  obtain ⟨f0, f1, f2, -, -, -⟩ := row_facts3 (HR.out.ext HY1.out)
  have HF := hid (HX.out.step HY1.out)
  clear f0 f1 f2
  go_wp2
  go_ret3
  exact ⟨rfl, HF.out⟩
set_option maxRecDepth 100000 in
set_option maxHeartbeats 1600000 in
theorem apply_bad1 (lm la ld ln : List UInt8) (w : World) (h1 : lm.length ≤ 140737488351232) (h2 : la.length ≤ 140737488351232) (h3 : ld.length ≤ 140737488351232) (h4 : ln.length ≤ 140737488351232) (v0 : Hid (K.validL lm = true)) (v1 : Hid (K.validL la = false)) :
    Calls Tryz.prog 125 #[.agg #[.string (Str lm), .string (Str la), .string (Str ld)], .string (Str ln)] w (fun e w' => e = .returned (.tuple #[.string ⟨#[]⟩, .bool false, .int .i64 1]) ∧ Ext w w') := by
  have hx : Ext w (w.alloc (.cells #[.string (Str lm), .string (Str la), .string (Str ld)] 38)) := (Ext.rfl' w).alloc' _
  have hrw : Row (w.alloc (.cells #[.string (Str lm), .string (Str la), .string (Str ld)] 38)) w.heap.size 38 [.string (Str lm), .string (Str la), .string (Str ld)] := Row.new w _ _
  obtain ⟨W1, hW1⟩ : ∃ W1, (w.alloc (.cells #[.string (Str lm), .string (Str la), .string (Str ld)] 38)) = W1 := ⟨_, rfl⟩
  rw [hW1] at hx hrw
  have HX := hid hx
  have HR := hid hrw
  have HW1 := hid hW1
  have HY0 := hid (Ext.rfl' W1)
  obtain ⟨f0, f1, f2, -, -, -⟩ := row_facts3 hrw
  clear hW1 hx hrw
  go_enter Tryz.func125, Tryz.ntmps125
  go_upto_region 1 with fail
  rw [HW1.out]
  go_wp2_with fail
  refine (valid_at lm W1 v0 h1).mono ?_
  rintro e w2 ⟨rfl, hx⟩
  have HY1 := hid (HY0.out.step hx)
  clear f0 f1 f2 hx
  obtain ⟨f0, f1, f2, -, -, -⟩ := row_facts3 (HR.out.ext HY1.out)
  go_wp2_with fail
  refine (valid_at la w2 v1 h2).mono ?_
  rintro e w3 ⟨rfl, hx⟩
  have HY2 := hid (HY1.out.step hx)
  clear f0 f1 f2 hx
  obtain ⟨f0, f1, f2, -, -, -⟩ := row_facts3 (HR.out.ext HY2.out)
  have HF := hid (HX.out.step HY2.out)
  clear f0 f1 f2
  go_wp2
  go_ret3
  exact ⟨rfl, HF.out⟩
set_option maxRecDepth 100000 in
set_option maxHeartbeats 1600000 in
theorem apply_bad2 (lm la ld ln : List UInt8) (w : World) (h1 : lm.length ≤ 140737488351232) (h2 : la.length ≤ 140737488351232) (h3 : ld.length ≤ 140737488351232) (h4 : ln.length ≤ 140737488351232) (v0 : Hid (K.validL lm = true)) (v1 : Hid (K.validL la = true)) (v2 : Hid (K.validL ld = false)) :
    Calls Tryz.prog 125 #[.agg #[.string (Str lm), .string (Str la), .string (Str ld)], .string (Str ln)] w (fun e w' => e = .returned (.tuple #[.string ⟨#[]⟩, .bool false, .int .i64 1]) ∧ Ext w w') := by
  have hx : Ext w (w.alloc (.cells #[.string (Str lm), .string (Str la), .string (Str ld)] 38)) := (Ext.rfl' w).alloc' _
  have hrw : Row (w.alloc (.cells #[.string (Str lm), .string (Str la), .string (Str ld)] 38)) w.heap.size 38 [.string (Str lm), .string (Str la), .string (Str ld)] := Row.new w _ _
  obtain ⟨W1, hW1⟩ : ∃ W1, (w.alloc (.cells #[.string (Str lm), .string (Str la), .string (Str ld)] 38)) = W1 := ⟨_, rfl⟩
  rw [hW1] at hx hrw
  have HX := hid hx
  have HR := hid hrw
  have HW1 := hid hW1
  have HY0 := hid (Ext.rfl' W1)
  obtain ⟨f0, f1, f2, -, -, -⟩ := row_facts3 hrw
  clear hW1 hx hrw
  go_enter Tryz.func125, Tryz.ntmps125
  go_upto_region 1 with fail
  rw [HW1.out]
  go_wp2_with fail
  refine (valid_at lm W1 v0 h1).mono ?_
  rintro e w2 ⟨rfl, hx⟩
  have HY1 := hid (HY0.out.step hx)
  clear f0 f1 f2 hx
  obtain ⟨f0, f1, f2, -, -, -⟩ := row_facts3 (HR.out.ext HY1.out)
  go_wp2_with fail
  refine (valid_at la w2 v1 h2).mono ?_
  rintro e w3 ⟨rfl, hx⟩
  have HY2 := hid (HY1.out.step hx)
  clear f0 f1 f2 hx
  obtain ⟨f0, f1, f2, -, -, -⟩ := row_facts3 (HR.out.ext HY2.out)
  go_wp2_with fail
  refine (valid_at ld w3 v2 h3).mono ?_
  rintro e w4 ⟨rfl, hx⟩
  have HY3 := hid (HY2.out.step hx)
  clear f0 f1 f2 hx
  obtain ⟨f0, f1, f2, -, -, -⟩ := row_facts3 (HR.out.ext HY3.out)
  have HF := hid (HX.out.step HY3.out)
  clear f0 f1 f2
  go_wp2
  go_ret3
  exact ⟨rfl, HF.out⟩
set_option maxRecDepth 100000 in
set_option maxHeartbeats 1600000 in
theorem apply_bad3 (lm la ld ln : List UInt8) (w : World) (h1 : lm.length ≤ 140737488351232) (h2 : la.length ≤ 140737488351232) (h3 : ld.length ≤ 140737488351232) (h4 : ln.length ≤ 140737488351232) (v0 : Hid (K.validL lm = true)) (v1 : Hid (K.validL la = true)) (v2 : Hid (K.validL ld = true)) (v3 : Hid (K.validL ln = false)) :
    Calls Tryz.prog 125 #[.agg #[.string (Str lm), .string (Str la), .string (Str ld)], .string (Str ln)] w (fun e w' => e = .returned (.tuple #[.string ⟨#[]⟩, .bool false, .int .i64 1]) ∧ Ext w w') := by
  have hx : Ext w (w.alloc (.cells #[.string (Str lm), .string (Str la), .string (Str ld)] 38)) := (Ext.rfl' w).alloc' _
  have hrw : Row (w.alloc (.cells #[.string (Str lm), .string (Str la), .string (Str ld)] 38)) w.heap.size 38 [.string (Str lm), .string (Str la), .string (Str ld)] := Row.new w _ _
  obtain ⟨W1, hW1⟩ : ∃ W1, (w.alloc (.cells #[.string (Str lm), .string (Str la), .string (Str ld)] 38)) = W1 := ⟨_, rfl⟩
  rw [hW1] at hx hrw
  have HX := hid hx
  have HR := hid hrw
  have HW1 := hid hW1
  have HY0 := hid (Ext.rfl' W1)
  obtain ⟨f0, f1, f2, -, -, -⟩ := row_facts3 hrw
  clear hW1 hx hrw
  go_enter Tryz.func125, Tryz.ntmps125
  go_upto_region 1 with fail
  rw [HW1.out]
  go_wp2_with fail
  refine (valid_at lm W1 v0 h1).mono ?_
  rintro e w2 ⟨rfl, hx⟩
  have HY1 := hid (HY0.out.step hx)
  clear f0 f1 f2 hx
  obtain ⟨f0, f1, f2, -, -, -⟩ := row_facts3 (HR.out.ext HY1.out)
  go_wp2_with fail
  refine (valid_at la w2 v1 h2).mono ?_
  rintro e w3 ⟨rfl, hx⟩
  have HY2 := hid (HY1.out.step hx)
  clear f0 f1 f2 hx
  obtain ⟨f0, f1, f2, -, -, -⟩ := row_facts3 (HR.out.ext HY2.out)
  go_wp2_with fail
  refine (valid_at ld w3 v2 h3).mono ?_
  rintro e w4 ⟨rfl, hx⟩
  have HY3 := hid (HY2.out.step hx)
  clear f0 f1 f2 hx
  obtain ⟨f0, f1, f2, -, -, -⟩ := row_facts3 (HR.out.ext HY3.out)
  go_wp2_with fail
  refine (valid_at ln w4 v3 h4).mono ?_
  rintro e w5 ⟨rfl, hx⟩
  have HY4 := hid (HY3.out.step hx)
  clear f0 f1 f2 hx
  obtain ⟨f0, f1, f2, -, -, -⟩ := row_facts3 (HR.out.ext HY4.out)
  have HF := hid (HX.out.step HY4.out)
  clear f0 f1 f2
  go_wp2
  go_ret3
  exact ⟨rfl, HF.out⟩
theorem apply_bad (lm la ld ln : List UInt8) (w : World) (h1 : lm.length ≤ 140737488351232) (h2 : la.length ≤ 140737488351232) (h3 : ld.length ≤ 140737488351232) (h4 : ln.length ≤ 140737488351232) (hb : ¬ (K.validL lm = true ∧ K.validL la = true ∧ K.validL ld = true ∧ K.validL ln = true)) :
    Calls Tryz.prog 125 #[.agg #[.string (Str lm), .string (Str la), .string (Str ld)], .string (Str ln)] w (fun e w' => e = .returned (.tuple #[.string ⟨#[]⟩, .bool false, .int .i64 1]) ∧ Ext w w') := by
  cases a : K.validL lm with
  | false => exact apply_bad0 lm la ld ln w h1 h2 h3 h4 (hid a)
  | true =>
    cases b : K.validL la with
    | false => exact apply_bad1 lm la ld ln w h1 h2 h3 h4 (hid a) (hid b)
    | true =>
      cases c : K.validL ld with
      | false => exact apply_bad2 lm la ld ln w h1 h2 h3 h4 (hid a) (hid b) (hid c)
      | true =>
        cases d : K.validL ln with
        | false => exact apply_bad3 lm la ld ln w h1 h2 h3 h4 (hid a) (hid b) (hid c) (hid d)
        | true => exact absurd ⟨a, b, c, d⟩ hb
set_option maxRecDepth 100000 in
set_option maxHeartbeats 3200000 in
theorem apply_arg (M A D N : Int) (w : World) (FM : Hid (K.fits M)) (FA : Hid (K.fits A)) (FD : Hid (K.fits D)) (FN : Hid (K.fits N)) (ht : Tab w) (hd : D ≤ 0) :
    Calls Tryz.prog 125 #[.agg #[.string (Str (K.txt M)), .string (Str (K.txt A)), .string (Str (K.txt D))], .string (Str (K.txt N))] w (fun e w' => e = .returned (.tuple #[.string ⟨#[]⟩, .bool false, .int .i64 2]) ∧ Ext w w') := by
  have HT := hid ht
  obtain ⟨sg, hsg⟩ : ∃ sg, sgnI D 0 = sg := ⟨_, rfl⟩
  have HSG := hid hsg
  have hs0 : sg ≤ 0 := by rw [← hsg]; unfold sgnI; rw [if_neg (show ¬ 0 < D by omega)]; split <;> omega
  clear hsg
  have hx : Ext w (w.alloc (.cells #[.string (Str (K.txt M)), .string (Str (K.txt A)), .string (Str (K.txt D))] 38)) := (Ext.rfl' w).alloc' _
  have hrw : Row (w.alloc (.cells #[.string (Str (K.txt M)), .string (Str (K.txt A)), .string (Str (K.txt D))] 38)) w.heap.size 38 [.string (Str (K.txt M)), .string (Str (K.txt A)), .string (Str (K.txt D))] := Row.new w _ _
  obtain ⟨W1, hW1⟩ : ∃ W1, (w.alloc (.cells #[.string (Str (K.txt M)), .string (Str (K.txt A)), .string (Str (K.txt D))] 38)) = W1 := ⟨_, rfl⟩
  rw [hW1] at hx hrw
  have HX := hid hx
  have HR := hid hrw
  have HW1 := hid hW1
  have HY0 := hid (Ext.rfl' W1)
  obtain ⟨f0, f1, f2, -, -, -⟩ := row_facts3 hrw
  clear hW1 hx hrw
  go_enter Tryz.func125, Tryz.ntmps125
  go_upto_region 1 with fail
  rw [HW1.out]
  go_wp2_with fail
  refine (valid_at (K.txt M) W1 (hid (K.valid_txt _ FM.out)) (len_of (K.txt_len _ FM.out))).mono ?_
  rintro e w2 ⟨rfl, hx⟩
  have HY1 := hid (HY0.out.step hx)
  clear f0 f1 f2 hx
  obtain ⟨f0, f1, f2, -, -, -⟩ := row_facts3 (HR.out.ext HY1.out)
  go_wp2_with fail
  refine (valid_at (K.txt A) w2 (hid (K.valid_txt _ FA.out)) (len_of (K.txt_len _ FA.out))).mono ?_
  rintro e w3 ⟨rfl, hx⟩
  have HY2 := hid (HY1.out.step hx)
  clear f0 f1 f2 hx
  obtain ⟨f0, f1, f2, -, -, -⟩ := row_facts3 (HR.out.ext HY2.out)
  go_wp2_with fail
  refine (valid_at (K.txt D) w3 (hid (K.valid_txt _ FD.out)) (len_of (K.txt_len _ FD.out))).mono ?_
  rintro e w4 ⟨rfl, hx⟩
  have HY3 := hid (HY2.out.step hx)
  clear f0 f1 f2 hx
  obtain ⟨f0, f1, f2, -, -, -⟩ := row_facts3 (HR.out.ext HY3.out)
  go_wp2_with fail
  refine (valid_at (K.txt N) w4 (hid (K.valid_txt _ FN.out)) (len_of (K.txt_len _ FN.out))).mono ?_
  rintro e w5 ⟨rfl, hx⟩
  have HY4 := hid (HY3.out.step hx)
  clear f0 f1 f2 hx
  obtain ⟨f0, f1, f2, -, -, -⟩ := row_facts3 (HR.out.ext HY4.out)
  go_wp2_with fail
  refine (compare_ok (K.txt D) [48] w5 (len_of (K.txt_len _ FD.out)) (by decide) (K.valid_txt _ FD.out) zero_ok).mono ?_
  rintro e w6 ⟨rfl, hx⟩
  rw [K.numL_txt, zero_num, HSG.out]
  have HY5 := hid (HY4.out.step hx)
  clear f0 f1 f2 hx
  obtain ⟨f0, f1, f2, -, -, -⟩ := row_facts3 (HR.out.ext HY5.out)
  have HF := hid (HX.out.step HY5.out)
  clear f0 f1 f2
  go_wp2
  go_ret3
  exact ⟨rfl, HF.out⟩
set_option maxRecDepth 100000 in
set_option maxHeartbeats 3200000 in
theorem apply_size (M A D N : Int) (w : World) (FM : Hid (K.fits M)) (FA : Hid (K.fits A)) (FD : Hid (K.fits D)) (FN : Hid (K.fits N)) (ht : Tab w) (hd : 0 < D) (hf : Hid (¬ K.fits (M * N + A))) :
    Calls Tryz.prog 125 #[.agg #[.string (Str (K.txt M)), .string (Str (K.txt A)), .string (Str (K.txt D))], .string (Str (K.txt N))] w (fun e w' => e = .returned (.tuple #[.string ⟨#[]⟩, .bool false, .int .i64 3]) ∧ Ext w w') := by
  have HT := hid ht
  obtain ⟨sg, hsg⟩ : ∃ sg, sgnI D 0 = sg := ⟨_, rfl⟩
  have HSG := hid hsg
  have hs0 : ¬ sg ≤ 0 := by rw [← hsg]; unfold sgnI; rw [if_neg (by omega), if_pos (by omega)]; omega
  clear hsg
  have hx : Ext w (w.alloc (.cells #[.string (Str (K.txt M)), .string (Str (K.txt A)), .string (Str (K.txt D))] 38)) := (Ext.rfl' w).alloc' _
  have hrw : Row (w.alloc (.cells #[.string (Str (K.txt M)), .string (Str (K.txt A)), .string (Str (K.txt D))] 38)) w.heap.size 38 [.string (Str (K.txt M)), .string (Str (K.txt A)), .string (Str (K.txt D))] := Row.new w _ _
  obtain ⟨W1, hW1⟩ : ∃ W1, (w.alloc (.cells #[.string (Str (K.txt M)), .string (Str (K.txt A)), .string (Str (K.txt D))] 38)) = W1 := ⟨_, rfl⟩
  rw [hW1] at hx hrw
  have HX := hid hx
  have HR := hid hrw
  have HW1 := hid hW1
  have HY0 := hid (Ext.rfl' W1)
  obtain ⟨f0, f1, f2, -, -, -⟩ := row_facts3 hrw
  clear hW1 hx hrw
  go_enter Tryz.func125, Tryz.ntmps125
  go_upto_region 1 with fail
  rw [HW1.out]
  go_wp2_with fail
  refine (valid_at (K.txt M) W1 (hid (K.valid_txt _ FM.out)) (len_of (K.txt_len _ FM.out))).mono ?_
  rintro e w2 ⟨rfl, hx⟩
  have HY1 := hid (HY0.out.step hx)
  clear f0 f1 f2 hx
  obtain ⟨f0, f1, f2, -, -, -⟩ := row_facts3 (HR.out.ext HY1.out)
  go_wp2_with fail
  refine (valid_at (K.txt A) w2 (hid (K.valid_txt _ FA.out)) (len_of (K.txt_len _ FA.out))).mono ?_
  rintro e w3 ⟨rfl, hx⟩
  have HY2 := hid (HY1.out.step hx)
  clear f0 f1 f2 hx
  obtain ⟨f0, f1, f2, -, -, -⟩ := row_facts3 (HR.out.ext HY2.out)
  go_wp2_with fail
  refine (valid_at (K.txt D) w3 (hid (K.valid_txt _ FD.out)) (len_of (K.txt_len _ FD.out))).mono ?_
  rintro e w4 ⟨rfl, hx⟩
  have HY3 := hid (HY2.out.step hx)
  clear f0 f1 f2 hx
  obtain ⟨f0, f1, f2, -, -, -⟩ := row_facts3 (HR.out.ext HY3.out)
  go_wp2_with fail
  refine (valid_at (K.txt N) w4 (hid (K.valid_txt _ FN.out)) (len_of (K.txt_len _ FN.out))).mono ?_
  rintro e w5 ⟨rfl, hx⟩
  have HY4 := hid (HY3.out.step hx)
  clear f0 f1 f2 hx
  obtain ⟨f0, f1, f2, -, -, -⟩ := row_facts3 (HR.out.ext HY4.out)
  go_wp2_with fail
  refine (compare_ok (K.txt D) [48] w5 (len_of (K.txt_len _ FD.out)) (by decide) (K.valid_txt _ FD.out) zero_ok).mono ?_
  rintro e w6 ⟨rfl, hx⟩
  rw [K.numL_txt, zero_num, HSG.out]
  have HY5 := hid (HY4.out.step hx)
  clear f0 f1 f2 hx
  obtain ⟨f0, f1, f2, -, -, -⟩ := row_facts3 (HR.out.ext HY5.out)
  go_wp2_with fail
  refine (tplus_any M N A w6 FM FN FA (HT.out.ext (HX.out.step HY5.out))).mono ?_
  rintro e w7 ⟨s, c, rfl, HTD, hx⟩
  have HY6 := hid (HY5.out.step hx)
  clear f0 f1 f2 hx
  obtain ⟨f0, f1, f2, -, -, -⟩ := row_facts3 (HR.out.ext HY6.out)
  obtain ⟨rfl, rfl⟩ := HTD.out.2 hf.out
  have HF := hid (HX.out.step HY6.out)
  clear f0 f1 f2
  go_wp2
  go_ret3
  exact ⟨rfl, HF.out⟩
set_option maxRecDepth 100000 in
set_option maxHeartbeats 3200000 in
theorem apply_frac (M A D N : Int) (w : World) (FM : Hid (K.fits M)) (FA : Hid (K.fits A)) (FD : Hid (K.fits D)) (FN : Hid (K.fits N)) (ht : Tab w) (hd : 0 < D) (hf : Hid (K.fits (M * N + A))) (hr : (M * N + A) % D ≠ 0) :
    Calls Tryz.prog 125 #[.agg #[.string (Str (K.txt M)), .string (Str (K.txt A)), .string (Str (K.txt D))], .string (Str (K.txt N))] w (fun e w' => e = .returned (.tuple #[.string ⟨#[]⟩, .bool false, .int .i64 0]) ∧ Ext w w') := by
  have HT := hid ht
  obtain ⟨sg, hsg⟩ : ∃ sg, sgnI D 0 = sg := ⟨_, rfl⟩
  have HSG := hid hsg
  have hs0 : ¬ sg ≤ 0 := by rw [← hsg]; unfold sgnI; rw [if_neg (by omega), if_pos (by omega)]; omega
  clear hsg
  obtain ⟨rs, hrs⟩ : ∃ rs, Str (K.txt ((M * N + A) % D)) = rs := ⟨_, rfl⟩
  obtain ⟨qs, hqs⟩ : ∃ qs, Str (K.txt ((M * N + A) / D)) = qs := ⟨_, rfl⟩
  have HRS := hid hrs
  have HQS := hid hqs
  have hne : rs ≠ ⟨#[48]⟩ := by rw [← hrs]; exact txt_not_zero hr
  have hnl : (rs.toList == [48]) = false := by
    rw [beq_eq_false_iff_ne]
    intro e
    exact hne (by rw [← hrs, Str_toList] at e; rw [← hrs, e]; rfl)
  have hnl2 : (rs.toList != [48]) = true := by rw [bne, hnl]; rfl
  clear hrs hqs hr
  have hx : Ext w (w.alloc (.cells #[.string (Str (K.txt M)), .string (Str (K.txt A)), .string (Str (K.txt D))] 38)) := (Ext.rfl' w).alloc' _
  have hrw : Row (w.alloc (.cells #[.string (Str (K.txt M)), .string (Str (K.txt A)), .string (Str (K.txt D))] 38)) w.heap.size 38 [.string (Str (K.txt M)), .string (Str (K.txt A)), .string (Str (K.txt D))] := Row.new w _ _
  obtain ⟨W1, hW1⟩ : ∃ W1, (w.alloc (.cells #[.string (Str (K.txt M)), .string (Str (K.txt A)), .string (Str (K.txt D))] 38)) = W1 := ⟨_, rfl⟩
  rw [hW1] at hx hrw
  have HX := hid hx
  have HR := hid hrw
  have HW1 := hid hW1
  have HY0 := hid (Ext.rfl' W1)
  obtain ⟨f0, f1, f2, -, -, -⟩ := row_facts3 hrw
  clear hW1 hx hrw
  go_enter Tryz.func125, Tryz.ntmps125
  go_upto_region 1 with fail
  rw [HW1.out]
  go_wp2_with fail
  refine (valid_at (K.txt M) W1 (hid (K.valid_txt _ FM.out)) (len_of (K.txt_len _ FM.out))).mono ?_
  rintro e w2 ⟨rfl, hx⟩
  have HY1 := hid (HY0.out.step hx)
  clear f0 f1 f2 hx
  obtain ⟨f0, f1, f2, -, -, -⟩ := row_facts3 (HR.out.ext HY1.out)
  go_wp2_with fail
  refine (valid_at (K.txt A) w2 (hid (K.valid_txt _ FA.out)) (len_of (K.txt_len _ FA.out))).mono ?_
  rintro e w3 ⟨rfl, hx⟩
  have HY2 := hid (HY1.out.step hx)
  clear f0 f1 f2 hx
  obtain ⟨f0, f1, f2, -, -, -⟩ := row_facts3 (HR.out.ext HY2.out)
  go_wp2_with fail
  refine (valid_at (K.txt D) w3 (hid (K.valid_txt _ FD.out)) (len_of (K.txt_len _ FD.out))).mono ?_
  rintro e w4 ⟨rfl, hx⟩
  have HY3 := hid (HY2.out.step hx)
  clear f0 f1 f2 hx
  obtain ⟨f0, f1, f2, -, -, -⟩ := row_facts3 (HR.out.ext HY3.out)
  go_wp2_with fail
  refine (valid_at (K.txt N) w4 (hid (K.valid_txt _ FN.out)) (len_of (K.txt_len _ FN.out))).mono ?_
  rintro e w5 ⟨rfl, hx⟩
  have HY4 := hid (HY3.out.step hx)
  clear f0 f1 f2 hx
  obtain ⟨f0, f1, f2, -, -, -⟩ := row_facts3 (HR.out.ext HY4.out)
  go_wp2_with fail
  refine (compare_ok (K.txt D) [48] w5 (len_of (K.txt_len _ FD.out)) (by decide) (K.valid_txt _ FD.out) zero_ok).mono ?_
  rintro e w6 ⟨rfl, hx⟩
  rw [K.numL_txt, zero_num, HSG.out]
  have HY5 := hid (HY4.out.step hx)
  clear f0 f1 f2 hx
  obtain ⟨f0, f1, f2, -, -, -⟩ := row_facts3 (HR.out.ext HY5.out)
  go_wp2_with fail
  refine (tplus_any M N A w6 FM FN FA (HT.out.ext (HX.out.step HY5.out))).mono ?_
  rintro e w7 ⟨s, c, rfl, HTD, hx⟩
  have HY6 := hid (HY5.out.step hx)
  clear f0 f1 f2 hx
  obtain ⟨f0, f1, f2, -, -, -⟩ := row_facts3 (HR.out.ext HY6.out)
  have hst := HTD.out.1 hf.out
  obtain ⟨rfl, rfl⟩ := hst
  go_wp2_with fail
  refine (divide_ok (K.txt (M * N + A)) (K.txt D) w7 (len_of (K.txt_len _ hf.out)) (len_of (K.txt_len _ FD.out)) (K.valid_txt _ hf.out) (K.valid_txt _ FD.out) (by rw [K.numL_txt]; exact hd) (HT.out.ext (HX.out.step HY6.out))).mono ?_
  rintro e w8 ⟨rfl, hx⟩
  rw [K.numL_txt, K.numL_txt, HRS.out, HQS.out]
  have HY7 := hid (HY6.out.step hx)
  clear f0 f1 f2 hx
  obtain ⟨f0, f1, f2, -, -, -⟩ := row_facts3 (HR.out.ext HY7.out)
  have HF := hid (HX.out.step HY7.out)
  clear f0 f1 f2
  go_wp2
  go_ret3
  exact ⟨rfl, HF.out⟩
set_option maxRecDepth 100000 in
set_option maxHeartbeats 3200000 in
theorem apply_yes (M A D N : Int) (w : World) (FM : Hid (K.fits M)) (FA : Hid (K.fits A)) (FD : Hid (K.fits D)) (FN : Hid (K.fits N)) (ht : Tab w) (hd : 0 < D) (hf : Hid (K.fits (M * N + A))) (hr : (M * N + A) % D = 0) :
    Calls Tryz.prog 125 #[.agg #[.string (Str (K.txt M)), .string (Str (K.txt A)), .string (Str (K.txt D))], .string (Str (K.txt N))] w (fun e w' => e = .returned (.tuple #[.string (Str (K.txt ((M * N + A) / D))), .bool true, .int .i64 0]) ∧ Ext w w') := by
  have HT := hid ht
  obtain ⟨sg, hsg⟩ : ∃ sg, sgnI D 0 = sg := ⟨_, rfl⟩
  have HSG := hid hsg
  have hs0 : ¬ sg ≤ 0 := by rw [← hsg]; unfold sgnI; rw [if_neg (by omega), if_pos (by omega)]; omega
  clear hsg
  obtain ⟨rs, hrs⟩ : ∃ rs, Str (K.txt ((M * N + A) % D)) = rs := ⟨_, rfl⟩
  obtain ⟨qs, hqs⟩ : ∃ qs, Str (K.txt ((M * N + A) / D)) = qs := ⟨_, rfl⟩
  have HRS := hid hrs
  have HQS := hid hqs
  obtain rfl : rs = ⟨#[48]⟩ := by rw [← hrs, hr, txt_zero2]; rfl
  clear hrs hqs hr
  have hx : Ext w (w.alloc (.cells #[.string (Str (K.txt M)), .string (Str (K.txt A)), .string (Str (K.txt D))] 38)) := (Ext.rfl' w).alloc' _
  have hrw : Row (w.alloc (.cells #[.string (Str (K.txt M)), .string (Str (K.txt A)), .string (Str (K.txt D))] 38)) w.heap.size 38 [.string (Str (K.txt M)), .string (Str (K.txt A)), .string (Str (K.txt D))] := Row.new w _ _
  obtain ⟨W1, hW1⟩ : ∃ W1, (w.alloc (.cells #[.string (Str (K.txt M)), .string (Str (K.txt A)), .string (Str (K.txt D))] 38)) = W1 := ⟨_, rfl⟩
  rw [hW1] at hx hrw
  have HX := hid hx
  have HR := hid hrw
  have HW1 := hid hW1
  have HY0 := hid (Ext.rfl' W1)
  obtain ⟨f0, f1, f2, -, -, -⟩ := row_facts3 hrw
  clear hW1 hx hrw
  go_enter Tryz.func125, Tryz.ntmps125
  go_upto_region 1 with fail
  rw [HW1.out]
  go_wp2_with fail
  refine (valid_at (K.txt M) W1 (hid (K.valid_txt _ FM.out)) (len_of (K.txt_len _ FM.out))).mono ?_
  rintro e w2 ⟨rfl, hx⟩
  have HY1 := hid (HY0.out.step hx)
  clear f0 f1 f2 hx
  obtain ⟨f0, f1, f2, -, -, -⟩ := row_facts3 (HR.out.ext HY1.out)
  go_wp2_with fail
  refine (valid_at (K.txt A) w2 (hid (K.valid_txt _ FA.out)) (len_of (K.txt_len _ FA.out))).mono ?_
  rintro e w3 ⟨rfl, hx⟩
  have HY2 := hid (HY1.out.step hx)
  clear f0 f1 f2 hx
  obtain ⟨f0, f1, f2, -, -, -⟩ := row_facts3 (HR.out.ext HY2.out)
  go_wp2_with fail
  refine (valid_at (K.txt D) w3 (hid (K.valid_txt _ FD.out)) (len_of (K.txt_len _ FD.out))).mono ?_
  rintro e w4 ⟨rfl, hx⟩
  have HY3 := hid (HY2.out.step hx)
  clear f0 f1 f2 hx
  obtain ⟨f0, f1, f2, -, -, -⟩ := row_facts3 (HR.out.ext HY3.out)
  go_wp2_with fail
  refine (valid_at (K.txt N) w4 (hid (K.valid_txt _ FN.out)) (len_of (K.txt_len _ FN.out))).mono ?_
  rintro e w5 ⟨rfl, hx⟩
  have HY4 := hid (HY3.out.step hx)
  clear f0 f1 f2 hx
  obtain ⟨f0, f1, f2, -, -, -⟩ := row_facts3 (HR.out.ext HY4.out)
  go_wp2_with fail
  refine (compare_ok (K.txt D) [48] w5 (len_of (K.txt_len _ FD.out)) (by decide) (K.valid_txt _ FD.out) zero_ok).mono ?_
  rintro e w6 ⟨rfl, hx⟩
  rw [K.numL_txt, zero_num, HSG.out]
  have HY5 := hid (HY4.out.step hx)
  clear f0 f1 f2 hx
  obtain ⟨f0, f1, f2, -, -, -⟩ := row_facts3 (HR.out.ext HY5.out)
  go_wp2_with fail
  refine (tplus_any M N A w6 FM FN FA (HT.out.ext (HX.out.step HY5.out))).mono ?_
  rintro e w7 ⟨s, c, rfl, HTD, hx⟩
  have HY6 := hid (HY5.out.step hx)
  clear f0 f1 f2 hx
  obtain ⟨f0, f1, f2, -, -, -⟩ := row_facts3 (HR.out.ext HY6.out)
  have hst := HTD.out.1 hf.out
  obtain ⟨rfl, rfl⟩ := hst
  go_wp2_with fail
  refine (divide_ok (K.txt (M * N + A)) (K.txt D) w7 (len_of (K.txt_len _ hf.out)) (len_of (K.txt_len _ FD.out)) (K.valid_txt _ hf.out) (K.valid_txt _ FD.out) (by rw [K.numL_txt]; exact hd) (HT.out.ext (HX.out.step HY6.out))).mono ?_
  rintro e w8 ⟨rfl, hx⟩
  rw [K.numL_txt, K.numL_txt, HRS.out, HQS.out]
  have HY7 := hid (HY6.out.step hx)
  clear f0 f1 f2 hx
  obtain ⟨f0, f1, f2, -, -, -⟩ := row_facts3 (HR.out.ext HY7.out)
  have HF := hid (HX.out.step HY7.out)
  clear f0 f1 f2
  go_wp2
  go_ret3
  exact ⟨by rw [HQS.out]; rfl, HF.out⟩
end Go.Proofs.YtleccblkafcidaaGreatDoor
/- the word law package's awake -/
namespace Go.Proofs.YtleccblkafcidaaGreatDoor
open Go.RowKit
theorem line110 : lineI 2 [1, 3] [0, 1] [1, 1, 0] = (9, 5, 8) := by decide +kernel
theorem word110 : wordB 2 [1, 1, 0] = true := by decide +kernel
theorem reg13 : regB 2 [1, 3] = true := by decide +kernel
theorem rest3B : ((List.range 8).all fun n => !((List.range 3).all fun i => orbN 2 [1, 3] [0, 1] i (n : Int) % 2 == ([1, 1, 0] : List Int).getD i 0) || n == 3) = true := by decide +kernel
theorem rest3 {R : Int} (h0 : 0 ≤ R) (h8 : R < 2 ^ ([1, 1, 0] : List Int).length) (h : IsWord 2 [1, 3] [0, 1] [1, 1, 0] R) : R = 3 := by
  obtain ⟨n, rfl⟩ : ∃ n : Nat, R = (n : Int) := ⟨R.toNat, by omega⟩
  have h8' : (n : Int) < 8 := h8
  have h1 := List.all_eq_true.1 rest3B n (List.mem_range.2 (by omega))
  rw [Bool.or_eq_true] at h1
  rcases h1 with h1 | h1
  · exfalso
    rw [Bool.not_eq_true'] at h1
    rw [← Bool.not_eq_true] at h1
    exact h1 (List.all_eq_true.2 fun i hi => beq_iff_eq.2 (h i (List.mem_range.1 hi)))
  · rw [beq_iff_eq.1 h1]; rfl
theorem word7 : wordI 2 [1, 3] [0, 1] (3 + 1) 7 = [1, 1, 1, 0] := by decide +kernel
theorem seq73 : seqO 2 [1, 3] [0, 1] 3 7 = [some 11, some 17, some 26] := by decide +kernel
theorem txt3 : K.txt 3 = [51] := K.txt_of_lit [51] 3 (by decide +kernel) (by decide +kernel)
theorem txt5 : K.txt 5 = [53] := K.txt_of_lit [53] 5 (by decide +kernel) (by decide +kernel)
theorem txt8 : K.txt 8 = [56] := K.txt_of_lit [56] 8 (by decide +kernel) (by decide +kernel)
theorem txt9 : K.txt 9 = [57] := K.txt_of_lit [57] 9 (by decide +kernel) (by decide +kernel)
theorem txt11 : K.txt 11 = [49, 49] := K.txt_of_lit [49, 49] 11 (by decide +kernel) (by decide +kernel)
theorem txt12 : K.txt 12 = [49, 50] := K.txt_of_lit [49, 50] 12 (by decide +kernel) (by decide +kernel)
theorem txt13 : K.txt 13 = [49, 51] := K.txt_of_lit [49, 51] 13 (by decide +kernel) (by decide +kernel)
theorem line110_ok (v : Value) (g : Nat) (w : World) (hv : MapV w v 2 [1, 3] [0, 1]) (hw : Rd w (some ⟨g, 0, none⟩) [.int .i64 1, .int .i64 1, .int .i64 0]) (ht : Tab w) :
    Calls Tryz.prog 118 #[v, .slice (some ⟨g, 0, none⟩) 3 3] w (fun e w' => e = .returned (.tuple #[.agg #[.string ⟨#[57]⟩, .string ⟨#[53]⟩, .string ⟨#[56]⟩], .int .i64 0]) ∧ Ext w w') := by
  refine (line_ok v 2 [1, 3] [0, 1] _ 3 3 [1, 1, 0] w hv hw rfl (by omega) (hid coll_ok) (hid word110) ht).mono ?_
  rintro e w' ⟨rfl, h2⟩
  rw [line110]
  refine ⟨?_, h2⟩
  unfold lineV
  simp only [txt9, txt5, txt8]
  rfl
theorem apply11 (w : World) (ht : Tab w) :
    Calls Tryz.prog 125 #[.agg #[.string ⟨#[57]⟩, .string ⟨#[53]⟩, .string ⟨#[56]⟩], .string ⟨#[49, 49]⟩] w (fun e w' => e = .returned (.tuple #[.string ⟨#[49, 51]⟩, .bool true, .int .i64 0]) ∧ Ext w w') := by
  have h := apply_yes 9 5 8 11 w (hid (fits_small (by decide))) (hid (fits_small (by decide))) (hid (fits_small (by decide))) (hid (fits_small (by decide))) ht (by omega) (hid (fits_small (by decide))) (by decide)
  rw [txt9, txt5, txt8, txt11, show ((9 : Int) * 11 + 5) / 8 = 13 from rfl, txt13] at h
  exact h
theorem apply12 (w : World) (ht : Tab w) :
    Calls Tryz.prog 125 #[.agg #[.string ⟨#[57]⟩, .string ⟨#[53]⟩, .string ⟨#[56]⟩], .string ⟨#[49, 50]⟩] w (fun e w' => e = .returned (.tuple #[.string ⟨#[]⟩, .bool false, .int .i64 0]) ∧ Ext w w') := by
  have h := apply_frac 9 5 8 12 w (hid (fits_small (by decide))) (hid (fits_small (by decide))) (hid (fits_small (by decide))) (hid (fits_small (by decide))) ht (by omega) (hid (fits_small (by decide))) (by decide)
  rw [txt9, txt5, txt8, txt12] at h
  exact h
end Go.Proofs.YtleccblkafcidaaGreatDoor
/- the word law package's awake -/
namespace Go.Proofs.YtleccblkafcidaaGreatDoor
open Go.RowKit
end Go.Proofs.YtleccblkafcidaaGreatDoor
/- the law WordPowers -/
namespace Go.Proofs.YtleccblkafcidaaGreatDoor
open Go.RowKit
theorem rtext_s {v : Value} {n : Int} {su : ByteArray} (w : World) (h : RefV w v n) (hb : n.natAbs ≤ BIG) (hs : Hid (Str (K.txt n) = su)) : Calls Tryz.prog 45 #[v] w (fun e w' => e = .returned (.string su) ∧ Ext w w') :=
  (rtext_any v n w h hb).mono fun e w' k => ⟨by rw [k.1, hs.out], k.2⟩
theorem line_s (v : Value) (m : Int) (us ad : List Int) (Wd : Option Addr) (wn wc : Nat) (ws : List Int) (su sa sd : ByteArray) (w : World) (hv : MapV w v m us ad) (hw : Rd w Wd (Is ws)) (hl : ws.length = wn) (hwb : wn ≤ 140737488351232) (hM : Hid (mapP m us ad)) (hW : Hid (wordB m ws = true)) (ht : Tab w)
    (h1 : Hid (Str (K.txt (lineI m us ad ws).1) = su)) (h2 : Hid (Str (K.txt (lineI m us ad ws).2.1) = sa)) (h3 : Hid (Str (K.txt (lineI m us ad ws).2.2) = sd)) :
    Calls Tryz.prog 118 #[v, .slice Wd wn wc] w (fun e w' => e = .returned (.tuple #[.agg #[.string su, .string sa, .string sd], .int .i64 0]) ∧ Ext w w') :=
  (line_ok v m us ad Wd wn wc ws w hv hw hl hwb hM hW ht).mono fun e w' k => ⟨by rw [k.1, lineV, h1.out, h2.out, h3.out], k.2⟩
theorem powers_next {m : Int} {us ad ws : List Int} {j : Nat} (hM : mapP m us ad) (hW : wordB m ws = true) (hj : j < ws.length) :
    (lineI m us ad (ws.take j)).1 * us.getD (ws.getD j 0).toNat 0 = (lineI m us ad (ws.take (j + 1))).1 ∧ (lineI m us ad (ws.take j)).2.2 * m = (lineI m us ad (ws.take (j + 1))).2.2 ∧
      (lineI m us ad (ws.take j)).1.natAbs ≤ BIG ∧ (lineI m us ad (ws.take j)).2.2.natAbs ≤ BIG ∧ 0 ≤ ws.getD j 0 ∧ ws.getD j 0 < m ∧ 1 ≤ us.getD (ws.getD j 0).toNat 0 ∧ us.getD (ws.getD j 0).toNat 0 ≤ 999 ∧ (ws.getD j 0).toNat < us.length := by
  have hw := wordB_iff.1 hW
  have hr := hw.2 (ws.getD j 0) (by rw [List.getD_eq_getElem?_getD, List.getElem?_eq_getElem hj]; exact List.getElem_mem hj)
  obtain ⟨u1, u2, -, -, l1, -⟩ := rule_of hM hr.1 hr.2
  have hB := lineI_B hM (ws.take j) (fun x hx => hw.2 x (List.mem_of_mem_take hx))
  have hf := hB.fits hM (by rw [List.length_take]; have := hw.1; omega) hr.1 hr.2
  refine ⟨?_, ?_, fits_big hf.1, fits_big hf.2.2.1, hr.1, hr.2, u1, u2, l1⟩
  · rw [take_succ_I hj, lineI_snoc]; exact Int.mul_comm _ _
  · rw [take_succ_I hj, lineI_snoc]; rfl
theorem powers_big {m : Int} {us ad ws : List Int} (hM : mapP m us ad) (hW : wordB m ws = true) : (lineI m us ad ws).1.natAbs ≤ BIG ∧ (lineI m us ad ws).2.2.natAbs ≤ BIG := by
  have hw := wordB_iff.1 hW
  have hB := lineI_B hM ws hw.2
  have hm := hM.1
  have hf := hB.fits hM hw.1 (r := 0) (by omega) (by omega)
  exact ⟨fits_big hf.1, fits_big hf.2.2.1⟩
end Go.Proofs.YtleccblkafcidaaGreatDoor
