/- the law WordReads -/
import Derived.Test.YtlfbgemceeibiaaGreatDoorJG18
import Derived.Test.YtlfbgemceeibiaaGreatDoorJG13
set_option linter.unusedSimpArgs false
set_option linter.unusedVariables false
namespace Go.Proofs.YtlfbgemceeibiaaGreatDoor
open Go.RowKit
theorem seqO_zero (m : Int) (us ad : List Int) (x : Int) : seqO m us ad 0 x = [] := rfl
theorem seqO_succ (m : Int) (us ad : List Int) (k : Nat) (x : Int) : seqO m us ad (k + 1) x = if fitsB (stepI m us ad x) = true then some (stepI m us ad x) :: seqO m us ad k (stepI m us ad x) else [none] := rfl
theorem fits_of_B {x : Int} (h : fitsB x = true) : K.fits x := by
  by_cases hh : K.fits x
  · exact hh
  · rw [fitsB_no hh] at h; cases h
theorem seq_none {m : Int} {us ad : List Int} (k : Nat) : ∀ (x : Int), none ∈ seqO m us ad k x → ∃ i, i < k + 1 ∧ ¬ K.fits (orbN m us ad i x) := by
  induction k with
  | zero => intro x h; rw [seqO_zero] at h; cases h
  | succ k ih =>
    intro x h
    rw [seqO_succ] at h
    by_cases hf : fitsB (stepI m us ad x) = true
    · rw [if_pos hf] at h
      rcases List.mem_cons.1 h with h2 | h2
      · cases h2
      · obtain ⟨i, hi, hn⟩ := ih _ h2
        exact ⟨i + 1, by omega, by rw [orbN_cons]; exact hn⟩
    · refine ⟨1, by omega, fun hh => hf ?_⟩
      exact fitsB_yes hh
theorem seq_all {m : Int} {us ad : List Int} (k : Nat) : ∀ (x : Int), none ∉ seqO m us ad k x → K.fits x → ∀ i, i < k + 1 → K.fits (orbN m us ad i x) := by
  induction k with
  | zero =>
    intro x h hx i hi
    obtain rfl : i = 0 := by omega
    exact hx
  | succ k ih =>
    intro x h hx i hi
    rw [seqO_succ] at h
    by_cases hf : fitsB (stepI m us ad x) = true
    · rw [if_pos hf] at h
      have h2 : none ∉ seqO m us ad k (stepI m us ad x) := fun hh => h (List.mem_cons_of_mem _ hh)
      rcases Nat.eq_zero_or_pos i with h0 | h0
      · subst h0; exact hx
      · obtain ⟨j, rfl⟩ : ∃ j, i = j + 1 := ⟨i - 1, by omega⟩
        rw [orbN_cons]
        exact ih _ h2 (fits_of_B hf) j (by omega)
    · rw [if_neg hf] at h
      exact absurd (List.mem_singleton.2 rfl) h
/-- what Word tells where it may be asked -/
def WordC (m : Int) (us ad : List Int) (k : Nat) (x : Int) (ws : List Int) (f : Int) : Prop := (f = 0 ∧ ws = wordI m us ad k x ∧ ∀ i, i < k → K.fits (orbN m us ad i x)) ∨ (f = 3 ∧ ws = [] ∧ ∃ i, i < k ∧ ¬ K.fits (orbN m us ad i x))
theorem wordc_any (v : Value) (m : Int) (us ad : List Int) (l : List UInt8) (k : Nat) (w : World) (hv : MapV w v m us ad) (hlen : l.length ≤ 140737488351232) (hb1 : Hid (mapB m us ad = true)) (hb2 : Hid (K.validL l = true)) (hk : k ≤ 200) (ht : Tab w) :
    Calls Tryz.prog 15 #[v, .string (Str l), .int .i64 (k : Int)] w (fun e w' => ∃ A wn f ws, e = .returned (.tuple #[.slice A wn wn, .int .i64 f]) ∧ Rd w' A (Is ws) ∧ ws.length = wn ∧ wn ≤ 200 ∧ WordC m us ad k (K.numL l) ws f ∧ Ext w w') := by
  have hfit := (K.txt_numL l hb2.out).2
  rcases k with - | k
  · refine (word_zero v m us ad l 0 w hv hlen hb1 hb2 rfl).mono ?_
    rintro e w' ⟨rfl, h2⟩
    exact ⟨_, _, _, [], rfl, Rd.nil _ _, rfl, by omega, .inl ⟨rfl, rfl, fun i hi => absurd hi (by omega)⟩, h2⟩
  · by_cases h : none ∈ seqO m us ad k (K.numL l)
    · refine (word_size v m us ad l k w hv hlen hb1 hb2 hk ht (hid h)).mono ?_
      rintro e w' ⟨rfl, h2⟩
      exact ⟨_, _, _, [], rfl, Rd.nil _ _, rfl, by omega, .inr ⟨rfl, rfl, seq_none k _ h⟩, h2⟩
    · refine (word_ok v m us ad l k w hv hlen hb1 hb2 hk ht (hid h)).mono ?_
      rintro e w' ⟨g, rfl, hr, -, h2⟩
      refine ⟨_, _, _, wordI m us ad (k + 1) (K.numL l), rfl, ?_, word_len _ _ _ _ _, hk, .inl ⟨rfl, rfl, seq_all k _ h hfit⟩, h2⟩
      exact hr.rd0
theorem wordno_any (v : Value) (m : Int) (us ad : List Int) (l : List UInt8) (k : Int) (x1 x2 : Bool) (w : World) (hv : MapV w v m us ad) (hlen : l.length ≤ 140737488351232) (hb1 : Hid (mapB m us ad = x1)) (hb2 : Hid (K.validL l = x2)) (HN : Hid (¬ (x1 = true ∧ x2 = true ∧ 0 ≤ k ∧ k ≤ 200))) {c : Int} (hc : Hid (c = if x1 = true ∧ x2 = true then 2 else 1)) :
    Calls Tryz.prog 15 #[v, .string (Str l), .int .i64 k] w (fun e w' => e = .returned (.tuple #[.slice none 0 0, .int .i64 c]) ∧ Ext w w') := by
  rw [hc.out]
  cases x1 with
  | false => exact word_form1 v m us ad l k w hv hlen hb1
  | true =>
    cases x2 with
    | false => exact word_form2 v m us ad l k w hv hlen hb1 hb2
    | true =>
      rcases Int.lt_or_le k 0 with h | h
      · exact word_low v m us ad l k w hv hlen hb1 hb2 h
      · refine word_high v m us ad l k w hv hlen hb1 hb2 h ?_
        rcases Int.lt_or_le 200 k with h2 | h2
        · exact h2
        · exact absurd ⟨rfl, rfl, h, h2⟩ HN.out
set_option maxRecDepth 100000 in
set_option maxHeartbeats 3200000 in
theorem reads_no (v : Value) (m : Int) (us ad : List Int) (l : List UInt8) (k : Int) (w : World) (hv : MapV w v m us ad) (h8 : Fit8 v) (hlen : l.length ≤ 140737488351232) (ht : Tab w) (x1 x2 : Bool) (hb1 : Hid (mapB m us ad = x1)) (hb2 : Hid (K.validL l = x2)) (HN : Hid (¬ (x1 = true ∧ x2 = true ∧ 0 ≤ k ∧ k ≤ 200))) {c : Int} (hc : Hid (c = if x1 = true ∧ x2 = true then 2 else 1)) :
    Calls Tryz.prog 3 #[v, .string (Str l), .int .i64 k] w (TruePost w) := by
  have HT := hid ht
  have HV := hid hv
  have H8 := hid h8
  obtain ⟨A, n, cc, B, n2, d, rfl, -⟩ := hv
  have hx : Ext w (w.alloc (.cells #[.int .i64 m, .slice A n cc, .slice B n2 d] 24)) := (Ext.rfl' w).alloc' _
  have hr : Row (w.alloc (.cells #[.int .i64 m, .slice A n cc, .slice B n2 d] 24)) w.heap.size 24 [.int .i64 m, .slice A n cc, .slice B n2 d] := Row.new w _ _
  obtain ⟨W1, hW1⟩ : ∃ W1, (w.alloc (.cells #[.int .i64 m, .slice A n cc, .slice B n2 d] 24)) = W1 := ⟨_, rfl⟩
  rw [hW1] at hx hr
  have HX := hid hx
  have HR := hid hr
  have HW1 := hid hW1
  obtain ⟨f0, f1, f2, -, -, -⟩ := row_facts3 hr
  have HTT : Hid (Tab W1) := hid (ht.ext hx)
  have HV1 := hid (HV.out.ext hx)
  clear hW1 hx hr h8
  go_enter Tryz.func3, Tryz.ntmps3
  go_upto_region 1 with fail
  rw [HW1.out]
  go_wp2_with fail
  refine (twin_any _ m us ad W1 HV1.out H8.out).mono ?_
  rintro e w2 ⟨v2, rfl, hv2, hx2⟩
  have hv2b := hv2
  obtain ⟨A2, l2, e2, B2, p2, g2, rfl, -⟩ := hv2
  have hx2b : Ext W1 (w2.alloc (.cells #[.int .i64 m, .slice A2 l2 e2, .slice B2 p2 g2] 24)) := hx2.alloc' _
  have hr2 : Row (w2.alloc (.cells #[.int .i64 m, .slice A2 l2 e2, .slice B2 p2 g2] 24)) w2.heap.size 24 [.int .i64 m, .slice A2 l2 e2, .slice B2 p2 g2] := Row.new w2 _ _
  have hv2c := hv2b.ext ((Ext.rfl' w2).alloc' (.cells #[.int .i64 m, .slice A2 l2 e2, .slice B2 p2 g2] 24))
  obtain ⟨W2, hW2⟩ : ∃ W2, (w2.alloc (.cells #[.int .i64 m, .slice A2 l2 e2, .slice B2 p2 g2] 24)) = W2 := ⟨_, rfl⟩
  rw [hW2] at hx2b hr2 hv2c
  have HX2 := hid hx2b
  have HR2 := hid hr2
  have HV2 := hid hv2c
  have HW2 := hid hW2
  clear f0 f1 f2 hx2 hx2b hr2 hv2b hv2c hW2
  obtain ⟨f0, f1, f2, -, -, -⟩ := row_facts3 (HR.out.ext HX2.out)
  go_upto_region 2 with fail
  rw [HW2.out]
  go_wp2_with fail
  refine (wordno_any _ m us ad l k x1 x2 W2 (HV1.out.ext HX2.out) hlen hb1 hb2 HN hc).mono ?_
  rintro e w3 ⟨rfl, hx⟩
  have HY3 := hid (HX2.out.step hx)
  have HZ3 := hid hx
  clear f0 f1 f2 hx
  obtain ⟨f0, f1, f2, -, -, -⟩ := row_facts3 (HR.out.ext HY3.out)
  obtain ⟨t0, t1, t2, -, -, -⟩ := row_facts3 (HR2.out.ext HZ3.out)
  go_wp2_with fail
  refine (rsame_eq _ _ m us ad w3 (HV1.out.ext HY3.out) (HV2.out.ext HZ3.out)).mono ?_
  rintro e w4 ⟨rfl, hx⟩
  have HY4 := hid (HY3.out.step hx)
  have H34 := hid hx
  clear f0 f1 f2 t0 t1 t2 hx
  obtain ⟨f0, f1, f2, -, -, -⟩ := row_facts3 (HR.out.ext HY4.out)
  go_wp2_with fail
  refine (refvalid_any _ m us ad w4 (HV1.out.ext HY4.out) hb1).mono ?_
  rintro e w5 ⟨rfl, hx⟩
  have HY5 := hid (HY4.out.step hx)
  have H35 := hid (H34.out.step hx)
  clear f0 f1 f2 hx
  cases x1 with
  | false =>
    obtain rfl : c = 1 := hc.out
    go_wp2_with fail
    refine (awake3_any w5 (HTT.out.ext HY5.out)).mono ?_
    rintro e wL ⟨rfl, hxL⟩
    have HL := hid (HX.out.step (HY5.out.step hxL))
    go_wp2
    go_ret
    exact ⟨rfl, HL.out⟩
  | true =>
    go_wp2_with fail
    refine (rvalid_at l w5 hb2 hlen).mono ?_
    rintro e wz ⟨rfl, rfl⟩
    cases x2 with
    | false =>
      obtain rfl : c = 1 := hc.out
      go_wp2_with fail
      refine (awake3_any w5 (HTT.out.ext HY5.out)).mono ?_
      rintro e wL ⟨rfl, hxL⟩
      have HL := hid (HX.out.step (HY5.out.step hxL))
      go_wp2
      go_ret
      exact ⟨rfl, HL.out⟩
    | true =>
      obtain rfl : c = 2 := hc.out
      by_cases h0 : k < 0
      · clear HN
        go_wp2_with fail
        refine (awake3_any w5 (HTT.out.ext HY5.out)).mono ?_
        rintro e wL ⟨rfl, hxL⟩
        have HL := hid (HX.out.step (HY5.out.step hxL))
        go_wp2
        go_ret
        exact ⟨rfl, HL.out⟩
      · have h1 : 200 < k := by
          rcases Int.lt_or_le 200 k with h | h
          · exact h
          · exact (HN.out (by refine ⟨?_, ?_, ?_, ?_⟩ <;> first | trivial | omega)).elim
        clear HN
        go_wp2_with fail
        refine (awake3_any w5 (HTT.out.ext HY5.out)).mono ?_
        rintro e wL ⟨rfl, hxL⟩
        have HL := hid (HX.out.step (HY5.out.step hxL))
        go_wp2
        go_ret
        exact ⟨rfl, HL.out⟩
set_option maxRecDepth 100000 in
set_option maxHeartbeats 6400000 in
theorem reads_in (v : Value) (m : Int) (us ad : List Int) (l : List UInt8) (k : Nat) (w : World) (hv : MapV w v m us ad) (h8 : Fit8 v) (hlen : l.length ≤ 140737488351232) (ht : Tab w) (hM : Hid (mapP m us ad)) (hb2 : Hid (K.validL l = true)) (hk : k ≤ 200) :
    Calls Tryz.prog 3 #[v, .string (Str l), .int .i64 (k : Int)] w (TruePost w) := by
  have hb1 : Hid (mapB m us ad = true) := hid ((mapB_iff _ _ _).2 hM.out)
  have q0 : ¬ (k : Int) < 0 := by omega
  have q1 : ¬ (200 : Int) < (k : Int) := by omega
  have HT := hid ht
  have HV := hid hv
  have H8 := hid h8
  obtain ⟨A, n, cc, B, n2, d, rfl, -⟩ := hv
  have hx : Ext w (w.alloc (.cells #[.int .i64 m, .slice A n cc, .slice B n2 d] 24)) := (Ext.rfl' w).alloc' _
  have hr : Row (w.alloc (.cells #[.int .i64 m, .slice A n cc, .slice B n2 d] 24)) w.heap.size 24 [.int .i64 m, .slice A n cc, .slice B n2 d] := Row.new w _ _
  obtain ⟨W1, hW1⟩ : ∃ W1, (w.alloc (.cells #[.int .i64 m, .slice A n cc, .slice B n2 d] 24)) = W1 := ⟨_, rfl⟩
  rw [hW1] at hx hr
  have HX := hid hx
  have HR := hid hr
  have HW1 := hid hW1
  obtain ⟨f0, f1, f2, -, -, -⟩ := row_facts3 hr
  have HTT : Hid (Tab W1) := hid (ht.ext hx)
  have HV1 := hid (HV.out.ext hx)
  clear hW1 hx hr h8
  go_enter Tryz.func3, Tryz.ntmps3
  go_upto_region 1 with fail
  rw [HW1.out]
  go_wp2_with fail
  refine (twin_any _ m us ad W1 HV1.out H8.out).mono ?_
  rintro e w2 ⟨v2, rfl, hv2, hx2⟩
  have hv2b := hv2
  obtain ⟨A2, l2, e2, B2, p2, g2, rfl, -⟩ := hv2
  have hx2b : Ext W1 (w2.alloc (.cells #[.int .i64 m, .slice A2 l2 e2, .slice B2 p2 g2] 24)) := hx2.alloc' _
  have hr2 : Row (w2.alloc (.cells #[.int .i64 m, .slice A2 l2 e2, .slice B2 p2 g2] 24)) w2.heap.size 24 [.int .i64 m, .slice A2 l2 e2, .slice B2 p2 g2] := Row.new w2 _ _
  have hv2c := hv2b.ext ((Ext.rfl' w2).alloc' (.cells #[.int .i64 m, .slice A2 l2 e2, .slice B2 p2 g2] 24))
  obtain ⟨W2, hW2⟩ : ∃ W2, (w2.alloc (.cells #[.int .i64 m, .slice A2 l2 e2, .slice B2 p2 g2] 24)) = W2 := ⟨_, rfl⟩
  rw [hW2] at hx2b hr2 hv2c
  have HX2 := hid hx2b
  have HR2 := hid hr2
  have HV2 := hid hv2c
  have HW2 := hid hW2
  clear f0 f1 f2 hx2 hx2b hr2 hv2b hv2c hW2
  obtain ⟨f0, f1, f2, -, -, -⟩ := row_facts3 (HR.out.ext HX2.out)
  go_upto_region 2 with fail
  rw [HW2.out]
  go_wp2_with fail
  refine (wordc_any _ m us ad l k W2 (HV1.out.ext HX2.out) hlen hb1 hb2 hk (HTT.out.ext HX2.out)).mono ?_
  rintro e w3 ⟨Wd, wn, f, ws, rfl, hr3, hl3, hn3, hws, hx⟩
  have HY3 := hid (HX2.out.step hx)
  have HZ3 := hid hx
  have HR3 := hid hr3
  have HL3 := hid hl3
  have HWS := hid hws
  have HN3 := hid hn3
  clear hr3 hl3 hws hn3
  clear f0 f1 f2 hx
  obtain ⟨f0, f1, f2, -, -, -⟩ := row_facts3 (HR.out.ext HY3.out)
  obtain ⟨t0, t1, t2, -, -, -⟩ := row_facts3 (HR2.out.ext HZ3.out)
  go_wp2_with fail
  refine (rsame_eq _ _ m us ad w3 (HV1.out.ext HY3.out) (HV2.out.ext HZ3.out)).mono ?_
  rintro e w4 ⟨rfl, hx⟩
  have HY4 := hid (HY3.out.step hx)
  have H34 := hid hx
  clear f0 f1 f2 t0 t1 t2 hx
  obtain ⟨f0, f1, f2, -, -, -⟩ := row_facts3 (HR.out.ext HY4.out)
  go_wp2_with fail
  refine (refvalid_any _ m us ad w4 (HV1.out.ext HY4.out) hb1).mono ?_
  rintro e w5 ⟨rfl, hx⟩
  have HY5 := hid (HY4.out.step hx)
  have H35 := hid (H34.out.step hx)
  clear f0 f1 f2 hx
  go_wp2_with fail
  refine (rvalid_at l w5 hb2 hlen).mono ?_
  rintro e wz ⟨rfl, rfl⟩
  obtain ⟨f0, f1, f2, -, -, -⟩ := row_facts3 (HR.out.ext HY5.out)
  have hcur : Ext w5 w5 := Ext.rfl' _
  have HS : Hid (∀ W', Ext w5 W' → W'.cell? ⟨w.heap.size, 0, none⟩ = some (.int .i64 m) ∧ W'.cell? ⟨w.heap.size, 1, none⟩ = some (.slice A n cc) ∧ W'.cell? ⟨w.heap.size, 2, none⟩ = some (.slice B n2 d)) := hid (by
    intro W' e
    obtain ⟨p0, p1, p2, -, -, -⟩ := row_facts3 (HR.out.ext (HY5.out.step e))
    exact ⟨p0, p1, p2⟩)
  go_upto_region 9 with fail
  go_region_held3 (fun W' => W'.cell? ⟨w.heap.size, 0, none⟩ = some (.int .i64 m) ∧ W'.cell? ⟨w.heap.size, 1, none⟩ = some (.slice A n cc) ∧ W'.cell? ⟨w.heap.size, 2, none⟩ = some (.slice B n2 d))
    (first | exact HS.out _ hcur | exact HS.out _ hcur.drew' | go_keep)
    (first
      | (go_at_call 21; refine (parse_any l _ hb2.out).mono ?_; rintro e w7 ⟨v6, rfl, hv6, hx⟩; have hcur := Ext.step hcur (by first | exact hx | exact Ext.undrew hx); have HV6 := hid hv6)
      | (go_at_call 20; refine (rword_any _ _ m (K.numL l) us ad k _ ((HV1.out.ext HY5.out).ext ?_) hM (HV6.out.ext ?_) (hid (K.txt_numL l hb2.out).2) (by omega)).mono ?_; (first | exact hcur | exact hcur.drew'); (first | exact Ext.rfl' _ | exact (Ext.rfl' _).drew'); rintro e w8 ⟨L8, n8, c8, ws8, b8, rfl, hl8, hk8, hrd8, hcase, hx⟩; have hcur := Ext.step hcur (by first | exact hx | exact Ext.undrew hx); have HL8 := hid hl8; have HRD8 := hid hrd8; have HC8 := hid hcase))
  all_goals
    have HY8 := hid (HY5.out.step hcur)
    have H38 := hid (H35.out.step hcur)
    clear hl8 hrd8 hcase
    rcases HC8.out with ⟨rfl, h8w, h8f⟩ | ⟨rfl, i, hi, hnf⟩
    · rcases HWS.out with ⟨rfl, hw, -⟩ | ⟨-, -, j, hj, hnj⟩
      · obtain rfl : n8 = wn := by rw [← HL8.out, ← HL3.out, h8w, hw]
        have HRA := hid (show Rd w8 Wd (Is ws8) by rw [h8w, ← hw]; exact HR3.out.ext H38.out)
        clear h8w h8f hw
        go_wp2_with fail
        refine (ralike_eq Wd L8 n8 n8 c8 ws8 w8 HRA.out HRD8.out HL8.out (by omega)).mono ?_
        rintro e w9 ⟨rfl, hx⟩
        have HY9 := hid (HY8.out.step hx)
        clear hx
        go_wp2_with fail
        refine (awake3_any w9 (HTT.out.ext HY9.out)).mono ?_
        rintro e wL ⟨rfl, hxL⟩
        have HL := hid (HX.out.step (HY9.out.step hxL))
        go_wp2
        go_ret
        exact ⟨rfl, HL.out⟩
      · exact absurd (h8f j hj) hnj
    · rcases HWS.out with ⟨-, -, hall⟩ | ⟨rfl, rfl, -⟩
      · exact absurd (hall i hi) hnf
      · obtain rfl : wn = 0 := HL3.out.symm
        clear hi hnf
        go_wp2_with fail
        refine (awake3_any w8 (HTT.out.ext HY8.out)).mono ?_
        rintro e wL ⟨rfl, hxL⟩
        have HL := hid (HX.out.step (HY8.out.step hxL))
        go_wp2
        go_ret
        exact ⟨rfl, HL.out⟩
theorem law_WordReads (v : Value) (m : Int) (us ad : List Int) (l : List UInt8) (k : Int) (w : World) (hv : MapV w v m us ad) (h8 : Fit8 v) (hlen : l.length ≤ 140737488351232) (ht : Tab w) :
    Calls Tryz.prog 3 #[v, .string (Str l), .int .i64 k] w (TruePost w) := by
  by_cases h : mapB m us ad = true ∧ K.validL l = true ∧ 0 ≤ k ∧ k ≤ 200
  · obtain ⟨q, rfl⟩ : ∃ q : Nat, k = (q : Int) := ⟨k.toNat, by omega⟩
    exact reads_in v m us ad l q w hv h8 hlen ht (hid ((mapB_iff m us ad).1 h.1)) (hid h.2.1) (by omega)
  · exact reads_no v m us ad l k w hv h8 hlen ht _ _ (hid rfl) (hid rfl) (hid h) (hid rfl)
end Go.Proofs.YtlfbgemceeibiaaGreatDoor
