/- the law StepFirst -/
import Derived.Test.YtoilkfohhhidpaaGreatDoorJCStepFirst14
import Derived.Test.YtoilkfohhhidpaaGreatDoorJCStepFirst08
import Derived.Test.YtoilkfohhhidpaaGreatDoorJCStepFirst10
import Derived.Deep.RegionHeldLaw
namespace Go.Proofs.YtoilkfohhhidpaaGreatDoor
open Go.RowKit
theorem fall_cases (x : Int) : ∀ (L : List (Option Int)) (i : Nat),
    (none ∈ L ∧ fallL x i L = (0, ⟨#[]⟩, 3)) ∨ (none ∉ L ∧ (∀ y, some y ∈ L → ¬ y < x) ∧ fallL x i L = (0, ⟨#[]⟩, 4)) ∨
    (∃ (j : Nat) (y : Int), L[j]? = some (some y) ∧ y < x ∧ none ∉ L.take (j + 1) ∧ (∀ (a : Nat) z, a < j → L[a]? = some (some z) → ¬ z < x) ∧ fallL x i L = (((i + j + 1 : Nat) : Int), Str (K.txt y), 0))
  | [], i => .inr (.inl ⟨by simp, by simp, rfl⟩)
  | none :: r, i => .inl ⟨by simp, rfl⟩
  | some y :: r, i => by
    by_cases h : y < x
    · refine .inr (.inr ⟨0, y, rfl, h, by simp, fun a z ha => absurd ha (by omega), ?_⟩)
      rw [fallL, if_pos h]; rfl
    · rcases fall_cases x r (i + 1) with ⟨h1, h2⟩ | ⟨h1, h2, h3⟩ | ⟨j, z, h1, h2, h3, h4, h5⟩
      · exact .inl ⟨by simp [h1], by rw [fallL, if_neg h, h2]⟩
      · refine .inr (.inl ⟨by simp [h1], fun u hu => ?_, by rw [fallL, if_neg h, h3]⟩)
        rcases List.mem_cons.1 hu with e | e
        · cases e; exact h
        · exact h2 u e
      · refine .inr (.inr ⟨j + 1, z, by simpa using h1, h2, by simpa using h3, fun a u ha hu => ?_, ?_⟩)
        · cases a with
          | zero => simp at hu; subst hu; exact h
          | succ a => exact h4 a u (by omega) (by simpa using hu)
        · rw [fallL, if_neg h, h5, show i + 1 + j + 1 = i + (j + 1) + 1 by omega]
theorem seq_len (m : Int) (us ad : List Int) (k : Nat) : ∀ (x : Int), none ∉ seqO m us ad k x → (seqO m us ad k x).length = k := by
  induction k with
  | zero => intro x _; rfl
  | succ k ih =>
    intro x h
    rw [seqO] at h ⊢
    generalize fitsB (stepI m us ad x) = f at h ⊢
    cases f with
    | true =>
      rw [if_pos rfl] at h ⊢
      rw [List.length_cons, ih _ (fun e => h (by simp [e]))]
    | false => rw [if_neg (by simp)] at h; exact absurd (by simp) h
theorem seq_short (m : Int) (us ad : List Int) : ∀ (k : Nat) (x : Int), (seqO m us ad k x).length ≤ k
  | 0, x => Nat.le_refl _
  | k + 1, x => by
    rw [seqO]
    split
    · rw [List.length_cons]; have := seq_short m us ad k (stepI m us ad x); omega
    · simp
theorem seq_fit (m : Int) (us ad : List Int) (k : Nat) : ∀ (x y : Int), some y ∈ seqO m us ad k x → fitsB y = true := by
  induction k with
  | zero => intro x y h; cases h
  | succ k ih =>
    intro x y h
    rw [seqO] at h
    rcases hf : fitsB (stepI m us ad x) with _ | _
    · rw [hf, if_neg (by simp)] at h; simp at h
    · rw [hf, if_pos rfl] at h
      rcases List.mem_cons.1 h with e | e
      · rw [Option.some.inj e]; exact hf
      · exact ih _ y e
theorem seq_take (m : Int) (us ad : List Int) (k : Nat) : ∀ (j : Nat) (x : Int), j < (seqO m us ad k x).length → none ∉ (seqO m us ad k x).take (j + 1) → seqO m us ad (j + 1) x = (seqO m us ad k x).take (j + 1) := by
  induction k with
  | zero => intro j x h _; exact absurd h (by simp [seqO])
  | succ k ih =>
    intro j x h hn
    rw [seqO] at h hn
    rw [seqO, seqO]
    generalize fitsB (stepI m us ad x) = f at h hn ⊢
    cases f with
    | true =>
      rw [if_pos rfl] at h hn
      rw [if_pos rfl, if_pos rfl, List.take_succ_cons]
      cases j with
      | zero => simp [seqO]
      | succ j => rw [ih j _ (by simpa using h) (by simpa using hn)]
    | false => rw [if_neg (by simp)] at hn; exact absurd (by simp) hn
theorem falls_at (v : Value) (m : Int) (us ad : List Int) (l : List UInt8) (k : Nat) (w : World) (hv : MapV w v m us ad) (hM : Hid (mapP m us ad)) (hl : Hid (K.validL l = true)) (hk0 : 1 ≤ k) (hk : k ≤ 20000) (ht : Tab w) {i c : Int} {t : ByteArray}
    (hr : Hid (fallL (K.numL l) 0 (seqO m us ad k (K.numL l)) = (i, t, c))) :
    Calls Tryz.prog 22 #[v, .string (Str l), .int .i64 (k : Int)] w (fun e w' => e = .returned (.tuple #[.int .i64 i, .string t, .int .i64 c]) ∧ Ext w w') := by
  have h := falls_ok v m us ad l k w hv hM hl hk0 hk ht
  unfold FallPost at h
  rw [hr.out] at h
  exact h
theorem orbit_at (v : Value) (m : Int) (us ad : List Int) (l : List UInt8) (k : Nat) (w : World) (hv : MapV w v m us ad) (hM : Hid (mapP m us ad)) (hl : Hid (K.validL l = true)) (hk : k ≤ 1000) (ht : Tab w) (hn : Hid (none ∉ seqO m us ad k (K.numL l))) :
    Calls Tryz.prog 19 #[v, .string (Str l), .int .i64 (k : Int)] w (fun e w' => ∃ b o c, e = .returned (.tuple #[.slice (some ⟨b, o, none⟩) (k + 1) c, .int .i64 0]) ∧ k + 1 ≤ c ∧ Hid (Rd w' (some ⟨b, o, none⟩) (Txs (some (K.numL l) :: seqO m us ad k (K.numL l)))) ∧ Ext w w') := by
  refine (orbit_ok v m us ad l k w hv hM hl hk ht).mono ?_
  rintro e w' ⟨h1, -, h3⟩
  obtain ⟨A, kk, c, rfl, hk2, hc, hr⟩ := h1 hn.out
  rw [seq_len _ _ _ _ _ hn.out] at hk2
  subst hk2
  have hr' := hr
  rcases hr with h | ⟨b, o, rfl, hb, hcell⟩
  · simp at h
  · exact ⟨b, o, c, rfl, hc, hid hr', h3⟩
set_option maxRecDepth 100000 in
set_option maxHeartbeats 3200000 in
theorem first_form (v : Value) (m : Int) (us ad : List Int) (s : List UInt8) (k : Int) (w : World) (hv : MapV w v m us ad) (ht : Tab w) (hlen : s.length ≤ 140737488351232) (hb : Hid (false = (mapB m us ad && K.validL s))) :
    Calls Tryz.prog 7 #[v, .string (Str s), .int .i64 k] w (TruePost w) := by
  have HT := hid ht
  have HV := hid hv
  obtain ⟨A, n, cc, B, n2, d, rfl, -⟩ := hv
  have hx : Ext w (w.alloc (.cells #[.int .i64 m, .slice A n cc, .slice B n2 d] 24)) := (Ext.rfl' w).alloc' _
  have hr : Row (w.alloc (.cells #[.int .i64 m, .slice A n cc, .slice B n2 d] 24)) w.heap.size 24 [.int .i64 m, .slice A n cc, .slice B n2 d] := Row.new w _ _
  obtain ⟨W1, hW1⟩ : ∃ W1, (w.alloc (.cells #[.int .i64 m, .slice A n cc, .slice B n2 d] 24)) = W1 := ⟨_, rfl⟩
  rw [hW1] at hx hr
  have HX := hid hx
  have HR := hid hr
  have HW1 := hid hW1
  obtain ⟨f0, f1, f2, -, -, -⟩ := row_facts3 hr
  have HTT : Hid (Tab W1) := hid (ht.ext hx)
  have HV1 := hid (HV.out.ext hx)
  clear hW1 hx hr
  go_enter Tryz.func7, Tryz.ntmps7
  go_upto_region 1 with fail
  rw [HW1.out]
  go_wp2_with fail
  refine (formed_any _ m us ad s W1 HV1.out hlen (hid rfl) (hid rfl) hb).mono ?_
  rintro e w2 ⟨rfl, hx2⟩
  have HY := hid (HX.out.step hx2)
  clear f0 f1 f2 hx2
  go_wp2_with fail
  refine (awake2_any w2 (HT.out.ext HY.out)).mono ?_
  rintro e w3 ⟨rfl, hx3⟩
  have HZ := hid (HY.out.step hx3)
  go_wp2
  go_ret
  exact ⟨rfl, HZ.out⟩
set_option maxRecDepth 100000 in
set_option maxHeartbeats 3200000 in
theorem first_low (v : Value) (m : Int) (us ad : List Int) (s : List UInt8) (k : Int) (w : World) (hv : MapV w v m us ad) (ht : Tab w) (hlen : s.length ≤ 140737488351232) (hb : Hid (true = (mapB m us ad && K.validL s))) (h1 : k < 1) :
    Calls Tryz.prog 7 #[v, .string (Str s), .int .i64 k] w (TruePost w) := by
  have HT := hid ht
  have HV := hid hv
  obtain ⟨A, n, cc, B, n2, d, rfl, -⟩ := hv
  have hx : Ext w (w.alloc (.cells #[.int .i64 m, .slice A n cc, .slice B n2 d] 24)) := (Ext.rfl' w).alloc' _
  have hr : Row (w.alloc (.cells #[.int .i64 m, .slice A n cc, .slice B n2 d] 24)) w.heap.size 24 [.int .i64 m, .slice A n cc, .slice B n2 d] := Row.new w _ _
  obtain ⟨W1, hW1⟩ : ∃ W1, (w.alloc (.cells #[.int .i64 m, .slice A n cc, .slice B n2 d] 24)) = W1 := ⟨_, rfl⟩
  rw [hW1] at hx hr
  have HX := hid hx
  have HR := hid hr
  have HW1 := hid hW1
  obtain ⟨f0, f1, f2, -, -, -⟩ := row_facts3 hr
  have HTT : Hid (Tab W1) := hid (ht.ext hx)
  have HV1 := hid (HV.out.ext hx)
  clear hW1 hx hr
  go_enter Tryz.func7, Tryz.ntmps7
  go_upto_region 1 with fail
  rw [HW1.out]
  go_wp2_with fail
  refine (formed_any _ m us ad s W1 HV1.out hlen (hid rfl) (hid rfl) hb).mono ?_
  rintro e w2 ⟨rfl, hx2⟩
  have HY := hid (HX.out.step hx2)
  clear f0 f1 f2 hx2
  go_wp2_with fail
  refine (awake2_any w2 (HT.out.ext HY.out)).mono ?_
  rintro e w3 ⟨rfl, hx3⟩
  have HZ := hid (HY.out.step hx3)
  go_wp2
  go_ret
  exact ⟨rfl, HZ.out⟩
set_option maxRecDepth 100000 in
set_option maxHeartbeats 3200000 in
theorem first_high (v : Value) (m : Int) (us ad : List Int) (s : List UInt8) (k : Int) (w : World) (hv : MapV w v m us ad) (ht : Tab w) (hlen : s.length ≤ 140737488351232) (hb : Hid (true = (mapB m us ad && K.validL s))) (h0 : 1 ≤ k) (h1 : 1000 < k) :
    Calls Tryz.prog 7 #[v, .string (Str s), .int .i64 k] w (TruePost w) := by
  have HT := hid ht
  have HV := hid hv
  obtain ⟨A, n, cc, B, n2, d, rfl, -⟩ := hv
  have hx : Ext w (w.alloc (.cells #[.int .i64 m, .slice A n cc, .slice B n2 d] 24)) := (Ext.rfl' w).alloc' _
  have hr : Row (w.alloc (.cells #[.int .i64 m, .slice A n cc, .slice B n2 d] 24)) w.heap.size 24 [.int .i64 m, .slice A n cc, .slice B n2 d] := Row.new w _ _
  obtain ⟨W1, hW1⟩ : ∃ W1, (w.alloc (.cells #[.int .i64 m, .slice A n cc, .slice B n2 d] 24)) = W1 := ⟨_, rfl⟩
  rw [hW1] at hx hr
  have HX := hid hx
  have HR := hid hr
  have HW1 := hid hW1
  obtain ⟨f0, f1, f2, -, -, -⟩ := row_facts3 hr
  have HTT : Hid (Tab W1) := hid (ht.ext hx)
  have HV1 := hid (HV.out.ext hx)
  clear hW1 hx hr
  go_enter Tryz.func7, Tryz.ntmps7
  go_upto_region 1 with fail
  rw [HW1.out]
  go_wp2_with fail
  refine (formed_any _ m us ad s W1 HV1.out hlen (hid rfl) (hid rfl) hb).mono ?_
  rintro e w2 ⟨rfl, hx2⟩
  have HY := hid (HX.out.step hx2)
  clear f0 f1 f2 hx2
  go_wp2_with fail
  refine (awake2_any w2 (HT.out.ext HY.out)).mono ?_
  rintro e w3 ⟨rfl, hx3⟩
  have HZ := hid (HY.out.step hx3)
  go_wp2
  go_ret
  exact ⟨rfl, HZ.out⟩
set_option maxRecDepth 100000 in
set_option maxHeartbeats 3200000 in
theorem first_size (v : Value) (m : Int) (us ad : List Int) (s : List UInt8) (k : Nat) (w : World) (hv : MapV w v m us ad) (ht : Tab w) (hM : Hid (mapP m us ad)) (hs : Hid (K.validL s = true)) (hk0 : 1 ≤ k) (hk : k ≤ 1000) (HF : Hid (fallL (K.numL s) 0 (seqO m us ad k (K.numL s)) = (0, ⟨#[]⟩, 3))) (HO : Hid (runO m us ad k (K.numL s) = none)) :
    Calls Tryz.prog 7 #[v, .string (Str s), .int .i64 (k : Int)] w (TruePost w) := by
  have hlen := len_of (valid_len hs.out)
  have hb : Hid (true = (mapB m us ad && K.validL s)) := hid (by rw [(mapB_iff m us ad).2 hM.out, hs.out]; rfl)
  have q0 : (1 : Int) ≤ (k : Int) := by omega
  have q1 : (k : Int) ≤ 1000 := by omega
  have HT := hid ht
  have HV := hid hv
  obtain ⟨A, n, cc, B, n2, d, rfl, -⟩ := hv
  have hx : Ext w (w.alloc (.cells #[.int .i64 m, .slice A n cc, .slice B n2 d] 24)) := (Ext.rfl' w).alloc' _
  have hr : Row (w.alloc (.cells #[.int .i64 m, .slice A n cc, .slice B n2 d] 24)) w.heap.size 24 [.int .i64 m, .slice A n cc, .slice B n2 d] := Row.new w _ _
  obtain ⟨W1, hW1⟩ : ∃ W1, (w.alloc (.cells #[.int .i64 m, .slice A n cc, .slice B n2 d] 24)) = W1 := ⟨_, rfl⟩
  rw [hW1] at hx hr
  have HX := hid hx
  have HR := hid hr
  have HW1 := hid hW1
  obtain ⟨f0, f1, f2, -, -, -⟩ := row_facts3 hr
  have HTT : Hid (Tab W1) := hid (ht.ext hx)
  have HV1 := hid (HV.out.ext hx)
  clear hW1 hx hr
  go_enter Tryz.func7, Tryz.ntmps7
  go_upto_region 1 with fail
  rw [HW1.out]
  go_wp2_with fail
  refine (formed_any _ m us ad s W1 HV1.out hlen (hid rfl) (hid rfl) hb).mono ?_
  rintro e w2 ⟨rfl, hx2⟩
  have HY2 : Hid (Ext W1 w2) := hid hx2
  clear f0 f1 f2 hx2
  obtain ⟨f0, f1, f2, -, -, -⟩ := row_facts3 (HR.out.ext HY2.out)
  go_wp2_with fail
  refine (falls_at _ m us ad s k w2 (HV1.out.ext HY2.out) hM hs hk0 (by omega) (HTT.out.ext HY2.out) HF).mono ?_
  rintro e w3 ⟨rfl, hx3⟩
  have HY3 := hid (HY2.out.step hx3)
  clear f0 f1 f2 hx3
  obtain ⟨f0, f1, f2, -, -, -⟩ := row_facts3 (HR.out.ext HY3.out)
  go_wp2_with fail
  refine (run_ok _ m us ad s k w3 (HV1.out.ext HY3.out) hM hs (by omega) (HTT.out.ext HY3.out)).mono ?_
  rintro e w4 ⟨rfl, hx4⟩
  rw [HO.out, show strO none = ⟨#[]⟩ from rfl, show codeO none = 3 from rfl]
  have HY4 := hid (HY3.out.step hx4)
  clear f0 f1 f2 hx4
  go_wp2_with fail
  refine (awake2_any w4 (HTT.out.ext HY4.out)).mono ?_
  rintro e w5 ⟨rfl, hx5⟩
  have HZ := hid (HX.out.step (HY4.out.step hx5))
  go_wp2
  go_ret
  exact ⟨rfl, HZ.out⟩
theorem rvalid_x (l : List UInt8) (w : World) (hv : Hid (K.validL l = true)) :
    Calls Tryz.prog 24 #[.string (Str l)] w fun e w' => e = .returned (.bool true) ∧ Ext w w' :=
  (rvalid_at l w hv (len_of (valid_len hv.out))).mono fun e w' h => ⟨h.1, by rw [← h.2]; exact Ext.rfl' _⟩
theorem item_at {m x : Int} {us ad : List Int} {k : Nat} (hn : none ∉ seqO m us ad k x) (hx : K.fits x) (j : Nat) (hj : j < k + 1) :
    ∃ (t : List UInt8) (z : Int), strO (some z) = Str t ∧ K.validL t = true ∧ K.numL t = z ∧ z.natAbs ≤ BIG ∧ (some x :: seqO m us ad k x)[j]? = some (some z) := by
  have hl : (some x :: seqO m us ad k x).length = k + 1 := by rw [List.length_cons, seq_len _ _ _ _ _ hn]
  have hm : (some x :: seqO m us ad k x)[j]? = some ((some x :: seqO m us ad k x)[j]'(by omega)) := List.getElem?_eq_getElem (by omega)
  generalize (some x :: seqO m us ad k x)[j]'(by omega) = o at hm
  have hmem := List.mem_of_getElem? hm
  have hz : ∃ z, o = some z ∧ K.fits z := by
    rcases List.mem_cons.1 hmem with e | e
    · exact ⟨x, e, hx⟩
    · cases o with
      | none => exact absurd e hn
      | some z => exact ⟨z, rfl, fitsB_iff.1 (seq_fit _ _ _ _ _ _ e)⟩
  obtain ⟨z, rfl, hf⟩ := hz
  exact ⟨K.txt z, z, rfl, K.valid_txt _ hf, K.numL_txt z, fits_big hf, hm⟩
theorem cell_item {W : World} {b o j : Nat} {l : List (Option Int)} {z : Int} {t : List UInt8} (h : Rd W (some ⟨b, o, none⟩) (Txs l)) (hj : l[j]? = some (some z)) (ht : strO (some z) = Str t) : W.cell? ⟨b, o + j, none⟩ = some (.string (Str t)) := by
  rcases h with h | ⟨b2, o2, e, -, hc⟩
  · rw [List.map_eq_nil_iff] at h; subst h; simp at hj
  · cases e
    exact hc j _ (by rw [List.getElem?_map, hj, Option.map_some, ht])
theorem box2 {w : World} {t : TypeId} {b : Bool} {A : Option Addr} {k c : Nat} {n : Int} (hv : RefV w (.agg #[.bool b, .slice A k c]) n) :
    Ext w (w.alloc (.cells #[.bool b, .slice A k c] t)) ∧ RefV (w.alloc (.cells #[.bool b, .slice A k c] t)) (.agg #[.bool b, .slice A k c]) n ∧ Row (w.alloc (.cells #[.bool b, .slice A k c] t)) w.heap.size t [.bool b, .slice A k c] :=
  ⟨(Ext.rfl' w).alloc' _, hv.ext ((Ext.rfl' w).alloc' _), Row.new w _ _⟩
set_option maxRecDepth 100000 in
set_option maxHeartbeats 3200000 in
theorem first_none (v : Value) (m : Int) (us ad : List Int) (s : List UInt8) (k : Nat) (w : World) (hv : MapV w v m us ad) (ht : Tab w) (hM : Hid (mapP m us ad)) (hs : Hid (K.validL s = true)) (hk0 : 1 ≤ k) (hk : k ≤ 1000) (e4 : Int) (h43 : (e4 == 3) = false) (h44 : (e4 == 4) = true) (h40 : (e4 == 0) = false) (HF : Hid (fallL (K.numL s) 0 (seqO m us ad k (K.numL s)) = (0, ⟨#[]⟩, e4))) (HN : Hid (none ∉ seqO m us ad k (K.numL s))) (HALL : Hid (∀ y, some y ∈ seqO m us ad k (K.numL s) → ¬ y < K.numL s)) :
    Calls Tryz.prog 7 #[v, .string (Str s), .int .i64 (k : Int)] w (TruePost w) := by
  have hlen := len_of (valid_len hs.out)
  have hb : Hid (true = (mapB m us ad && K.validL s)) := hid (by rw [(mapB_iff m us ad).2 hM.out, hs.out]; rfl)
  have q0 : (1 : Int) ≤ (k : Int) := by omega
  have q1 : (k : Int) ≤ 1000 := by omega
  have hwk : IntKind.i64.wrap ((k : Int) + 1) = (k : Int) + 1 := IntWalk.i64_in _ (by omega)
  have HT := hid ht
  have HV := hid hv
  obtain ⟨A, n, cc, B, n2, d, rfl, -⟩ := hv
  have hx : Ext w (w.alloc (.cells #[.int .i64 m, .slice A n cc, .slice B n2 d] 24)) := (Ext.rfl' w).alloc' _
  have hr : Row (w.alloc (.cells #[.int .i64 m, .slice A n cc, .slice B n2 d] 24)) w.heap.size 24 [.int .i64 m, .slice A n cc, .slice B n2 d] := Row.new w _ _
  obtain ⟨W1, hW1⟩ : ∃ W1, (w.alloc (.cells #[.int .i64 m, .slice A n cc, .slice B n2 d] 24)) = W1 := ⟨_, rfl⟩
  rw [hW1] at hx hr
  have HX := hid hx
  have HR := hid hr
  have HW1 := hid hW1
  obtain ⟨f0, f1, f2, -, -, -⟩ := row_facts3 hr
  have HTT : Hid (Tab W1) := hid (ht.ext hx)
  have HV1 := hid (HV.out.ext hx)
  clear hW1 hx hr
  go_enter Tryz.func7, Tryz.ntmps7
  go_upto_region 1 with fail
  rw [HW1.out]
  go_wp2_with fail
  refine (formed_any _ m us ad s W1 HV1.out hlen (hid rfl) (hid rfl) hb).mono ?_
  rintro e w2 ⟨rfl, hx2⟩
  have HY2 : Hid (Ext W1 w2) := hid hx2
  clear f0 f1 f2 hx2
  obtain ⟨f0, f1, f2, -, -, -⟩ := row_facts3 (HR.out.ext HY2.out)
  go_wp2_with fail
  refine (falls_at _ m us ad s k w2 (HV1.out.ext HY2.out) hM hs hk0 (by omega) (HTT.out.ext HY2.out) HF).mono ?_
  rintro e w3 ⟨rfl, hx3⟩
  have HY3 := hid (HY2.out.step hx3)
  clear f0 f1 f2 hx3
  obtain ⟨f0, f1, f2, -, -, -⟩ := row_facts3 (HR.out.ext HY3.out)
  go_wp2_with fail
  refine (orbit_at _ m us ad s k w3 (HV1.out.ext HY3.out) hM hs (by omega) (HTT.out.ext HY3.out) HN).mono ?_
  rintro e w4 ⟨b, o, c, rfl, hc, HRD, hx4⟩
  have HY4 := hid (HY3.out.step hx4)
  clear f0 f1 f2 hx4
  go_wp2_with fail
  refine (parse_any s w4 hs.out).mono ?_
  rintro e w5 ⟨v5, rfl, hv5, hx5⟩
  have HRD5 := hid (HRD.out.ext hx5)
  have HY5 := hid (HY4.out.step hx5)
  have hv5' := hv5
  obtain ⟨A5, k5, c5, xs5, n5, rfl, -⟩ := hv5
  obtain ⟨e8, v8, r8⟩ := box2 (t := 34) hv5'
  obtain ⟨W8, hW8⟩ : ∃ W8, (w5.alloc (.cells #[.bool n5, .slice A5 k5 c5] 34)) = W8 := ⟨_, rfl⟩
  rw [hW8] at e8 v8 r8
  have HW8 := hid hW8
  have HV8 := hid v8
  have HR8 := hid r8
  have HRD8 := hid (HRD5.out.ext e8)
  have HY8 := hid (HY5.out.step e8)
  have HXB := hid (fits_big (K.txt_numL s hs.out).2)
  have HXF := hid (K.txt_numL s hs.out).2
  clear hx5 hv5' e8 v8 r8 hW8
  go_upto_region 15 with fail
  rw [HW8.out]
  go_wp2_with fail
  go_loopw [15] (fun iz wr => ∃ j : Nat, j ≤ k + 1 ∧ iz = .int .i64 (j : Int) ∧ Ext W8 wr) (fun iz _ => k + 1 - (intOf iz).toNat)
  case atStart => exact ⟨0, by omega, rfl, Ext.rfl' _⟩
  case round =>
    obtain ⟨j, hj, rfl, hex⟩ := hrel
    by_cases hlt : j < k + 1
    · obtain ⟨t, z, hst, hvt, hnt, hzb, hit⟩ := item_at HN.out HXF.out j hlt
      have HIT := hid hit
      have HVT := hid hvt
      have HNT := hid hnt
      have HZB := hid hzb
      have hcur : Ext W8 wr := hex
      have HS : Hid (∀ W', Ext W8 W' → W'.cell? ⟨b, o + j, none⟩ = some (.string (Str t)) ∧ W'.cell? ⟨w5.heap.size, 0, none⟩ = some (.bool n5) ∧ W'.cell? ⟨w5.heap.size, 1, none⟩ = some (.slice A5 k5 c5)) := hid (by
        intro W' e
        obtain ⟨p0, p1, -, -⟩ := row_facts (HR8.out.ext e)
        exact ⟨cell_item (HRD8.out.ext e) hit hst, p0, p1⟩)
      obtain ⟨g, hg⟩ : ∃ g, sgnI z (K.numL s) = g := ⟨_, rfl⟩
      have HG := hid hg
      clear hit hvt hnt hzb hst hg hex
      have hng : ¬ g < 0 := by
        rw [← HG.out]
        have hzx : ¬ z < K.numL s := by
          cases j with
          | zero => have := HIT.out; simp at this; omega
          | succ j => have := HALL.out z (List.mem_of_getElem? (by simpa using HIT.out)); omega
        have := sgnI_ge hzx; omega
      go_wp2_with fail
      first
        | (go_region_held_law (fun W' => W'.cell? ⟨b, o + j, none⟩ = some (.string (Str t)) ∧ W'.cell? ⟨w5.heap.size, 0, none⟩ = some (.bool n5) ∧ W'.cell? ⟨w5.heap.size, 1, none⟩ = some (.slice A5 k5 c5))
        (first | exact HS.out _ hcur | exact HS.out _ hcur.drew' | go_keep)
        (first
          | (go_at_call 24; refine (rvalid_x t _ HVT).mono ?_; rintro e w6 ⟨rfl, hx⟩; have hcur := Ext.step hcur (by first | exact hx | exact Ext.undrew hx))
          | (go_at_call 14; refine (parse_any t _ HVT.out).mono ?_; rintro e w6 ⟨v6, rfl, hv6, hx⟩; rw [HNT.out] at hv6; have hcur := Ext.step hcur (by first | exact hx | exact Ext.undrew hx); have HV6 := hid hv6; obtain ⟨A6, k6, c6, xs6, n6, rfl, -⟩ := hv6)
          | (go_at_call 29; refine (rcmp_any _ _ _ _ _ (HV6.out.ext ?_) (HV8.out.ext ?_) HZB.out HXB.out).mono ?_; (first | exact Ext.rfl' _ | exact (Ext.rfl' _).drew'); (first | exact hcur | exact hcur.drew'); rintro e w7 ⟨rfl, hx⟩; have hcur := Ext.step hcur (by first | exact hx | exact Ext.undrew hx); rw [HG.out])))
        | fail
      all_goals
        have HCUR := hid hcur
        clear hcur
        go_wp2
        go_roundw
        case rel => exact ⟨j + 1, by omega, by simp, by first | exact HCUR.out | exact HCUR.out.drew' | exact HCUR.out.drewN _⟩
        case measure => first | (simp [intOf]; done) | (simp [intOf]; omega)
    · obtain rfl : j = k + 1 := by omega
      have HEX := hid hex
      clear hex
      go_wp2_with fail
      refine (awake2_any wr (HTT.out.ext (HY8.out.step HEX.out))).mono ?_
      rintro e w9 ⟨rfl, hx9⟩
      have HZ := hid (HX.out.step ((HY8.out.step HEX.out).step hx9))
      go_wp2
      go_ret
      exact ⟨rfl, HZ.out⟩
set_option maxRecDepth 100000 in
set_option maxHeartbeats 3200000 in
theorem first_fall (v : Value) (m : Int) (us ad : List Int) (s : List UInt8) (k : Nat) (w : World) (hv : MapV w v m us ad) (ht : Tab w) (hM : Hid (mapP m us ad)) (hs : Hid (K.validL s = true)) (hk0 : 1 ≤ k) (hk : k ≤ 1000) (i : Nat) (y : Int) (ty : List UInt8) (HTY : Hid (strO (some y) = Str ty)) (hi0 : 1 ≤ i) (hi : i ≤ k) (HF : Hid (fallL (K.numL s) 0 (seqO m us ad k (K.numL s)) = ((i : Int), Str ty, 0))) (HN : Hid (none ∉ seqO m us ad i (K.numL s))) (HLAST : Hid ((some (K.numL s) :: seqO m us ad i (K.numL s))[i]? = some (some y))) (HLESS : Hid (y < K.numL s)) (HALL : Hid (∀ (a : Nat) z, a + 1 < i → (seqO m us ad i (K.numL s))[a]? = some (some z) → ¬ z < K.numL s)) :
    Calls Tryz.prog 7 #[v, .string (Str s), .int .i64 (k : Int)] w (TruePost w) := by
  have hlen := len_of (valid_len hs.out)
  have hb : Hid (true = (mapB m us ad && K.validL s)) := hid (by rw [(mapB_iff m us ad).2 hM.out, hs.out]; rfl)
  have q0 : (1 : Int) ≤ (k : Int) := by omega
  have q1 : (k : Int) ≤ 1000 := by omega
  have hwk : IntKind.i64.wrap ((i : Int) + 1) = (i : Int) + 1 := IntWalk.i64_in _ (by omega)
  have q2 : (1 : Int) ≤ (i : Int) := by omega
  have q3 : (i : Int) ≤ (k : Int) := by omega
  have HT := hid ht
  have HV := hid hv
  obtain ⟨A, n, cc, B, n2, d, rfl, -⟩ := hv
  have hx : Ext w (w.alloc (.cells #[.int .i64 m, .slice A n cc, .slice B n2 d] 24)) := (Ext.rfl' w).alloc' _
  have hr : Row (w.alloc (.cells #[.int .i64 m, .slice A n cc, .slice B n2 d] 24)) w.heap.size 24 [.int .i64 m, .slice A n cc, .slice B n2 d] := Row.new w _ _
  obtain ⟨W1, hW1⟩ : ∃ W1, (w.alloc (.cells #[.int .i64 m, .slice A n cc, .slice B n2 d] 24)) = W1 := ⟨_, rfl⟩
  rw [hW1] at hx hr
  have HX := hid hx
  have HR := hid hr
  have HW1 := hid hW1
  obtain ⟨f0, f1, f2, -, -, -⟩ := row_facts3 hr
  have HTT : Hid (Tab W1) := hid (ht.ext hx)
  have HV1 := hid (HV.out.ext hx)
  clear hW1 hx hr
  go_enter Tryz.func7, Tryz.ntmps7
  go_upto_region 1 with fail
  rw [HW1.out]
  go_wp2_with fail
  refine (formed_any _ m us ad s W1 HV1.out hlen (hid rfl) (hid rfl) hb).mono ?_
  rintro e w2 ⟨rfl, hx2⟩
  have HY2 : Hid (Ext W1 w2) := hid hx2
  clear f0 f1 f2 hx2
  obtain ⟨f0, f1, f2, -, -, -⟩ := row_facts3 (HR.out.ext HY2.out)
  go_wp2_with fail
  refine (falls_at _ m us ad s k w2 (HV1.out.ext HY2.out) hM hs hk0 (by omega) (HTT.out.ext HY2.out) HF).mono ?_
  rintro e w3 ⟨rfl, hx3⟩
  have HY3 := hid (HY2.out.step hx3)
  clear f0 f1 f2 hx3
  obtain ⟨f0, f1, f2, -, -, -⟩ := row_facts3 (HR.out.ext HY3.out)
  go_wp2_with fail
  refine (orbit_at _ m us ad s i w3 (HV1.out.ext HY3.out) hM hs (by omega) (HTT.out.ext HY3.out) HN).mono ?_
  rintro e w4 ⟨b, o, c, rfl, hc, HRD, hx4⟩
  have HY4 := hid (HY3.out.step hx4)
  clear f0 f1 f2 hx4
  go_wp2_with fail
  refine (parse_any s w4 hs.out).mono ?_
  rintro e w5 ⟨v5, rfl, hv5, hx5⟩
  have HRD5 := hid (HRD.out.ext hx5)
  have HY5 := hid (HY4.out.step hx5)
  have hv5' := hv5
  obtain ⟨A5, k5, c5, xs5, n5, rfl, -⟩ := hv5
  obtain ⟨e8, v8, r8⟩ := box2 (t := 34) hv5'
  obtain ⟨W8, hW8⟩ : ∃ W8, (w5.alloc (.cells #[.bool n5, .slice A5 k5 c5] 34)) = W8 := ⟨_, rfl⟩
  rw [hW8] at e8 v8 r8
  have HW8 := hid hW8
  have HV8 := hid v8
  have HR8 := hid r8
  have HRD8 := hid (HRD5.out.ext e8)
  have HY8 := hid (HY5.out.step e8)
  have HXB := hid (fits_big (K.txt_numL s hs.out).2)
  have HXF := hid (K.txt_numL s hs.out).2
  clear hx5 hv5' e8 v8 r8 hW8
  go_upto_region 15 with fail
  rw [HW8.out]
  go_wp2_with fail
  go_loopw [15] (fun iz wr => ∃ j : Nat, j ≤ i + 1 ∧ iz = .int .i64 (j : Int) ∧ Ext W8 wr) (fun iz _ => i + 1 - (intOf iz).toNat)
  case atStart => exact ⟨0, by omega, rfl, Ext.rfl' _⟩
  case round =>
    obtain ⟨j, hj, rfl, hex⟩ := hrel
    by_cases hlt : j < i + 1
    · obtain ⟨t, z, hst, hvt, hnt, hzb, hit⟩ := item_at HN.out HXF.out j hlt
      have HIT := hid hit
      have HVT := hid hvt
      have HNT := hid hnt
      have HZB := hid hzb
      have hcur : Ext W8 wr := hex
      have HS : Hid (∀ W', Ext W8 W' → W'.cell? ⟨b, o + j, none⟩ = some (.string (Str t)) ∧ W'.cell? ⟨w5.heap.size, 0, none⟩ = some (.bool n5) ∧ W'.cell? ⟨w5.heap.size, 1, none⟩ = some (.slice A5 k5 c5)) := hid (by
        intro W' e
        obtain ⟨p0, p1, -, -⟩ := row_facts (HR8.out.ext e)
        exact ⟨cell_item (HRD8.out.ext e) hit hst, p0, p1⟩)
      obtain ⟨g, hg⟩ : ∃ g, sgnI z (K.numL s) = g := ⟨_, rfl⟩
      have HG := hid hg
      clear hit hvt hnt hzb hst hg hex
      by_cases hje : j < i
      · have hng : ¬ g < 0 := by
          rw [← HG.out]
          have hzx : ¬ z < K.numL s := by
            cases j with
            | zero => have := HIT.out; simp at this; omega
            | succ j => have := HALL.out j z (by omega) (by simpa using HIT.out); omega
          have := sgnI_ge hzx; omega
        have hjk : ((j : Int) == (i : Int)) = false := by rw [beq_eq_false_iff_ne]; omega
        go_wp2_with fail
        first
          | (go_region_held3 (fun W' => W'.cell? ⟨b, o + j, none⟩ = some (.string (Str t)) ∧ W'.cell? ⟨w5.heap.size, 0, none⟩ = some (.bool n5) ∧ W'.cell? ⟨w5.heap.size, 1, none⟩ = some (.slice A5 k5 c5))
          (first | exact HS.out _ hcur | exact HS.out _ hcur.drew' | go_keep)
          (first
            | (go_at_call 24; refine (rvalid_x t _ HVT).mono ?_; rintro e w6 ⟨rfl, hx⟩; have hcur := Ext.step hcur (by first | exact hx | exact Ext.undrew hx))
            | (go_at_call 14; refine (parse_any t _ HVT.out).mono ?_; rintro e w6 ⟨v6, rfl, hv6, hx⟩; rw [HNT.out] at hv6; have hcur := Ext.step hcur (by first | exact hx | exact Ext.undrew hx); have HV6 := hid hv6; obtain ⟨A6, k6, c6, xs6, n6, rfl, -⟩ := hv6)
            | (go_at_call 29; refine (rcmp_any _ _ _ _ _ (HV6.out.ext ?_) (HV8.out.ext ?_) HZB.out HXB.out).mono ?_; (first | exact Ext.rfl' _ | exact (Ext.rfl' _).drew'); (first | exact hcur | exact hcur.drew'); rintro e w7 ⟨rfl, hx⟩; have hcur := Ext.step hcur (by first | exact hx | exact Ext.undrew hx); rw [HG.out])))
          | fail
        all_goals
          have HCUR := hid hcur
          clear hcur
          go_wp2
          go_roundw
          case rel => exact ⟨j + 1, by omega, by simp, by first | exact HCUR.out | exact HCUR.out.drew' | exact HCUR.out.drewN _⟩
          case measure => first | (simp [intOf]; done) | (simp [intOf]; omega)
      · obtain rfl : j = i := by omega
        have hng : g < 0 := by
          rw [← HG.out]
          have hzx : z < K.numL s := by
            have h1 := HIT.out
            rw [HLAST.out] at h1
            cases h1
            exact HLESS.out
          rw [sgnI_lt hzx]; omega
        go_wp2_with fail
        first
          | (go_region_held3 (fun W' => W'.cell? ⟨b, o + j, none⟩ = some (.string (Str t)) ∧ W'.cell? ⟨w5.heap.size, 0, none⟩ = some (.bool n5) ∧ W'.cell? ⟨w5.heap.size, 1, none⟩ = some (.slice A5 k5 c5))
          (first | exact HS.out _ hcur | exact HS.out _ hcur.drew' | go_keep)
          (first
            | (go_at_call 24; refine (rvalid_x t _ HVT).mono ?_; rintro e w6 ⟨rfl, hx⟩; have hcur := Ext.step hcur (by first | exact hx | exact Ext.undrew hx))
            | (go_at_call 14; refine (parse_any t _ HVT.out).mono ?_; rintro e w6 ⟨v6, rfl, hv6, hx⟩; rw [HNT.out] at hv6; have hcur := Ext.step hcur (by first | exact hx | exact Ext.undrew hx); have HV6 := hid hv6; obtain ⟨A6, k6, c6, xs6, n6, rfl, -⟩ := hv6)
            | (go_at_call 29; refine (rcmp_any _ _ _ _ _ (HV6.out.ext ?_) (HV8.out.ext ?_) HZB.out HXB.out).mono ?_; (first | exact Ext.rfl' _ | exact (Ext.rfl' _).drew'); (first | exact hcur | exact hcur.drew'); rintro e w7 ⟨rfl, hx⟩; have hcur := Ext.step hcur (by first | exact hx | exact Ext.undrew hx); rw [HG.out])))
          | fail
        all_goals
          have HCUR := hid hcur
          clear hcur
          go_wp2
          go_roundw
          case rel => exact ⟨j + 1, by omega, by simp, by first | exact HCUR.out | exact HCUR.out.drew' | exact HCUR.out.drewN _⟩
          case measure => first | (simp [intOf]; done) | (simp [intOf]; omega)
    · obtain rfl : j = i + 1 := by omega
      have HEX := hid hex
      have hcl : wr.cell? ⟨b, o + i, none⟩ = some (.string (Str ty)) := cell_item (HRD8.out.ext hex) HLAST.out HTY.out
      have hss : ((Str ty).toList == (Str ty).toList) = true := by simp
      clear hex
      go_wp2_with fail
      refine (awake2_any wr (HTT.out.ext (HY8.out.step HEX.out))).mono ?_
      rintro e w9 ⟨rfl, hx9⟩
      have HZ := hid (HX.out.step ((HY8.out.step HEX.out).step hx9))
      go_wp2
      go_ret
      exact ⟨rfl, HZ.out⟩
theorem law_StepFirst (v : Value) (m : Int) (us ad : List Int) (s : List UInt8) (k : Int) (w : World) (hv : MapV w v m us ad) (hlen : s.length ≤ 140737488351232) (ht : Tab w) :
    Calls Tryz.prog 7 #[v, .string (Str s), .int .i64 k] w (TruePost w) := by
  cases hf : (mapB m us ad && K.validL s) with
  | false => exact first_form v m us ad s k w hv ht hlen (hid hf.symm)
  | true =>
    rcases Int.lt_or_le k 1 with h1 | h1
    · exact first_low v m us ad s k w hv ht hlen (hid hf.symm) h1
    · rcases Int.lt_or_le 1000 k with h3 | h3
      · exact first_high v m us ad s k w hv ht hlen (hid hf.symm) h1 h3
      · obtain ⟨n, rfl⟩ : ∃ n : Nat, k = n := ⟨k.toNat, by omega⟩
        have h2 := hf
        rw [Bool.and_eq_true] at h2
        have hM := hid ((mapB_iff m us ad).1 h2.1)
        have hs := hid h2.2
        rcases fall_cases (K.numL s) (seqO m us ad n (K.numL s)) 0 with ⟨g1, g2⟩ | ⟨g1, g2, g3⟩ | ⟨j, y, g1, g2, g3, g4, g5⟩
        · exact first_size v m us ad s n w hv ht hM hs (by omega) (by omega) (hid g2) (hid ((seq_run m us ad n _).2 g1))
        · exact first_none v m us ad s n w hv ht hM hs (by omega) (by omega) 4 rfl rfl rfl (hid g3) (hid g1) (hid g2)
        · have hj : j < (seqO m us ad n (K.numL s)).length := by
            rcases Nat.lt_or_ge j (seqO m us ad n (K.numL s)).length with h | h
            · exact h
            · rw [List.getElem?_eq_none h] at g1; cases g1
          have hjn := seq_short m us ad n (K.numL s)
          have ht2 := seq_take m us ad n j (K.numL s) hj g3
          refine first_fall v m us ad s n w hv ht hM hs (by omega) (by omega) (j + 1) y (K.txt y) (hid rfl) (by omega) (by omega) (hid ?_) (hid ?_) (hid ?_) (hid g2) (hid ?_)
          · rw [g5, Nat.zero_add]
          · rw [ht2]; exact g3
          · rw [ht2, List.getElem?_cons_succ, List.getElem?_take_of_lt (by omega)]; exact g1
          · intro a z ha hz
            rw [ht2, List.getElem?_take_of_lt (by omega)] at hz
            exact g4 a z (by omega) hz
end Go.Proofs.YtoilkfohhhidpaaGreatDoor
