/- Joined texts: a slice of ints appended to an own row; WordParts: numbers, and the linear map of a word behind another; the law WordLinear. -/
import Derived.Test.YtlfbgemceeibiaaGreatDoorJG13
import Derived.Test.YtlfbgemceeibiaaGreatDoorJG18
set_option linter.unusedSimpArgs false
set_option linter.unusedVariables false
/- a slice of ints appended to an own row -/
namespace Go.Proofs.YtlfbgemceeibiaaGreatDoor
open Go.RowKit
section
variable {P : Program}
theorem run_append_slice (w : World) (base : Nat) (t ty e : TypeId) (i : TypeInfo) (ht : P.underlying t = some (.slice e)) (hi : P.info? e = some i) (hz : i.zero = some (.int .i64 0))
    (hsize : i.size = 1) (hby : i.bytes = 8) (V : Option Addr) (n cap : Nat) (xs : List Value) (hown : w.ownsRow base e 1 (.slice V n cap) n xs)
    (B : Option Addr) (k c : Nat) (vs : List Int) (hl : vs.length = k) (hr : Rd w B (Is vs)) (hb : (n + k) * 8 ≤ 140737488355328) (hbase : base ≤ w.heap.size) :
    ∃ V' cap' w', (Builtin.append_ #[t, t] ty #[.slice V n cap, .slice B k c]).run P w = .ok (.slice V' (n + k) cap') w' ∧ w'.ownsRow base e 1 (.slice V' (n + k) cap') (n + k) (xs ++ Is vs) ∧ w.grownBy w' (Value.ownBlock (.slice V n cap)) := by
  rcases Nat.eq_zero_or_pos k with h0 | h0
  · subst h0
    have hvs : vs = [] := List.eq_nil_of_length_eq_zero hl
    subst hvs
    have hsrc : Src P i.size t (.slice B 0 c) 0 [] w := by
      cases B with
      | none => exact Src.ofNil w ht c
      | some ad => exact Src.ofSlice w ht ad 0 c [] (by simp) (by simp) (by simp)
    have hcap : n ≤ cap := by
      rcases hown.2 with ⟨h, h0⟩ | ⟨g, cap0, cur, h, _, _, hc, _⟩
      · injection h with h1 h2 h3; omega
      · injection h with h1 h2 h3; omega
    have hrun := run_append_nothing (P := P) w t t ty e i ht hi V n cap hcap (.slice B 0 c) hsrc
    exact ⟨V, cap, w, hrun, by simpa using hown, ⟨rfl, rfl, rfl, Nat.le_refl _, fun _ _ _ => rfl⟩⟩
  · rcases hr with hn | ⟨g, off, rfl, hlt, hc⟩
    · rw [List.map_eq_nil_iff] at hn; subst hn; simp at hl; omega
    · obtain ⟨v', w', hrun, h2, h3, -⟩ := run_append_own (P := P) w base t ty e i _ 1 8 ht hi hz hsize hby (by rfl) (by omega) _ n xs hown ⟨g, off, none⟩ k c (Is vs) (by simp [hl]) (fun j u hu => by
        have : (⟨g, off, none⟩ : Addr).add j = ⟨g, off + j, none⟩ := by unfold Addr.add; split <;> simp_all
        rw [this]; exact hc j u hu) (fun u hu => by obtain ⟨y, _, rfl⟩ := List.mem_map.1 hu; rfl) (by unfold maxLen; omega) hb hbase
      obtain ⟨g', cap', sp, rfl, -⟩ := own_form h2 (by omega)
      exact ⟨_, _, w', hrun, h2, h3⟩
theorem wpList_append_slice {w : World} {ops : Array Oper} {rest : List Oper} {o : Oper} {a : Act} {Q : Exit → Act → World → Prop} (hgd : o.guard = none) (s x : Operand) (t : TypeId)
    (ho : o.op = .call { callee := .builtin .append, args := #[s, x], argTypes := #[t, t] })
    (base : Nat) (e : TypeId) (i : TypeInfo) (ht : P.underlying t = some (.slice e)) (hi : P.info? e = some i) (hz : i.zero = some (.int .i64 0))
    (hsize : i.size = 1) (hby : i.bytes = 8) (V : Option Addr) (n cap : Nat) (xs : List Value) (hs : a.eval s = .slice V n cap) (hown : w.ownsRow base e 1 (.slice V n cap) n xs)
    (B : Option Addr) (k c : Nat) (vs : List Int) (hx : a.eval x = .slice B k c) (hl : vs.length = k) (hr : Rd w B (Is vs)) (hb : (n + k) * 8 ≤ 140737488355328) (hbase : base ≤ w.heap.size)
    (h : ∀ V' cap' w', w'.ownsRow base e 1 (.slice V' (n + k) cap') (n + k) (xs ++ Is vs) → w.grownBy w' (Value.ownBlock (.slice V n cap)) → wpList P ops Q rest (a.put o.dst (.slice V' (n + k) cap')) w') : wpList P ops Q (o :: rest) a w :=
  wpList_plain hgd fun _ hK => by
    obtain ⟨V', cap', w', hr, h2, h3⟩ := run_append_slice (P := P) w base t o.type e i ht hi hz hsize hby V n cap xs hown B k c vs hl hr hb hbase
    unfold Oper.wp execOp
    simp only [ho, resolve, invoke, builtin, Sem.run_bind, Sem.run_pure, Result.andThen_ok, List.map_toArray, List.map_cons, List.map_nil, hs, hx, hr]
    exact hK _ _ (h V' cap' w' h2 h3)
end
theorem own_new (w : World) (e : TypeId) : (w.alloc (.cells #[] e)).ownsRow w.heap.size e 1 (.slice (some ⟨w.heap.size, 0, none⟩) 0 0) 0 [] :=
  World.ownsRow_made w #[] 0 (Nat.le_refl _) (Nat.zero_le _) rfl
end Go.Proofs.YtlfbgemceeibiaaGreatDoor
/- WordParts: numbers, and the linear map of a word behind another -/
namespace Go.Proofs.YtlfbgemceeibiaaGreatDoor
open Go.RowKit
theorem line_append (m : Int) (us ad : List Int) (u : List Int) : ∀ (k : Nat) (v : List Int), v.length = k →
    lineI m us ad (u ++ v) = ((lineI m us ad v).1 * (lineI m us ad u).1, (lineI m us ad v).1 * (lineI m us ad u).2.1 + (lineI m us ad v).2.1 * (lineI m us ad u).2.2, (lineI m us ad u).2.2 * (lineI m us ad v).2.2)
  | 0, v, h => by
    rw [List.eq_nil_of_length_eq_zero h, List.append_nil, show lineI m us ad [] = (1, 0, 1) from rfl]
    simp
  | k + 1, v, h => by
    rcases List.eq_nil_or_concat v with rfl | ⟨p, r, rfl⟩
    · simp at h
    · rw [List.concat_eq_append] at *
      have ih := line_append m us ad u k p (by simpa using h)
      rw [← List.append_assoc, lineI_snoc, lineI_snoc, ih]
      unfold thenL
      generalize lineI m us ad u = x
      generalize lineI m us ad p = y
      generalize us.getD r.toNat 0 = s
      generalize ad.getD r.toNat 0 = t
      obtain ⟨M, A, D⟩ := x
      obtain ⟨P, Q, R⟩ := y
      simp only
      refine Prod.ext ?_ (Prod.ext ?_ ?_)
      · show s * (P * M) = s * P * M
        rw [Int.mul_assoc]
      · show s * (P * A + Q * D) + t * (D * R) = s * P * A + (s * Q + t * R) * D
        rw [Int.mul_add, Int.add_mul, Int.mul_assoc s P A, Int.mul_assoc s Q D, Int.mul_assoc t R D, Int.mul_comm D R, Int.add_assoc]
      · show D * R * m = D * (R * m)
        rw [Int.mul_assoc]
set_option maxRecDepth 100000 in
set_option maxHeartbeats 800000 in
theorem numbers_ok (a b c : List UInt8) (w : World) (ha : Hid (K.validL a = true)) (hb : Hid (K.validL b = true)) (hc : Hid (K.validL c = true)) :
    Calls Tryz.prog 37 #[.agg #[.string (Str a), .string (Str b), .string (Str c)]] w (fun e w' => e = .returned (.bool true) ∧ Ext w w') := by
  have za := len_of (valid_len ha.out)
  have zb := len_of (valid_len hb.out)
  have zc := len_of (valid_len hc.out)
  have hx : Ext w (w.alloc (.cells #[.string (Str a), .string (Str b), .string (Str c)] 41)) := (Ext.rfl' w).alloc' _
  have hr1 : Row (w.alloc (.cells #[.string (Str a), .string (Str b), .string (Str c)] 41)) w.heap.size 41 [.string (Str a), .string (Str b), .string (Str c)] := Row.new w _ _
  obtain ⟨W1, hW1⟩ : ∃ W1, (w.alloc (.cells #[.string (Str a), .string (Str b), .string (Str c)] 41)) = W1 := ⟨_, rfl⟩
  rw [hW1] at hx hr1
  have HX := hid hx
  have HW1 := hid hW1
  obtain ⟨f0, f1, f2, -, -, -⟩ := row_facts3 hr1
  clear hW1 hx hr1
  go_enter Tryz.func37, Tryz.ntmps37
  go_upto_region 1 with fail
  rw [HW1.out]
  go_wp2_with fail
  refine (rvalid_at a W1 ha za).mono ?_
  rintro e wz ⟨rfl, rfl⟩
  go_wp2_with fail
  refine (rvalid_at b W1 hb zb).mono ?_
  rintro e wz ⟨rfl, rfl⟩
  go_wp2_with fail
  refine (rvalid_at c W1 hc zc).mono ?_
  rintro e wz ⟨rfl, rfl⟩
  go_wp2
  go_ret
  exact ⟨rfl, HX.out⟩
end Go.Proofs.YtlfbgemceeibiaaGreatDoor
/- the law WordLinear -/
namespace Go.Proofs.YtlfbgemceeibiaaGreatDoor
open Go.RowKit
theorem powers_div {m : Int} {us ad ws : List Int} (hm : 0 < m) : 0 < (lineI m us ad ws).2.2 := by
  rw [lineI_div]; exact Int.pow_pos hm
theorem lin_fits {m : Int} {us ad ws : List Int} (hM : mapP m us ad) (hW : wordB m ws = true) : K.fits (lineI m us ad ws).1 ∧ K.fits (lineI m us ad ws).2.1 ∧ K.fits (lineI m us ad ws).2.2 := by
  have hw := wordB_iff.1 hW
  have hB := lineI_B hM ws hw.2
  have hm := hM.1
  have hf := hB.fits hM hw.1 (r := 0) (by omega) (by omega)
  exact ⟨hf.1, hf.2.1, hf.2.2.1⟩
end Go.Proofs.YtlfbgemceeibiaaGreatDoor
