/- (natural).divideShort, (natural).scaled -/
import Derived.Test.YtdbaemadphhhcaaDoorMinus
namespace Go.Proofs.YtdbaemadphhhcaaDoor
open Go.RowKit
theorem U64s_mid0 {done rest : List Nat} {x k : Nat} (hk : done.length = k) : (U64s (done ++ x :: rest))[k]? = some (.int .u64 (x : Int)) := by
  have h := U64s_mid (sp := []) (rest := rest) (x := x) hk
  simpa using h
theorem Row.step0 {w : World} {g : Nat} {t : TypeId} {done rest : List Nat} {x k : Nat} (h : Row w g t (U64s (done ++ x :: rest))) (hk : done.length = k) (v : Nat) :
    Row (w.setCell ⟨g, k, none⟩ (.int .u64 (v : Int))) g t (U64s ((done ++ [v]) ++ rest)) := by
  have h1 := Row.step1 (sp := []) (by rw [List.append_nil]; exact h) hk v
  rwa [List.append_nil] at h1
def DivSPost (q r : Nat) (w : World) (e : Ending) (w' : World) : Prop := ∃ v, e = .returned (.tuple #[v, .int .u64 (r : Int)]) ∧ NatV w' v q ∧ Ext w w'
set_option maxHeartbeats 1600000 in
theorem divS_l (A : Option Addr) (ca n d : Nat) (xs : List Nat) (w : World) (ha : Rd w A (U64s xs)) (ln : xs.length = n) (hn : n ≤ 1001) (bx : ∀ x ∈ xs, x < 1000000000) (hd : 0 < d) (hd2 : d ≤ 2147483648) :
    Calls Tryd.prog 74 #[.slice A n ca, .int .u64 (d : Int)] w (DivSPost (K.lv xs / d) (K.lv xs % d) w) := by
  have LN := hid ln
  have BX := hid bx
  have hmk := fun w => mkNat n (n : Int) (by omega) (by omega) w
  clear bx ln
  go_enter Tryd.func74, Tryd.ntmps74
  go_wp2
  go_loopw [7, 8] (fun r i wr => ∃ (q : Int) (rest : Nat), -1 ≤ q ∧ q < n ∧ i = .int .i64 q ∧ r = .int .u64 rest ∧ rest < d ∧ rest = (divS d (xs.drop (q + 1).toNat)).2 ∧
      Row wr w.heap.size 76 (U64s (List.replicate (q + 1).toNat 0 ++ (divS d (xs.drop (q + 1).toNat)).1)) ∧ Ext w wr) (fun _ i _ => (intOf i + 1).toNat)
  case atStart =>
    have e : xs.drop ((n : Int) - 1 + 1).toNat = [] := List.drop_of_length_le (by rw [LN.out]; omega)
    refine ⟨(n : Int) - 1, 0, by omega, by omega, rfl, rfl, hd, by rw [e]; rfl, ?_, (Ext.rfl' w).alloc' _⟩
    rw [e, show ((n : Int) - 1 + 1).toNat = n by omega]
    have h := Row.made w 76 (.int .u64 0) n
    rw [U64s_zeros] at h
    rw [show (divS d []).1 = [] from rfl, List.append_nil]
    exact h
  case round =>
    obtain ⟨q, rest, hq1, hq2, rfl, rfl, hrd, hre, hrow, hext⟩ := hrel
    have HR := hid hre
    clear hre hmk
    by_cases hq : 0 ≤ q
    · obtain ⟨j, rfl⟩ := Int.eq_ofNat_of_zero_le hq
      obtain ⟨b1, o1, x, eA, ex, hb1, hx⟩ := (ha.ext hext).at_ (k := j) (by rw [LN.out]; omega)
      subst eA
      have hxB := BX.out x (mem_at ex)
      have HX := hid ex
      have ej : ((j : Int) + 1).toNat = j + 1 := by omega
      rw [ej, List.replicate_succ', List.append_assoc, List.singleton_append] at hrow
      have hcell : wr.cell? ⟨w.heap.size, j, none⟩ = some (.int .u64 0) := by
        rw [hrow.cell]
        exact U64s_mid0 (by simp)
      have hfree := hrow.free j
      have EJ := hid ej
      have hd0 : ¬ (d : Int) = 0 := by omega
      clear ex ha ej
      go_wp2
      go_roundw
      case rel =>
        have e0 : ((j : Int) - 1 + 1).toNat = j := by omega
        have e2 : rest = (divS d (xs.drop (j + 1))).2 := by have := HR.out; rwa [EJ.out] at this
        have e1 : divS d (xs.drop j) = (((rest * 1000000000 + x) / d) :: (divS d (xs.drop (j + 1))).1, (rest * 1000000000 + x) % d) := by
          rw [drop_at HX.out, divS, ← e2]
        refine ⟨(j : Int) - 1, (rest * 1000000000 + x) % d, by omega, by omega, rfl, by simp, Nat.mod_lt _ hd, by rw [e0, e1], ?_, hext.set' (Nat.le_refl _) _⟩
        rw [e0, e1]
        have h1 := Row.step0 (k := j) hrow (by simp) ((rest * 1000000000 + x) / d)
        simpa using h1
      case measure => simp [intOf]
    · have eq : (q + 1).toNat = 0 := by omega
      rw [eq] at hrow
      have e2 : rest = (divS d xs).2 := by have := HR.out; rwa [eq] at this
      simp only [List.replicate_zero, List.nil_append, List.drop_zero] at hrow
      have hval : K.lv (divS d xs).1 = K.lv xs / d ∧ (divS d xs).2 = K.lv xs % d := by
        have h1 := lv_divS d hd xs
        have h2 := divS_lt d hd xs
        have h3 := (Nat.div_mod_unique hd (a := K.lv xs) (c := (divS d xs).2) (d := K.lv (divS d xs).1)).2 ⟨by omega, h2⟩
        exact ⟨h3.1.symm, h3.2.symm⟩
      have hlims := divS_limbs d hd xs BX.out
      have hlen : (divS d xs).1.length = n := by rw [divS_len, LN.out]
      rw [hval.2] at e2
      have HE := hid e2
      have HV := hid hval.1
      generalize (divS d xs).1 = s at *
      have HL := hid hlen
      clear hlen hval ha e2
      go_wp2_with fail
      refine (trimmed _ n n s _ hrow.rd0 HL.out (by omega) (by omega)).mono ?_
      intro e w' hp
      have hq : SumPost (K.lv xs / d) w e w' := SumPost.of_trim hrow hext hlims HV.out e w' (by rw [HL.out]; exact hp)
      obtain ⟨v, rfl, hq⟩ := hq
      go_wp2
      go_ret2
      exact ⟨v, by rw [← HE.out]; rfl, hq⟩
theorem divS_any (va : Value) (a d : Nat) (w : World) (ha : NatV w va a) (la : a ≤ BIG) (hd : 0 < d) (hd2 : d ≤ 2147483648) :
    Calls Tryd.prog 74 #[va, .int .u64 (d : Int)] w (DivSPost (a / d) (a % d) w) := by
  obtain ⟨A, n, ca, xs, rfl, h2, _, h4, h5, rfl⟩ := ha
  have hn := len_of_big h5 la
  exact divS_l A ca n d xs w h4 h2 (by omega) h5.1 hd hd2

/-- scaled: a row of the call's own, known whole -/
def ScalePost (s : List Nat) (w : World) (e : Ending) (w' : World) : Prop := ∃ g, e = .returned (.slice (some ⟨g, 0, none⟩) s.length s.length) ∧ w.heap.size ≤ g ∧ Row w' g 76 (U64s s) ∧ Ext w w'
set_option maxHeartbeats 1600000 in
theorem scaled_l (A : Option Addr) (ca n l m : Nat) (xs : List Nat) (w : World) (ha : Rd w A (U64s xs)) (ln : xs.length = n) (hn : n ≤ 1001) (hm : m ≤ 1001) (bx : ∀ x ∈ xs, x < 1000000000) (hl : l < 1000000000) :
    Calls Tryd.prog 87 #[.slice A n ca, .int .u64 (l : Int), .int .i64 (m : Int)] w (ScalePost (scl xs l m 0) w) := by
  have LN := hid ln
  have BX := hid bx
  have hmk := fun w => mkNat m (m : Int) (by omega) (by omega) w
  clear bx ln
  go_enter Tryd.func87, Tryd.ntmps87
  go_wp2
  go_loopw [8, 9, 14] (fun c _ i wr => ∃ (k cy : Nat) (done : List Nat), k ≤ m ∧ cy < 1000000000 ∧ i = .int .i64 k ∧ c = .int .u64 cy ∧ Row wr w.heap.size 76 (U64s (done ++ List.replicate (m - k) 0)) ∧ done.length = k ∧
      done ++ scl (xs.drop k) l (m - k) cy = scl xs l m 0 ∧ Ext w wr) (fun _ _ i _ => m - (intOf i).toNat)
  case atStart => exact ⟨0, 0, [], by omega, by omega, rfl, rfl, by rw [List.nil_append, ← U64s_zeros]; exact Row.made w _ _ _, rfl, rfl, (Ext.rfl' w).alloc' _⟩
  case round =>
    obtain ⟨k, cy, done, hk, hcy, rfl, rfl, hrow, hd, hinv, hext⟩ := hrel
    have HD := hid hd
    have HI := hid hinv
    clear hd hinv hmk
    by_cases hlt : k < m
    · have hz : m - k = (m - (k + 1)) + 1 := by omega
      have HZ := hid hz
      rw [hz, zeros_succ] at hrow
      have hcell : wr.cell? ⟨w.heap.size, k, none⟩ = some (.int .u64 0) := by
        rw [hrow.cell]
        exact U64s_mid0 HD.out
      have hfree := hrow.free k
      clear hz
      by_cases hkn : k < n
      · obtain ⟨b1, o1, x, eA, ex, hb1, hx⟩ := (ha.ext hext).at_ (k := k) (by rw [LN.out]; omega)
        subst eA
        have hxB := BX.out x (mem_at ex)
        have HX := hid ex
        have hxy := prod_lt hxB hl
        have hxy' : (x : Int) * (l : Int) ≤ 999999998000000001 := by rw [← Int.natCast_mul]; omega
        have hxy0 : 0 ≤ (x : Int) * (l : Int) := by rw [← Int.natCast_mul]; omega
        clear ex ha hxy
        go_wp2
        go_roundw
        case rel =>
          refine ⟨k + 1, (cy + x * l) / 1000000000, done ++ [(cy + x * l) % 1000000000], by omega, ?_, rfl, by simp, ?_, by simp [HD.out], ?_, hext.set' (Nat.le_refl _) _⟩
          · have := prod_lt hxB hl
            omega
          · have h1 := Row.step0 hrow HD.out ((cy + x * l) % 1000000000)
            simpa using h1
          · rw [← HI.out, HZ.out, drop_at HX.out, scl]
            simp
        case measure => simp [intOf]; omega
      · have hx0 : xs.drop k = [] := List.drop_of_length_le (by rw [LN.out]; omega)
        have hx1 : xs.drop (k + 1) = [] := List.drop_of_length_le (by rw [LN.out]; omega)
        have HX := hid hx0
        have HX1 := hid hx1
        clear ha hx0 hx1
        go_wp2
        go_roundw
        case rel =>
          refine ⟨k + 1, cy / 1000000000, done ++ [cy % 1000000000], by omega, by omega, rfl, rfl, ?_, by simp [HD.out], ?_, hext.set' (Nat.le_refl _) _⟩
          · have h1 := Row.step0 hrow HD.out (cy % 1000000000)
            simpa using h1
          · rw [← HI.out, HZ.out, HX.out, HX1.out, scl]
            simp
        case measure => simp [intOf]; omega
    · obtain rfl : k = m := by omega
      have hres : Row wr w.heap.size 76 (U64s (scl xs l k 0)) := by
        have h := HI.out
        rw [Nat.sub_self] at h hrow
        rw [← h]
        simpa [scl] using hrow
      have HL := hid (scl_len k xs l 0)
      generalize scl xs l k 0 = s at *
      go_wp2
      go_ret
      exact ⟨w.heap.size, by rw [HL.out]; rfl, Nat.le_refl _, hres, hext⟩
end Go.Proofs.YtdbaemadphhhcaaDoor
