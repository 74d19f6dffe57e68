/- Joined texts: the numbers of the reference's first of layer 4; a drawn region whose last operations follow the others: its head by held loads, its tail in order; the law WordReads; the law WordTerras; the reference's fall of layer 4; the reference's first of layer 4; the reference's Rests of layer 4; the reference's Find of layer 4. -/
import Derived.Test.YtbmmilhinbfahaaDoorJG08
import Derived.StillTailTactics
import Derived.Deep.RegionHeld3
import Derived.Test.YtbmmilhinbfahaaDoorJG09
import Derived.Test.YtbmmilhinbfahaaDoorJG05
import Derived.Test.YtbmmilhinbfahaaDoorJG06
import Derived.Test.YtbmmilhinbfahaaDoorJG03
import Derived.Test.YtbmmilhinbfahaaDoorJG07
import Derived.Test.YtbmmilhinbfahaaDoorJG10
set_option linter.unusedSimpArgs false
set_option linter.unusedVariables false
/- the numbers of the reference's first of layer 4 -/
namespace Go.Proofs.YtbmmilhinbfahaaDoor
open Go.RowKit
theorem orb_aux {P Q x y : Nat} (hp : 1 ≤ P) (h : y ≤ 999 * x + 999999) (ih : x ≤ Q) : y ≤ Q * 1000 + 1000000 * P * 1000 := by omega
theorem orb_bd {m : Int} {us ad : List Int} (hM : mapP m us ad) {X : Int} (hX : X.natAbs ≤ 65536) : ∀ s : Nat, (orbN m us ad s X).natAbs ≤ (65536 + s * 1000000) * 1000 ^ s
  | 0 => by show X.natAbs ≤ _; omega
  | s + 1 => by
    have ih := orb_bd hM hX s
    have h := stepI_le (us := us) (ad := ad) (x := orbN m us ad s X) hM
    show (stepI m us ad (orbN m us ad s X)).natAbs ≤ _
    have hp : 1 ≤ 1000 ^ s := Nat.pow_pos (by omega)
    rw [Nat.pow_succ]
    generalize 1000 ^ s = P at *
    have e : (65536 + (s + 1) * 1000000) * (P * 1000) = ((65536 + s * 1000000) * P) * 1000 + 1000000 * P * 1000 := by
      rw [show 65536 + (s + 1) * 1000000 = (65536 + s * 1000000) + 1000000 by omega, Nat.add_mul, ← Nat.mul_assoc, ← Nat.mul_assoc]
    rw [e]
    exact orb_aux hp h ih
theorem orb_fit {m : Int} {us ad : List Int} (hM : mapP m us ad) {X : Int} (hX : X.natAbs ≤ 65536) {s : Nat} (hs : s ≤ 200) : K.fits (orbN m us ad s X) := by
  have h := orb_bd hM hX s
  rw [thousand_pw] at h
  exact fits_pw (a := 65536 + s * 1000000) (b := 3 * s) h (by rw [pw12]; omega) (by omega)
theorem lnX_B {m : Int} {us ad : List Int} (hM : mapP m us ad) (X : Int) (s : Nat) : LineB s (lnX m us ad X s) := by
  have hm := hM.1
  have h := lineI_B hM (wordI m us ad s X) (fun r hr => by
    obtain ⟨i, -, rfl⟩ := List.mem_map.1 hr
    exact rest_ok2 (by omega) _)
  rwa [word_len] at h
/-- what first tells -/
def FirstC (m : Int) (us ad : List Int) (X : Int) (k at_ s : Nat) : Prop := (1 ≤ s ∧ s ≤ k ∧ at_ = s ∧ FallsAt m us ad X s ∧ ∀ j, 1 ≤ j → j < s → ¬ FallsAt m us ad X j) ∨ (at_ = 0 ∧ s = k ∧ ∀ j, 1 ≤ j → j ≤ k → ¬ FallsAt m us ad X j)
end Go.Proofs.YtbmmilhinbfahaaDoor
/- a drawn region whose last operations follow the others: its head by held loads, its tail in order -/
namespace Go.Proofs.YtbmmilhinbfahaaDoor
open Go
/-- what follows the head of a region: its tail, in order -/
def TailQ (P : Program) (ops : Array Oper) (Q : Exit → Act → World → Prop) (tl : List Oper) : Exit → Act → World → Prop
  | .normal, a, w => wpList P ops Q tl a w
  | .outgrown, a, w => Q .outgrown a w
  | e, a, w => Q e a w
theorem oper_wpQ {P : Program} {o : Oper} {a : Act} {w : World} {K : Act → World → Prop} {Q Q' : Exit → Act → World → Prop} (hp : ∀ c a w, Q' (.panic c) a w → Q (.panic c) a w) (ho : LetsOut Q' → LetsOut Q) (h : o.wp P a w K Q') : o.wp P a w K Q := by
  unfold Oper.wp at *
  generalize (execOp a.eval o).run P w = r at *
  cases r with
  | ok n w' =>
    cases n <;> simp only [Oper.upon] at h ⊢ <;> first
      | exact h
      | exact Calls.mono h (fun e w'' he => by cases e <;> first | exact he | exact hp _ _ _ he | exact ho he)
  | halt x w' => cases x <;> simp only [Oper.upon] at h ⊢ <;> first | exact h | exact hp _ _ _ h
/-- the guards of the head lie in the head, and its edges lead back -/
def headB (ops : Array Oper) (n : Nat) : Bool :=
  (List.range n).all fun i => match ops[i]? with
    | some o => (match o.guard with | some (g, _) => decide (g < n) | none => true) && o.after.all fun e => !Region.binds .any e || decide (e.on < i)
    | none => false
theorem headB_spec {ops : Array Oper} {n i : Nat} (h : headB ops n = true) (hi : i < n) : ∃ o, ops[i]? = some o ∧ (∀ g b, o.guard = some (g, b) → g < n) ∧ ∀ e ∈ o.after, Region.binds .any e = true → e.on < i := by
  have h1 := List.all_eq_true.1 h i (List.mem_range.2 hi)
  cases ho : ops[i]? with
  | none => simp [ho] at h1
  | some o =>
    simp only [ho, Bool.and_eq_true] at h1
    refine ⟨o, rfl, fun g b hg => ?_, fun e he hb => ?_⟩
    · have := h1.1; simp only [hg, decide_eq_true_eq] at this; exact this
    · have h2 := Array.all_eq_true_iff_forall_mem.1 h1.2 e he
      simp only [hb, Bool.not_true, Bool.false_or, decide_eq_true_eq] at h2
      exact h2
/-- the region's list of what has come up, and its head's -/
structure BothL (n : Nat) (lh listed : Array Bool) : Prop where
  size : lh.size = n
  same : ∀ i, i < n → ∀ d, listed.getD i d = lh.getD i d
theorem BothL.set {n i : Nat} {lh listed : Array Bool} (h : BothL n lh listed) (hi : i < n) (hs : n ≤ listed.size) : BothL n (lh.setIfInBounds i true) (listed.setIfInBounds i true) :=
  ⟨by simp [h.size], fun j hj d => by
    by_cases hij : i = j
    · subst hij
      have h1 : i < lh.size := by rw [h.size]; exact hj
      have h2 : i < listed.size := by omega
      simp [h1, h2]
    · rw [getD_set_ne d hij, getD_set_ne d hij]; exact h.same j hj d⟩
theorem rtake_at {l : List Oper} {n i : Nat} (hi : i < n) : (l.take n).toArray[i]? = l.toArray[i]? := by simp [hi]
/-- a head's operation comes up next in the region exactly if it does so in its head -/
theorem ready_both {l : List Oper} {n i : Nat} {lh listed : Array Bool} (hB : headB l.toArray n = true) (h : BothL n lh listed) (hi : i < n) : i ∈ Region.ready .any l.toArray listed ↔ i ∈ Region.ready .any (l.take n).toArray lh := by
  rw [mem_ready, mem_ready, h.same i hi, rtake_at hi]
  obtain ⟨o, ho, -, hb⟩ := headB_spec hB hi
  refine and_congr Iff.rfl ⟨?_, ?_⟩
  · rintro ⟨o', ho', hall⟩
    obtain rfl : o = o' := Option.some.inj (ho.symm.trans ho')
    exact ⟨o, ho, fun e he hbi => by have h1 := hall e he hbi; rwa [h.same e.on (by have := hb e he hbi; omega)] at h1⟩
  · rintro ⟨o', ho', hall⟩
    obtain rfl : o = o' := Option.some.inj (ho.symm.trans ho')
    exact ⟨o, ho, fun e he hbi => by rw [h.same e.on (by have := hb e he hbi; omega)]; exact hall e he hbi⟩
theorem wpOp_both {P : Program} {l : List Oper} {n i : Nat} {Q : Exit → Act → World → Prop} {K K' : Act → World → Prop} {a : Act} {w : World} (hB : headB l.toArray n = true) (hi : i < n) (hK : ∀ a w, K a w → K' a w)
    (h : wpOp P (l.take n).toArray (TailQ P l.toArray Q (l.drop n)) i K a w) : wpOp P l.toArray Q i K' a w := by
  obtain ⟨o, ho, hg, -⟩ := headB_spec hB hi
  refine wpOp_mono hK ?_
  unfold wpOp at *
  rw [rtake_at hi] at h
  simp only [ho] at h ⊢
  have hw : Region.wanted o (yielded (l.take n).toArray a.tmps) = Region.wanted o (yielded l.toArray a.tmps) := by
    unfold Region.wanted
    cases hgu : o.guard with
    | none => rfl
    | some gb =>
      obtain ⟨g, b⟩ := gb
      have := hg g b hgu
      unfold yielded
      simp only [rtake_at this]
  rw [hw] at h
  have hp : ∀ c a w, TailQ P l.toArray Q (l.drop n) (.panic c) a w → Q (.panic c) a w := fun _ _ _ h => h
  have hl : LetsOut (TailQ P l.toArray Q (l.drop n)) → LetsOut Q := fun ⟨a, w, h⟩ => ⟨a, w, h⟩
  split
  · rename_i hc
    simp only [hc, if_true] at h
    exact h.imp (oper_wpQ hp hl) (fun h => ⟨h.1, hl h.2⟩)
  · rename_i hc
    simp only [hc] at h
    exact h
theorem least_un {lh : Array Bool} : ∀ {n i : Nat}, i < n → lh.getD i true = false → ∃ j, j < n ∧ lh.getD j true = false ∧ ∀ k, k < j → ¬ lh.getD k true = false := by
  intro n i
  induction i using Nat.strongRecOn with
  | _ i ih =>
    intro hi h
    by_cases hc : ∃ k, k < i ∧ lh.getD k true = false
    · obtain ⟨k, hk, hk2⟩ := hc
      exact ih k hk (by omega) hk2
    · exact ⟨i, hi, h, fun k hk h2 => hc ⟨k, hk, h2⟩⟩
theorem getD_flip {lh : Array Bool} {i : Nat} (hi : i < lh.size) (h : ¬ lh.getD i true = false) : lh.getD i false = true := by
  simp [hi] at h ⊢; exact h
theorem ready_some {ops : Array Oper} {n i : Nat} {lh : Array Bool} (hs : lh.size = n) (hB : headB ops n = true) (hi : i < n) (h : lh.getD i true = false) : ∃ j, j < n ∧ j ∈ Region.ready .any ops lh := by
  obtain ⟨j, hj, h1, h2⟩ := least_un hi h
  obtain ⟨o, ho, -, hb⟩ := headB_spec hB hj
  refine ⟨j, hj, mem_ready.2 ⟨h1, o, ho, fun e he hbi => ?_⟩⟩
  have := hb e he hbi
  exact getD_flip (by omega) (h2 _ this)
/-- how many have not come up -/
def unl (lh : Array Bool) : Nat := lh.toList.countP (fun b => !b)
theorem unl_set {lh : Array Bool} {i : Nat} (h : lh.getD i true = false) : unl lh = unl (lh.setIfInBounds i true) + 1 := by
  unfold unl
  have hi : i < lh.size := by
    rcases Nat.lt_or_ge i lh.size with h' | h'
    · exact h'
    · simp [Array.getElem?_eq_none h'] at h
  obtain ⟨l⟩ := lh
  simp only [List.setIfInBounds_toArray]
  have hi' : i < l.length := by simpa using hi
  have h' : l[i] = false := by simpa [hi'] using h
  clear h hi
  induction l generalizing i with
  | nil => simp at hi'
  | cons b l ih =>
    cases i with
    | zero => simp at h'; subst h'; simp [List.countP_cons]
    | succ i =>
      simp only [List.set_cons_succ]; rw [List.countP_cons, List.countP_cons]
      have := ih (i := i) (by simpa using hi') (by simpa using h')
      omega
theorem unl_zero {lh : Array Bool} (h : unl lh = 0) (i : Nat) : lh.getD i true = true := by
  unfold unl at h
  rw [List.countP_eq_zero] at h
  rcases Nat.lt_or_ge i lh.size with h' | h'
  · have := h lh[i] (by simp)
    simp [h']
    simpa using this
  · simp [Array.getElem?_eq_none h']
theorem wpAny_split {P : Program} {l : List Oper} {n : Nat} {Q : Exit → Act → World → Prop} {S : World → Prop} (hB : headB l.toArray n = true) (hs : Region.sinkB .any l.toArray n = true) (hc : Region.chainB .any l.toArray n = true) (hn : n < l.length)
    (hdone : ∀ listed : Array Bool, listed.size = l.length → (∀ i, i < n → listed.getD i false = true) → (∀ t, n ≤ t → t < l.length → listed.getD t true = false) → Region.seqB .any l.toArray (l.length - n) n listed = true) :
    ∀ (f : Nat) (lh listed : Array Bool) (a : Act) (w : World), unl lh = f → BothL n lh listed → HeadInv .any l.toArray n listed →
      wpAnyH P .any (l.take n).toArray (TailQ P l.toArray Q (l.drop n)) S f lh a w → wpAny P .any l.toArray Q (f + (l.length - n)) listed a w := by
  have hn' : n < l.toArray.size := by simpa using hn
  intro f
  induction f with
  | zero =>
    intro lh listed a w hf hb inv h
    rw [Nat.zero_add]
    have hls : listed.size = l.length := by have := inv.size; simpa using this
    have hall : ∀ i, i < n → listed.getD i false = true := fun i hi => by
      rw [hb.same i hi]
      exact getD_flip (by rw [hb.size]; exact hi) (by rw [unl_zero hf]; simp)
    have hseq := hdone listed hls hall (fun t h1 h2 => inv.tail t h1 (by simpa using h2))
    have := wpAny_of_seq (P := P) (md := .any) (ops := l.toArray) (Q' := Q) (l.drop n) n listed a w (fun j => by simp [List.getElem?_drop]) (by simpa using hseq) h.2
    simpa using this
  | succ f ih =>
    intro lh listed a w hf hb inv h
    obtain ⟨i, hi, hun⟩ : ∃ i, i < n ∧ lh.getD i true = false := by
      refine Classical.byContradiction fun hno => ?_
      have hz : unl lh = 0 := by
        unfold unl
        rw [List.countP_eq_zero]
        intro b hbm
        obtain ⟨i, hi, rfl⟩ := List.getElem_of_mem hbm
        have hi2 : i < lh.size := by simpa using hi
        have h1 : ¬ lh.getD i true = false := fun h2 => hno ⟨i, by rw [← hb.size]; exact hi2, h2⟩
        simp [hi2] at h1
        simpa using h1
      omega
    obtain ⟨j, hj, hjr⟩ := ready_some hb.size hB hi hun
    have hjr' : j ∈ Region.ready .any (l.take n).toArray lh := by
      rw [mem_ready] at hjr ⊢
      rwa [rtake_at hj]
    rw [show f + 1 + (l.length - n) = (f + (l.length - n)) + 1 by omega]
    refine ⟨fun h0 => ?_, fun k hk => ?_⟩
    · have := (ready_both hB hb hj).2 hjr'
      rw [h0] at this; cases this
    · have hkn : k < n := by
        rcases Nat.lt_or_ge k n with h1 | h1
        · exact h1
        · exact absurd hk (tail_waits hs hc hn' inv _ i rfl hi (by rw [hb.same i hi]; exact hun) k h1)
      have hkh := (ready_both hB hb hkn).1 hk
      have hku : lh.getD k true = false := (mem_ready.1 hkh).1
      refine wpOp_both hB hkn (fun a' w' hh => ih _ _ a' w' ?_ (hb.set hkn (by have := inv.size; simp at this; omega)) (inv.set hk hkn) hh.2) (h.2 k hkh)
      have := unl_set hku
      omega
/-- the closed facts on a region whose last operations follow the others one by one -/
def splitB (l : List Oper) (n : Nat) : Bool := headB l.toArray n && Region.sinkB .any l.toArray n && Region.chainB .any l.toArray n && decide (n < l.length) && Region.seqB .any l.toArray (l.length - n) n ((List.replicate n true ++ List.replicate (l.length - n) false).toArray)
theorem listed_eq {l : List Oper} {n : Nat} (hn : n < l.length) {listed : Array Bool} (h0 : listed.size = l.length) (h1 : ∀ i, i < n → listed.getD i false = true) (h2 : ∀ t, n ≤ t → t < l.length → listed.getD t true = false) : listed = (List.replicate n true ++ List.replicate (l.length - n) false).toArray := by
  refine Array.ext (by simp; omega) fun i hi hi2 => ?_
  rcases Nat.lt_or_ge i n with h | h
  · have := h1 i h
    simp [hi] at this
    simp [h, this]
  · have := h2 i h (by omega)
    simp [hi] at this
    rw [this]
    symm
    simp only [List.getElem_toArray]
    rw [List.getElem_append_right (by simpa using h)]
    simp
theorem unl_rep (n : Nat) : unl (Array.replicate n false) = n := by simp [unl, List.countP_replicate]
/-- **A drawn region whose last operations follow all others, one by one: its head in whatever order, S behind each of its operations; then the tail in order.** -/
theorem wp_region_split {P : Program} {id : Nat} {Q : Exit → Act → World → Prop} {a : Act} {w : World} {l : List Oper} (n : Nat) (S : World → Prop) (hm : P.follows .mixedOrders = true) (hB : splitB l n = true) (hS : S w.drew)
    (h : S w.drew → wpAnyH P .any (l.take n).toArray (TailQ P l.toArray Q (l.drop n)) S n (Array.replicate n false) a w.drew) : (Code.region id l.toArray true).wp P Q a w := by
  simp only [splitB, Bool.and_eq_true, decide_eq_true_eq] at hB
  obtain ⟨⟨⟨⟨hb, hs⟩, hc⟩, hn⟩, hq⟩ := hB
  refine wp_region_any hm ?_
  have h1 := wpAny_split (Q := Q) hb hs hc hn (fun listed h0 h1 h2 => by rw [listed_eq hn h0 h1 h2]; exact hq) n (Array.replicate n false) (Array.replicate l.toArray.size false) a w.drew (unl_rep n)
    ⟨by simp, fun i hi d => by simp [hi, Nat.lt_trans hi hn]⟩
    ⟨by simp, fun j oj _ hl => (by rw [getD_replicate_false] at hl; cases hl), fun t _ ht => getD_in (by simpa using ht) (getD_replicate_false _ _)⟩ (h hS)
  rw [show n + (l.length - n) = l.toArray.size by simp; omega] at h1
  exact h1
/-- take number i of the list first -/
theorem takeH {P : Program} {md : Region.Mode} {Q : Exit → Act → World → Prop} {S : World → Prop} {l : List Oper} {i : Nat} {oi : Oper} {v : Value} {fuel : Nat} {listed : Array Bool} {a : Act} {w : World} (hi : l[i]? = some oi)
    (hs : (Region.noSelect l.toArray && Region.free md l.toArray listed i && (Region.ready md l.toArray listed).contains i) = true)
    (hQ : ∀ c a w, Q (.panic c) (a.put oi.dst v) w → Q (.panic c) a w) (hy : Region.wanted oi (yielded l.toArray a.tmps) = true ∧ ∀ w, S w → (execOp a.eval oi).run P w = .ok (.value v) w) (hS : S w)
    (h : wpAnyH P md l.toArray Q S fuel (listed.setIfInBounds i true) (a.put oi.dst v) w) : wpAnyH P md l.toArray Q S (fuel + 1) listed a w := by
  simp only [Bool.and_eq_true] at hs
  exact wpAnyH_take (by simpa using hi) hs.1.1 hs.1.2 hs.2 hQ (.inl hy) hS h
/-- number i of the list is the only one that may come up -/
theorem stepH {P : Program} {md : Region.Mode} {Q : Exit → Act → World → Prop} {S : World → Prop} {l : List Oper} {i : Nat} {o : Oper} {fuel : Nat} {listed : Array Bool} {a : Act} {w : World} (ho : l[i]? = some o)
    (hr : Region.ready md l.toArray listed = [i])
    (h : ∀ K' : Act → World → Prop, Shut (∀ a w, S w → (S w → wpAnyH P md l.toArray Q S fuel (listed.setIfInBounds i true) a w) → K' a w) → if Region.wanted o (yielded l.toArray a.tmps) = true then Oper.wp P o a w K' Q else K' (a.put o.dst undef) w) : wpAnyH P md l.toArray Q S (fuel + 1) listed a w :=
  wpAnyH_ready hr (by simp) (AllReadyH.cons (by simpa using ho) h AllReadyH.nil)
end Go.Proofs.YtbmmilhinbfahaaDoor
/- the law WordReads -/
namespace Go.Proofs.YtbmmilhinbfahaaDoor
open Go.RowKit
theorem seqO_zero (m : Int) (us ad : List Int) (x : Int) : seqO m us ad 0 x = [] := rfl
theorem seqO_succ (m : Int) (us ad : List Int) (k : Nat) (x : Int) : seqO m us ad (k + 1) x = if fitsB (stepI m us ad x) = true then some (stepI m us ad x) :: seqO m us ad k (stepI m us ad x) else [none] := rfl
theorem fits_of_B {x : Int} (h : fitsB x = true) : K.fits x := by
  by_cases hh : K.fits x
  · exact hh
  · rw [fitsB_no hh] at h; cases h
theorem seq_none {m : Int} {us ad : List Int} (k : Nat) : ∀ (x : Int), none ∈ seqO m us ad k x → ∃ i, i < k + 1 ∧ ¬ K.fits (orbN m us ad i x) := by
  induction k with
  | zero => intro x h; rw [seqO_zero] at h; cases h
  | succ k ih =>
    intro x h
    rw [seqO_succ] at h
    by_cases hf : fitsB (stepI m us ad x) = true
    · rw [if_pos hf] at h
      rcases List.mem_cons.1 h with h2 | h2
      · cases h2
      · obtain ⟨i, hi, hn⟩ := ih _ h2
        exact ⟨i + 1, by omega, by rw [orbN_cons]; exact hn⟩
    · refine ⟨1, by omega, fun hh => hf ?_⟩
      exact fitsB_yes hh
theorem seq_all {m : Int} {us ad : List Int} (k : Nat) : ∀ (x : Int), none ∉ seqO m us ad k x → K.fits x → ∀ i, i < k + 1 → K.fits (orbN m us ad i x) := by
  induction k with
  | zero =>
    intro x h hx i hi
    obtain rfl : i = 0 := by omega
    exact hx
  | succ k ih =>
    intro x h hx i hi
    rw [seqO_succ] at h
    by_cases hf : fitsB (stepI m us ad x) = true
    · rw [if_pos hf] at h
      have h2 : none ∉ seqO m us ad k (stepI m us ad x) := fun hh => h (List.mem_cons_of_mem _ hh)
      rcases Nat.eq_zero_or_pos i with h0 | h0
      · subst h0; exact hx
      · obtain ⟨j, rfl⟩ : ∃ j, i = j + 1 := ⟨i - 1, by omega⟩
        rw [orbN_cons]
        exact ih _ h2 (fits_of_B hf) j (by omega)
    · rw [if_neg hf] at h
      exact absurd (List.mem_singleton.2 rfl) h
/-- what Word tells where it may be asked -/
def WordC (m : Int) (us ad : List Int) (k : Nat) (x : Int) (ws : List Int) (f : Int) : Prop := (f = 0 ∧ ws = wordI m us ad k x ∧ ∀ i, i < k → K.fits (orbN m us ad i x)) ∨ (f = 3 ∧ ws = [] ∧ ∃ i, i < k ∧ ¬ K.fits (orbN m us ad i x))
end Go.Proofs.YtbmmilhinbfahaaDoor
/- the law WordTerras -/
namespace Go.Proofs.YtbmmilhinbfahaaDoor
open Go.RowKit
theorem terras_big {X D R : Int} (hX : K.fits X) (hD : K.fits D) (h0 : 0 ≤ R) (h1 : R < D) : (X - X % D).natAbs ≤ BIG ∧ (X - X % D + R).natAbs ≤ BIG := by
  have h2 := Int.emod_nonneg X (show D ≠ 0 by omega)
  have h3 := Int.emod_lt_of_pos X (show 0 < D by omega)
  have t1 := fits_top hX
  have t2 := fits_top hD
  have e1 : TOP 224 = TOP 1 * TOP 223 := TOP_add 1 223
  have e2 : TOP 1 = 1000000000 := by decide
  have e3 := TOP_pos 223
  have h4 : (X - X % D).natAbs < TOP 224 ∧ (X - X % D + R).natAbs < TOP 224 := by
    rw [e1, e2]
    generalize TOP 223 = t at *
    generalize X % D = q at *
    omega
  exact ⟨le_big h4.1 (by omega), le_big h4.2 (by omega)⟩
theorem terras_mod {X D R : Int} (h0 : 0 ≤ R) (h1 : R < D) : (X - X % D + R) % D = R := by
  have e : X - X % D + R = R + D * (X / D) := by
    have := Int.emod_add_mul_ediv X D
    omega
  rw [e, Int.add_mul_emod_self_left, Int.emod_eq_of_lt h0 h1]
end Go.Proofs.YtbmmilhinbfahaaDoor
/- the reference's fall of layer 4 -/
namespace Go.Proofs.YtbmmilhinbfahaaDoor
open Go.RowKit
end Go.Proofs.YtbmmilhinbfahaaDoor
/- the reference's first of layer 4 -/
namespace Go.Proofs.YtbmmilhinbfahaaDoor
open Go.RowKit
end Go.Proofs.YtbmmilhinbfahaaDoor
/- the reference's Rests of layer 4 -/
namespace Go.Proofs.YtbmmilhinbfahaaDoor
open Go.RowKit
/-- what the reference's Rests tells -/
def RRests (m k r : Int) : Prop := (1 ≤ k ∧ m ^ k.toNat ≤ 65536 ∧ r = m ^ k.toNat) ∨ (¬ (1 ≤ k ∧ m ^ k.toNat ≤ 65536) ∧ r = 0)
set_option maxRecDepth 100000 in
set_option maxHeartbeats 3200000 in
theorem rrests_any (v : Value) (m : Int) (us ad : List Int) (k : Int) (w : World) (hv : MapV w v m us ad) (hM : Hid (mapP m us ad)) (hk : -9223372036854775808 ≤ k) (hk2 : k ≤ 9223372036854775807) :
    Calls Tryd.prog 5 #[v, .int .i64 k] w (fun e w' => ∃ r, e = .returned (.int .i64 r) ∧ RRests m k r ∧ Ext w w') := by
  have hm := hM.out.1
  have hm2 := hM.out.2.1
  obtain ⟨A, n, cc, B, n2, d, rfl, -⟩ := hv
  have hx : Ext w (w.alloc (.cells #[.int .i64 m, .slice A n cc, .slice B n2 d] 24)) := (Ext.rfl' w).alloc' _
  have hr : Row (w.alloc (.cells #[.int .i64 m, .slice A n cc, .slice B n2 d] 24)) w.heap.size 24 [.int .i64 m, .slice A n cc, .slice B n2 d] := Row.new w _ _
  obtain ⟨W1, hW1⟩ : ∃ W1, (w.alloc (.cells #[.int .i64 m, .slice A n cc, .slice B n2 d] 24)) = W1 := ⟨_, rfl⟩
  rw [hW1] at hx hr
  have HX := hid hx
  have HR := hid hr
  have HW1 := hid hW1
  clear hW1 hx hr
  by_cases h1 : k < 1
  · have HN : Hid (RRests m k 0) := hid (.inr ⟨(fun h => by omega), rfl⟩)
    have h2 : ¬ (0 : Int) < k := by omega
    go_enter Tryd.func5, Tryd.ntmps5
    go_upto_region 1 with fail
    rw [HW1.out]
    go_wp2_with fail
    go_loopw [5, 6] (fun nv iv wr => nv = .int .i64 1 ∧ iv = .int .i64 0 ∧ Ext W1 wr) (fun _ _ _ => 0)
    case atStart => exact ⟨rfl, rfl, Ext.rfl' _⟩
    case round =>
      obtain ⟨rfl, rfl, hex⟩ := hrel
      have HF := hid (HX.out.step hex)
      go_wp2
      go_ret
      exact ⟨0, rfl, HN.out, HF.out⟩
  · obtain ⟨q, rfl⟩ : ∃ q : Nat, k = (q : Int) := ⟨k.toNat, by omega⟩
    have HK1 := hid h1
    go_enter Tryd.func5, Tryd.ntmps5
    go_upto_region 1 with fail
    rw [HW1.out]
    go_wp2_with fail
    go_loopw [5, 6] (fun wv iv wr => ∃ j : Nat, j ≤ q ∧ wv = .int .i64 (m ^ j) ∧ iv = .int .i64 (j : Int) ∧ Hid (m ^ j ≤ 65536) ∧ Ext W1 wr) (fun _ iv _ => q - (intOf iv).toNat)
    case atStart => exact ⟨0, by omega, by simp, rfl, hid (by simp), Ext.rfl' _⟩
    case round =>
      obtain ⟨j, hj, rfl, rfl, HP, hex⟩ := hrel
      by_cases hlt : j < q
      · obtain ⟨P, hP⟩ : ∃ P, m ^ j = P := ⟨_, rfl⟩
        have hp0 : 0 < m ^ j := Int.pow_pos (by omega)
        rw [hP] at hp0
        have hp1 : P ≤ 65536 := by rw [← hP]; exact HP.out
        have c1 : (P * m).natAbs ≤ 65536 * 12 := by rw [Int.natAbs_mul]; exact Nat.mul_le_mul (by omega) (by omega)
        have W1w : IntKind.i64.wrap (P * m) = P * m := IntWalk.i64_in _ (by omega)
        have HPE := hid hP
        have HEX := hid hex
        rw [hP]
        obtain ⟨f0, f1, f2, -, -, -⟩ := row_facts3 (HR.out.ext hex)
        clear hP hp0 hp1 c1 hex
        by_cases hg : 65536 < P * m
        · have HN : Hid (RRests m (q : Int) 0) := hid (.inr ⟨(fun h => by
            have h2 := h.2
            rw [Int.toNat_natCast] at h2
            have h3 := pow_grow (m := m) hm (show j + 1 ≤ q by omega)
            rw [Int.pow_succ, HPE.out] at h3
            omega), rfl⟩)
          have HF := hid (HX.out.step HEX.out)
          go_wp2
          go_ret
          exact ⟨0, rfl, HN.out, HF.out⟩
        · have HPN := hid (show m ^ (j + 1) ≤ 65536 by rw [Int.pow_succ, HPE.out]; omega)
          go_wp2
          go_roundw
          case rel => exact ⟨j + 1, by omega, by rw [Int.pow_succ, HPE.out], by simp, HPN, HEX.out⟩
          case measure => first | (simp [intOf]; done) | (simp [intOf]; omega)
      · obtain rfl : j = q := by omega
        have HN : Hid (RRests m (j : Int) (m ^ j)) := hid (.inl ⟨by have := HK1.out; omega, by rw [Int.toNat_natCast]; exact HP.out, by rw [Int.toNat_natCast]⟩)
        have HF := hid (HX.out.step hex)
        go_wp2
        go_ret
        exact ⟨m ^ j, rfl, HN.out, HF.out⟩
end Go.Proofs.YtbmmilhinbfahaaDoor
/- the reference's Find of layer 4 -/
namespace Go.Proofs.YtbmmilhinbfahaaDoor
open Go.RowKit
theorem box_three3 (w : World) (t1 t2 t3 : TypeId) (a b c : List Value) : Ext w (((w.alloc (.cells a.toArray t1)).alloc (.cells b.toArray t2)).alloc (.cells c.toArray t3)) ∧ Row (((w.alloc (.cells a.toArray t1)).alloc (.cells b.toArray t2)).alloc (.cells c.toArray t3)) w.heap.size t1 a ∧ Row (((w.alloc (.cells a.toArray t1)).alloc (.cells b.toArray t2)).alloc (.cells c.toArray t3)) (w.heap.size + 1) t2 b ∧ Row (((w.alloc (.cells a.toArray t1)).alloc (.cells b.toArray t2)).alloc (.cells c.toArray t3)) (w.heap.size + 1 + 1) t3 c := by
  refine ⟨(((Ext.rfl' w).alloc' _).alloc' _).alloc' _, ((Row.new w t1 a).alloc _).alloc _, ?_, ?_⟩
  · have := (Row.new (w.alloc (.cells a.toArray t1)) t2 b).alloc (.cells c.toArray t3)
    rwa [World.size_alloc] at this
  · have := Row.new ((w.alloc (.cells a.toArray t1)).alloc (.cells b.toArray t2)) t3 c
    rwa [World.size_alloc, World.size_alloc] at this
theorem rrests_w (v : Value) (m : Int) (us ad : List Int) (q : Nat) (W : Int) (w : World) (hv : MapV w v m us ad) (hM : Hid (mapP m us ad)) (hS : Hid (SuitP m us (q : Int))) (hqq : (q : Int) ≤ 9223372036854775807) (hW : Hid (m ^ q = W)) :
    Calls Tryd.prog 5 #[v, .int .i64 (q : Int)] w (fun e w' => e = .returned (.int .i64 W) ∧ Ext w w') := by
  refine (rrests_any v m us ad (q : Int) w hv hM (by omega) hqq).mono ?_
  rintro e w' ⟨r, rfl, hr, hx⟩
  refine ⟨?_, hx⟩
  rcases hr with ⟨-, -, h⟩ | ⟨h, -⟩
  · rw [h, Int.toNat_natCast, hW.out]
  · exact absurd ⟨hS.out.2.1, hS.out.2.2⟩ h
theorem fall_nums {m : Int} {us ad : List Int} (hM : mapP m us ad) {k : Nat} (hk : m ^ ((k : Int)).toNat ≤ 65536) {X : Int} {i : Nat} (hi : i ≤ k) (hf : FallsAt m us ad X i) :
    K.fits (lnX m us ad X i).1 ∧ K.fits (lnX m us ad X i).2.1 ∧ K.fits (m ^ i) ∧ (lnX m us ad X i).1 < m ^ i ∧ K.fits (m ^ i - (lnX m us ad X i).1) ∧ K.fits ((lnX m us ad X i).2.1 / (m ^ i - (lnX m us ad X i).1)) := by
  rw [Int.toNat_natCast] at hk
  have hbd := place_bds hM hi hk X
  unfold FallsAt at hf
  have hab := hbd.2.2.2 (by omega)
  have hbB : ((lnX m us ad X i).2.1 / (m ^ i - (lnX m us ad X i).1)).natAbs ≤ 4294967296000000 := Nat.le_trans (Int.natAbs_ediv_le_natAbs _ _) hab
  exact ⟨fits_small (by omega), fits_small (by omega), fits_small (by omega), hf, fits_small (by omega), fits_small (by omega)⟩
end Go.Proofs.YtbmmilhinbfahaaDoor
