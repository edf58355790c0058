/- As in XReg, where values own new blocks and an operation may write into the block of a value that it uses up (append onto a slice of the region's own): nobody else looks at that value. No program is named here. -/
import Derived.Test.YtdkchiodepdclaaReg
namespace Go.Proofs.Ytdkchiodepdclaa
open Go.RowKit
set_option linter.unusedVariables false
/-- What is known of an operation's value: that it is this; or something that lasts while its own block does not change. -/
inductive Tyo where
  | val (v : Value)
  | own (p : Value → World → Prop) (st : ∀ v w w', p v w → (∀ g, v.ownBlock = some g → w'.heap[g]? = w.heap[g]?) → p v w')
def Tyo.holds : Tyo → Value → World → Prop
  | .val u, v, _ => v = u
  | .own p _, v, w => p v w
def Tyo.owns : Tyo → Value → Nat → Prop
  | .val _, _, _ => False
  | .own _ _, v, g => v.ownBlock = some g
theorem Tyo.keep (T : Tyo) {v : Value} {w w' : World} (h : T.holds v w) (hb : ∀ g, T.owns v g → w'.heap[g]? = w.heap[g]?) : T.holds v w' := by
  cases T with
  | val u => exact h
  | own p st => exact st v w w' h hb
def tyoOf : List (Tmp × Tyo) → Tmp → Tyo
  | [], _ => .own (fun _ _ => True) (fun _ _ _ _ _ => trivial)
  | (k, T) :: L, d => cond (Nat.beq k d) T (tyoOf L d)
def overO (T : Tmp → Tyo) (n0 : Nat) : List Tmp → Act → World → (Act → Prop) → Prop
  | [], a, _, K => K a
  | d :: ds, a, w, K => match T d with
    | .val u => overO T n0 ds (a.put (some d) u) w K
    | .own p _ => ∀ v, p v w → (∀ g, v.ownBlock = some g → n0 ≤ g ∧ g < w.heap.size) → overO T n0 ds (a.put (some d) v) w K
theorem overO_nil {T : Tmp → Tyo} {n0 : Nat} {a : Act} {w : World} {K : Act → Prop} (h : K a) : overO T n0 [] a w K := h
theorem overO_val {T : Tmp → Tyo} {n0 : Nat} {d : Tmp} {ds : List Tmp} {a : Act} {w : World} {K : Act → Prop} {u : Value} (h : T d = .val u) (k : overO T n0 ds (a.put (some d) u) w K) : overO T n0 (d :: ds) a w K := by
  unfold overO; rw [h]; exact k
theorem overO_own {T : Tmp → Tyo} {n0 : Nat} {d : Tmp} {ds : List Tmp} {a : Act} {w : World} {K : Act → Prop} {p : Value → World → Prop} {st : ∀ v w w', p v w → (∀ g, v.ownBlock = some g → w'.heap[g]? = w.heap[g]?) → p v w'} (h : T d = .own p st) (k : ∀ v, p v w → (∀ g, v.ownBlock = some g → n0 ≤ g ∧ g < w.heap.size) → overO T n0 ds (a.put (some d) v) w K) : overO T n0 (d :: ds) a w K := by
  unfold overO; rw [h]; exact k
theorem overO_fill {T : Tmp → Tyo} {n0 : Nat} {f : Tmp → Value} {w : World} {K : Act → Prop} : ∀ (ds : List Tmp) (a : Act), (∀ d ∈ ds, (T d).holds (f d) w) → (∀ d ∈ ds, ∀ g, (T d).owns (f d) g → n0 ≤ g ∧ g < w.heap.size) → overO T n0 ds a w K → K (fill f ds a)
  | [], _, _, _, h => h
  | d :: ds, a, hT, hO, h => by
    have h1 := hT d List.mem_cons_self
    have h2 := hO d List.mem_cons_self
    refine overO_fill ds _ (fun e he => hT e (List.mem_cons_of_mem _ he)) (fun e he => hO e (List.mem_cons_of_mem _ he)) ?_
    unfold overO at h
    cases ht : T d with
    | val u => rw [ht] at h h1; have e : f d = u := h1; rw [e]; exact h
    | own p st => rw [ht] at h h1 h2; exact h _ h1 h2
/-- What one operation must come to: nothing older than the region changes, and of what is newer only what it may write (O); its value's block is one of those, or new. -/
def PostO (T : Tmp → Tyo) (O : Nat → Prop) (n0 : Nat) (D : List Deferred) (o : Oper) (w : World) : Exit → Act → World → Prop
  | .normal, a, w' => a.defers = D ∧ Below n0 w w' ∧ (∀ g, g < w.heap.size → ¬ O g → w'.heap[g]? = w.heap[g]?) ∧ ∀ d, o.dst = some d → (T d).holds (a.tmps.getD d undef) w' ∧ ∀ g, (T d).owns (a.tmps.getD d undef) g → (O g ∨ w.heap.size ≤ g) ∧ g < w'.heap.size
  | _, _, _ => False
theorem postO_of {T : Tmp → Tyo} {O : Nat → Prop} {n0 : Nat} {D : List Deferred} {o : Oper} {w w' : World} {a : Act} {d : Tmp} (hd : o.dst = some d) (h1 : a.defers = D) (hn : n0 ≤ w.heap.size) (hb : Below w.heap.size w w') (h2 : (T d).holds (a.tmps.getD d undef) w') (h3 : ∀ g, (T d).owns (a.tmps.getD d undef) g → w.heap.size ≤ g ∧ g < w'.heap.size) : PostO T O n0 D o w .normal a w' :=
  ⟨h1, hb.mono hn, fun g hg _ => hb.block g hg, fun e he => by rw [hd] at he; injection he with he; subst he; exact ⟨h2, fun g hg => ⟨.inr (h3 g hg).1, (h3 g hg).2⟩⟩⟩
theorem postO_grown {T : Tmp → Tyo} {O : Nat → Prop} {n0 : Nat} {D : List Deferred} {o : Oper} {w w' : World} {a : Act} {d : Tmp} (hd : o.dst = some d) (h1 : a.defers = D) (hb : Below n0 w w') (hu : ∀ g, g < w.heap.size → ¬ O g → w'.heap[g]? = w.heap[g]?) (h2 : (T d).holds (a.tmps.getD d undef) w') (h3 : ∀ g, (T d).owns (a.tmps.getD d undef) g → (O g ∨ w.heap.size ≤ g) ∧ g < w'.heap.size) : PostO T O n0 D o w .normal a w' :=
  ⟨h1, hb, hu, fun e he => by rw [hd] at he; injection he with he; subst he; exact ⟨h2, h3⟩⟩
theorem postO_lets {T : Tmp → Tyo} {O : Nat → Prop} {n0 : Nat} {D : List Deferred} {o : Oper} {w : World} : ¬ LetsOut (PostO T O n0 D o w) := fun ⟨_, _, h⟩ => h
theorem wp_turnO {P : Program} {T : Tmp → Tyo} {O : Nat → Prop} {n0 : Nat} {o : Oper} {a b : Act} {w : World} {K : Act → World → Prop} {Q : Exit → Act → World → Prop} (he : execOp a.eval o = execOp b.eval o) (hs : a.tmps.size = b.tmps.size)
    (h : o.wp P b w (fun a' w' => PostO T O n0 b.defers o w .normal a' w') (PostO T O n0 b.defers o w))
    (hK : ∀ v w', Below n0 w w' → (∀ g, g < w.heap.size → ¬ O g → w'.heap[g]? = w.heap[g]?) → (∀ d, o.dst = some d → (T d).holds ((a.put o.dst v).tmps.getD d undef) w' ∧ ∀ g, (T d).owns ((a.put o.dst v).tmps.getD d undef) g → (O g ∨ w.heap.size ≤ g) ∧ g < w'.heap.size) → K (a.put o.dst v) w') : o.wp P a w K Q := by
  have key : ∀ v w', PostO T O n0 b.defers o w .normal (b.put o.dst v) w' → K (a.put o.dst v) w' := fun v w' ⟨_, h2, h3, h4⟩ =>
    hK v w' h2 h3 fun d hd => by
      have := h4 d hd
      rw [hd] at this ⊢
      rw [put_getD a b d v hs]
      exact this
  unfold Oper.wp at *
  rw [he]
  generalize (execOp b.eval o).run P w = r at *
  cases r with
  | ok n w' =>
    cases n <;> simp only [Oper.upon] at h ⊢
    case value v => exact key _ _ h
    case skip => exact key _ _ h
    case defer d =>
      have h1 := h.1
      cases ho : o.dst <;> simp [ho, Act.put] at h1
    case enter f args =>
      refine Calls.mono h fun e w'' he => ?_
      cases e with
      | returned v => exact key _ _ he
      | panicked c => exact he.elim
      | outgrown => exact absurd he postO_lets
    case row r args => exact Rows.mono h fun v w'' hv => key _ _ hv
  | halt x w' =>
    cases x <;> simp only [Oper.upon] at h ⊢
    exact h.elim
/-- What is used up, is looked at by nobody else. -/
def ownOK (ops : Array Oper) (C D : List (List Tmp)) (n : Nat) : Bool := (List.range n).all fun i => (C.getD i []).all fun t => (D.getD i []).contains t && (dstAt ops i != some t) && (List.range n).all fun k => k == i || (!(D.getD k []).contains t && !(C.getD k []).contains t)
/-- Not used up yet. -/
def Free (C : List (List Tmp)) (n : Nat) (listed : Array Bool) (d : Tmp) : Prop := ∀ i, i < n → listed.getD i false = true → d ∉ C.getD i []
section
variable {P : Program} {ops : Array Oper} {n : Nat} {T : Tmp → Tyo} {C : List (List Tmp)} {w0 : World} {a0 : Act} {Q : Exit → Act → World → Prop}
structure RInvO (ops : Array Oper) (n : Nat) (T : Tmp → Tyo) (C : List (List Tmp)) (w0 : World) (a0 : Act) (listed : Array Bool) (a : Act) (w : World) : Prop where
  head : HeadInv .any ops n listed
  below : Below w0.heap.size w0 w
  size : a.tmps.size = a0.tmps.size
  defers : a.defers = a0.defers
  old : ∀ t, (∀ j, j < n → listed.getD j false = true → dstAt ops j ≠ some t) → a.tmps[t]? = a0.tmps[t]?
  new : ∀ j d, j < n → listed.getD j false = true → dstAt ops j = some d → Free C n listed d → (T d).holds (a.tmps.getD d undef) w
  base : ∀ j d, j < n → listed.getD j false = true → dstAt ops j = some d → Free C n listed d → ∀ g, (T d).owns (a.tmps.getD d undef) g → w0.heap.size ≤ g ∧ g < w.heap.size
  apart : ∀ i j d d', i < n → j < n → listed.getD i false = true → listed.getD j false = true → dstAt ops i = some d → dstAt ops j = some d' → Free C n listed d → Free C n listed d' → d ≠ d' → ∀ g, (T d).owns (a.tmps.getD d undef) g → ¬ (T d').owns (a.tmps.getD d' undef) g
/-- What is known of a frame behind the region. -/
structure BehindO (ops : Array Oper) (n : Nat) (T : Tmp → Tyo) (C : List (List Tmp)) (w0 : World) (a0 : Act) (w : World) (a : Act) : Prop where
  size : a.tmps.size = a0.tmps.size
  defers : a.defers = a0.defers
  old : ∀ t, t ∉ dstsOf (ops.toList.take n) → a.tmps[t]? = a0.tmps[t]?
  new : ∀ d ∈ dstsOf (ops.toList.take n), (∀ i, i < n → d ∉ C.getD i []) → (T d).holds (a.tmps.getD d undef) w
  base : ∀ d ∈ dstsOf (ops.toList.take n), (∀ i, i < n → d ∉ C.getD i []) → ∀ g, (T d).owns (a.tmps.getD d undef) g → w0.heap.size ≤ g ∧ g < w.heap.size
  apart : ∀ d ∈ dstsOf (ops.toList.take n), ∀ d' ∈ dstsOf (ops.toList.take n), (∀ i, i < n → d ∉ C.getD i []) → (∀ i, i < n → d' ∉ C.getD i []) → d ≠ d' → ∀ g, (T d).owns (a.tmps.getD d undef) g → ¬ (T d').owns (a.tmps.getD d' undef) g
theorem behindO_fill {a0 a : Act} {w : World} (h : BehindO ops n T C w0 a0 w a) : a = fill (fun t => a.tmps.getD t undef) (dstsOf (ops.toList.take n)) a0 := by
  have hd : a.defers = (fill (fun t => a.tmps.getD t undef) (dstsOf (ops.toList.take n)) a0).defers := by rw [fill_defers]; exact h.defers
  have ht : a.tmps = (fill (fun t => a.tmps.getD t undef) (dstsOf (ops.toList.take n)) a0).tmps := by
    apply Array.ext_getElem?
    intro t
    by_cases hm : t ∈ dstsOf (ops.toList.take n)
    · by_cases hlt : t < a.tmps.size
      · rw [fill_in _ _ _ _ (by rw [← h.size]; exact hlt) (.inl hm), get_fill hlt]
      · rw [Array.getElem?_eq_none (by omega), Array.getElem?_eq_none (by rw [fill_size, ← h.size]; omega)]
    · rw [fill_out _ _ _ _ hm]
      exact h.old t hm
  cases a; cases hf : fill _ _ _; rw [hf] at hd ht; cases hd; cases ht; rfl
theorem dstsO_at {d : Tmp} (hd : d ∈ dstsOf (ops.toList.take n)) : ∃ j, j < n ∧ dstAt ops j = some d := by
  obtain ⟨o, ho, hod⟩ := List.mem_filterMap.1 hd
  obtain ⟨j, hj⟩ := List.mem_iff_getElem?.1 ho
  rw [List.getElem?_take] at hj
  split at hj
  · rename_i hjn
    exact ⟨j, hjn, by unfold dstAt; rw [show ops[j]? = some o by simpa using hj]; exact hod⟩
  · cases hj
theorem behindO_ds {a0 a : Act} {w : World} {ds : List Tmp} (h : BehindO ops n T C w0 a0 w a) (hd : dstsOf (ops.toList.take n) = ds) : a = fill (fun t => a.tmps.getD t undef) ds a0 := by
  subst hd; exact behindO_fill h
/-- What operation i may write. -/
def mayO (T : Tmp → Tyo) (c : List Tmp) (a : Act) (g : Nat) : Prop := ∃ t ∈ c, (T t).owns (a.tmps.getD t undef) g
theorem typed_anyO {D : List (List Tmp)} (hB : regOK ops D n = true) (hC : ownOK ops C D n = true)
    (hgoal : ∀ i o, i < n → ops[i]? = some o → ∀ w, Below w0.heap.size w0 w → overO T w0.heap.size (D.getD i []) a0 w (fun a => wpList P ops (PostO T (mayO T (C.getD i []) a) w0.heap.size a0.defers o w) [o] a w))
    (hend : ∀ w a, Below w0.heap.size w0 w → BehindO ops n T C w0 a0 w a → wpList P ops Q (ops.toList.drop n) a w) :
    ∀ (m : Nat) (listed : Array Bool) (a : Act) (w : World), RInvO ops n T C w0 a0 listed a w → cnt listed n = m → wpAny P .any ops Q (m + (ops.size - n)) listed a w := by
  simp only [regOK, Bool.and_eq_true] at hB
  obtain ⟨⟨hsel, hE⟩, hO⟩ := hB
  have hO' : ∀ i, i < n → opOK ops D n i = true := fun i hi => List.all_eq_true.1 hO i (List.mem_range.2 hi)
  have hC' : ∀ i, i < n → ∀ t ∈ C.getD i [], t ∈ D.getD i [] ∧ dstAt ops i ≠ some t ∧ ∀ k, k < n → k ≠ i → t ∉ D.getD k [] ∧ t ∉ C.getD k [] := fun i hi t ht => by
    have h1 := List.all_eq_true.1 (List.all_eq_true.1 hC i (List.mem_range.2 hi)) t ht
    simp only [Bool.and_eq_true] at h1
    refine ⟨by simpa using h1.1.1, by simpa using h1.1.2, fun k hk hne => ?_⟩
    have h2 := List.all_eq_true.1 h1.2 k (List.mem_range.2 hk)
    simp only [Bool.or_eq_true, beq_iff_eq, Bool.and_eq_true, Bool.not_eq_true'] at h2
    rcases h2 with h2 | h2
    · exact absurd h2 hne
    · refine ⟨fun h => ?_, fun h => ?_⟩
      · have := h2.1; rw [List.contains_iff_mem.2 h] at this; cases this
      · have := h2.2; rw [List.contains_iff_mem.2 h] at this; cases this
  have hns : n ≤ ops.size := by
    unfold endOK at hE
    split at hE
    · omega
    · simp only [Bool.and_eq_true, decide_eq_true_eq] at hE; omega
  intro m
  induction m with
  | zero =>
    intro listed a w inv hc
    have hall := cnt_zero n hc
    have hsz := inv.head.size
    have hin : ∀ i, i < n → listed.getD i false = true := fun i hi => by
      have := hall i hi
      have hi' : i < listed.size := by omega
      simpa [hi'] using this
    have hfree : ∀ d, (∀ i, i < n → d ∉ C.getD i []) → Free C n listed d := fun d h i hi _ => h i hi
    have H : wpList P ops Q (ops.toList.drop n) a w := by
      refine hend w a inv.below ⟨inv.size, inv.defers, fun t hm => ?_, fun d hd hf => ?_, fun d hd hf => ?_, fun d hd d' hd' hf hf' hne => ?_⟩
      · refine inv.old t fun j hj hl hd => hm ?_
        unfold dstAt at hd
        cases ho : ops[j]? with
        | none => rw [ho] at hd; cases hd
        | some o =>
          rw [ho] at hd
          refine List.mem_filterMap.2 ⟨o, ?_, hd⟩
          exact List.mem_of_getElem? (i := j) (by rw [List.getElem?_take, if_pos hj]; simpa using ho)
      · obtain ⟨j, hj, hjd⟩ := dstsO_at hd
        exact inv.new j d hj (hin j hj) hjd (hfree d hf)
      · obtain ⟨j, hj, hjd⟩ := dstsO_at hd
        exact inv.base j d hj (hin j hj) hjd (hfree d hf)
      · obtain ⟨j, hj, hjd⟩ := dstsO_at hd
        obtain ⟨i, hi, hid⟩ := dstsO_at hd'
        exact inv.apart j i d d' hj hi (hin j hj) (hin i hi) hjd hid (hfree d hf) (hfree d' hf') hne
    have hl : listed = (Array.range ops.size).map fun i => decide (i < n) := by
      apply Array.ext
      · simp [hsz]
      · intro i h1 h2
        simp only [Array.getElem_map, Array.getElem_range]
        by_cases hin' : i < n
        · have := hall i hin'
          simpa [h1, hin'] using this
        · have := inv.head.tail i (by omega) (by omega)
          simpa [h1, hin'] using this
    have hseq : Region.seqB .any ops (ops.toList.drop n).length n listed = true := by
      have hlen : (ops.toList.drop n).length = ops.size - n := by simp
      rw [hlen]
      by_cases hne : n = ops.size
      · have h0 : ops.size - n = 0 := by omega
        rw [h0]
        simp only [Region.seqB, List.isEmpty_iff]
        rw [List.eq_nil_iff_forall_not_mem]
        intro i hi
        obtain ⟨h1, o, ho, _⟩ := mem_ready.1 hi
        have := (Array.getElem?_eq_some_iff.1 ho).1
        rw [hall i (by omega)] at h1
        cases h1
      · unfold endOK at hE
        rw [if_neg hne] at hE
        simp only [Bool.and_eq_true] at hE
        rw [hl]
        exact hE.2
    have hlen : (ops.toList.drop n).length = ops.size - n := by simp
    have := wpAny_of_seq (md := .any) (Q' := Q) (ops.toList.drop n) n listed a w (fun j => by simp [List.getElem?_drop]) hseq H
    rw [hlen] at this
    rw [Nat.zero_add]
    exact this
  | succ m ih =>
    intro listed a w inv hc
    have hsz := inv.head.size
    obtain ⟨i0, hi0, hu0, hlow⟩ := cnt_least n (show cnt listed n ≠ 0 by omega)
    have hready0 : i0 ∈ Region.ready .any ops listed := by
      have hOi := hO' i0 hi0
      unfold opOK at hOi
      refine mem_ready.2 ⟨hu0, ?_⟩
      cases ho : ops[i0]? with
      | none => rw [ho] at hOi; cases hOi
      | some o =>
        rw [ho] at hOi
        simp only [Bool.and_eq_true] at hOi
        refine ⟨o, rfl, fun e he hb => ?_⟩
        have h1 := Array.all_eq_true'.1 hOi.1.1.1 e he
        simp only [hb, Bool.not_true, Bool.false_or, decide_eq_true_eq] at h1
        have h2 := hlow e.on h1
        have h3 : e.on < listed.size := by omega
        simpa [h3] using h2
    rw [show m + 1 + (ops.size - n) = (m + (ops.size - n)) + 1 by omega]
    refine ⟨fun h => (by rw [h] at hready0; cases hready0), fun i hi => ?_⟩
    have hin : i < n := by
      rcases Nat.lt_or_ge i n with h | h
      · exact h
      · obtain ⟨_, o, ho, _⟩ := mem_ready.1 hi
        have hlt := (Array.getElem?_eq_some_iff.1 ho).1
        unfold endOK at hE
        by_cases hne : n = ops.size
        · omega
        · rw [if_neg hne] at hE
          simp only [Bool.and_eq_true, decide_eq_true_eq] at hE
          exact absurd hi (tail_waits hE.1.1.2 hE.1.2 hE.1.1.1 inv.head _ i0 rfl hi0 hu0 i h)
    obtain ⟨hiu, o, ho, hall⟩ := mem_ready.1 hi
    have hil : listed.getD i false = false := getD_both hiu
    have hOi := hO' i hin
    unfold opOK at hOi
    rw [ho] at hOi
    simp only [Bool.and_eq_true] at hOi
    obtain ⟨⟨⟨_, hlook⟩, hsrc⟩, hdis⟩ := hOi
    have hdst : ∀ j, j < n → i ≠ j → ∀ d, dstAt ops i = some d → dstAt ops j ≠ some d := fun j hj hne d hd e => by
      have := List.all_eq_true.1 hdis j (List.mem_range.2 hj)
      rw [hd, e] at this
      simp [hne] at this
    have hio : dstAt ops i = o.dst := by unfold dstAt; rw [ho]; rfl
    have hsrcL : ∀ t ∈ D.getD i [], ∃ j, j < n ∧ dstAt ops j = some t ∧ listed.getD j false = true := fun t ht => by
      obtain ⟨j, hj, h2⟩ := List.any_eq_true.1 (List.all_eq_true.1 hsrc t ht)
      simp only [Bool.and_eq_true, beq_iff_eq] at h2
      exact ⟨j, List.mem_range.1 hj, h2.1, waits_listed ho hall h2.2⟩
    -- what it looks at has not been used up: only i itself could
    have hfreeS : ∀ t ∈ D.getD i [], Free C n listed t := fun t ht k hk hkl hm => by
      by_cases e : k = i
      · subst e; rw [hil] at hkl; cases hkl
      · exact ((hC' k hk t hm).2.2 i hin (fun h => e h.symm)).1 ht
    have hbT : ∀ t ∈ D.getD i [], (T t).holds (a.tmps.getD t undef) w := fun t ht => by
      obtain ⟨j, hj, hd, hl⟩ := hsrcL t ht
      exact inv.new j t hj hl hd (hfreeS t ht)
    have hbO : ∀ t ∈ D.getD i [], ∀ g, (T t).owns (a.tmps.getD t undef) g → w0.heap.size ≤ g ∧ g < w.heap.size := fun t ht => by
      obtain ⟨j, hj, hd, hl⟩ := hsrcL t ht
      exact inv.base j t hj hl hd (hfreeS t ht)
    have hW := overO_fill (K := fun b => wpList P ops (PostO T (mayO T (C.getD i []) b) w0.heap.size a0.defers o w) [o] b w) (f := fun t => a.tmps.getD t undef) _ a0 hbT hbO (hgoal i o hin ho w inv.below)
    have hget : ∀ t, (t ∈ o.looksAt ops ∨ t ∈ D.getD i []) → a.tmps[t]? = (fill (fun t => a.tmps.getD t undef) (D.getD i []) a0).tmps[t]? := fun t ht => by
      by_cases hm : t ∈ D.getD i []
      · by_cases hlt : t < a.tmps.size
        · rw [fill_in _ _ _ _ (by rw [← inv.size]; exact hlt) (.inl hm), get_fill hlt]
        · rw [Array.getElem?_eq_none (Nat.not_lt.1 hlt), Array.getElem?_eq_none (by rw [fill_size, ← inv.size]; exact Nat.not_lt.1 hlt)]
      · have ht := ht.resolve_right hm
        rw [fill_out _ _ _ _ hm]
        refine inv.old t fun j hj hl hd => ?_
        have h1 := List.all_eq_true.1 (List.all_eq_true.1 hlook t ht) j (List.mem_range.2 hj)
        simp only [hd, bne_self_eq_false, Bool.false_or, Bool.or_eq_true, Bool.and_eq_true] at h1
        rcases h1 with h1 | h1
        · exact hm (by simpa using h1.2)
        · obtain ⟨oj, hoj, e, he, hb, hon⟩ := Region.waitsFor_spec h1
          have := inv.head.closed j oj hoj hl e he hb
          rw [hon, hil] at this
          cases this
    have hexec : execOp a.eval o = execOp (fill (fun t => a.tmps.getD t undef) (D.getD i []) a0).eval o :=
      execOp_congr o (fun cs b => Region.noSelect_spec hsel i o cs b ho) fun x hx => by
        cases x with
        | tmp t =>
          have : t ∈ o.looksAt ops := List.mem_append_left _ (List.mem_filterMap.2 ⟨.tmp t, by simpa using hx, rfl⟩)
          exact getD_of_get (hget t (.inl this))
        | _ => rfl
    have hwant : Region.wanted o (yielded ops a.tmps) = Region.wanted o (yielded ops (fill (fun t => a.tmps.getD t undef) (D.getD i []) a0).tmps) := by
      unfold Region.wanted
      cases hg : o.guard with
      | none => rfl
      | some gw =>
        obtain ⟨g, want⟩ := gw
        have hy : yielded ops a.tmps g = yielded ops (fill (fun t => a.tmps.getD t undef) (D.getD i []) a0).tmps g := by
          unfold yielded
          cases ht : (ops[g]?).bind (·.dst) with
          | none => rfl
          | some t =>
            simp only [Option.bind_some]
            rw [hget t (.inl (List.mem_append_right _ (by simp [hg, ht])))]
        simp only [hy]
    have hsize : a.tmps.size = (fill (fun t => a.tmps.getD t undef) (D.getD i []) a0).tmps.size := by rw [fill_size]; exact inv.size
    have hdef : a0.defers = (fill (fun t => a.tmps.getD t undef) (D.getD i []) a0).defers := by rw [fill_defers]
    have hmay : ∀ g, mayO T (C.getD i []) (fill (fun t => a.tmps.getD t undef) (D.getD i []) a0) g ↔ mayO T (C.getD i []) a g := fun g => by
      have h1 : ∀ t ∈ C.getD i [], (fill (fun t => a.tmps.getD t undef) (D.getD i []) a0).tmps.getD t undef = a.tmps.getD t undef := fun t ht => (getD_of_get (hget t (.inr (hC' i hin t ht).1))).symm
      constructor
      · rintro ⟨t, ht, h⟩; rw [h1 t ht] at h; exact ⟨t, ht, h⟩
      · rintro ⟨t, ht, h⟩; exact ⟨t, ht, by rw [h1 t ht]; exact h⟩
    -- what is known behind the operation
    have next : ∀ v w', Below w0.heap.size w w' → (∀ g, g < w.heap.size → ¬ mayO T (C.getD i []) (fill (fun t => a.tmps.getD t undef) (D.getD i []) a0) g → w'.heap[g]? = w.heap[g]?) →
        (∀ d, o.dst = some d → (T d).holds ((a.put o.dst v).tmps.getD d undef) w' ∧ ∀ g, (T d).owns ((a.put o.dst v).tmps.getD d undef) g → (mayO T (C.getD i []) (fill (fun t => a.tmps.getD t undef) (D.getD i []) a0) g ∨ w.heap.size ≤ g) ∧ g < w'.heap.size) → wpAny P .any ops Q (m + (ops.size - n)) (listed.setIfInBounds i true) (a.put o.dst v) w' := by
      intro v w' hb hu hT
      have hu' : ∀ g, g < w.heap.size → ¬ mayO T (C.getD i []) a g → w'.heap[g]? = w.heap[g]? := fun g hg hn => hu g hg (fun h => hn ((hmay g).1 h))
      -- an operation's place but i: its slot as before, not used up before either
      have stay : ∀ j d, j < n → j ≠ i → dstAt ops j = some d → (a.put o.dst v).tmps.getD d undef = a.tmps.getD d undef := fun j d hj hne hd => by
        refine getD_of_get ?_
        cases hod : o.dst with
        | none => rfl
        | some d' =>
          have : d' ≠ d := fun e' => hdst j hj (fun h => hne h.symm) d (by rw [hio, hod, e']) hd
          simp [Act.put, Array.getElem?_setIfInBounds_ne this]
      have was : ∀ j, j ≠ i → (listed.setIfInBounds i true).getD j false = true → listed.getD j false = true := fun j hne hl => by
        rw [getD_set_ne false (fun h => hne h.symm)] at hl; exact hl
      have free : ∀ d, Free C n (listed.setIfInBounds i true) d → Free C n listed d ∧ d ∉ C.getD i [] := fun d hf => by
        refine ⟨fun k hk hkl => hf k hk (getD_set_true hkl), ?_⟩
        exact hf i hin (by
          have : i < listed.size := by rw [hsz]; omega
          simp [this])
      have clear : ∀ j d, j < n → listed.getD j false = true → dstAt ops j = some d → Free C n listed d → d ∉ C.getD i [] → ∀ g, (T d).owns (a.tmps.getD d undef) g → ¬ mayO T (C.getD i []) a g := fun j d hj hl hd hf hni g hg ⟨t, ht, hto⟩ => by
        obtain ⟨j', hj', hd', hl'⟩ := hsrcL t (hC' i hin t ht).1
        exact inv.apart j j' d t hj hj' hl hl' hd hd' hf (hfreeS t (hC' i hin t ht).1) (fun e => hni (e ▸ ht)) g hg hto
      have dOf : ∀ d, dstAt ops i = some d → o.dst = some d := fun d hd => by rw [← hio]; exact hd
      refine ih _ _ _ ⟨inv.head.set hi hin, ?_, ?_, ?_, ?_, ?_, ?_, ?_⟩ ?_
      · exact inv.below.trans hb
      · cases o.dst <;> simp [Act.put, inv.size]
      · cases o.dst <;> simp [Act.put, inv.defers]
      · intro t ht
        have hne : o.dst ≠ some t := by
          rw [← hio]
          refine ht i hin ?_
          have : i < listed.size := by rw [hsz]; omega
          simp [this]
        have h1 : (a.put o.dst v).tmps[t]? = a.tmps[t]? := by
          cases hd : o.dst with
          | none => rfl
          | some d =>
            have : d ≠ t := fun e => hne (by rw [hd, e])
            simp [Act.put, Array.getElem?_setIfInBounds_ne this]
        rw [h1]
        refine inv.old t fun j hj hl => ht j hj (getD_set_true hl)
      · intro j d hj hl hd hf
        obtain ⟨hf1, hf2⟩ := free d hf
        by_cases e : j = i
        · subst e
          exact (hT d (dOf d hd)).1
        · rw [stay j d hj e hd]
          have hlj := was j e hl
          refine (T d).keep (inv.new j d hj hlj hd hf1) fun g hg => hu' g (inv.base j d hj hlj hd hf1 g hg).2 ?_
          exact clear j d hj hlj hd hf1 hf2 g hg
      · intro j d hj hl hd hf g hg
        obtain ⟨hf1, hf2⟩ := free d hf
        by_cases e : j = i
        · subst e
          obtain ⟨h1, h2⟩ := (hT d (dOf d hd)).2 g hg
          refine ⟨?_, h2⟩
          rcases h1 with h1 | h1
          · obtain ⟨t, ht, hto⟩ := (hmay g).1 h1
            exact (hbO t (hC' j hin t ht).1 g hto).1
          · exact Nat.le_trans inv.below.size h1
        · rw [stay j d hj e hd] at hg
          have := inv.base j d hj (was j e hl) hd hf1 g hg
          exact ⟨this.1, Nat.lt_of_lt_of_le this.2 hb.size⟩
      · intro j j' d d' hj hj' hl hl' hd hd' hf hf' hne g hg hg'
        obtain ⟨hf1, hf2⟩ := free d hf
        obtain ⟨hf1', hf2'⟩ := free d' hf'
        by_cases e : j = i
        · by_cases e' : j' = i
          · subst e; subst e'; rw [hd] at hd'; injection hd' with hd'; exact hne hd'
          · subst e
            rw [stay j' d' hj' e' hd'] at hg'
            have hlj := was j' e' hl'
            rcases ((hT d (dOf d hd)).2 g hg).1 with h1 | h1
            · exact clear j' d' hj' hlj hd' hf1' hf2' g hg' ((hmay g).1 h1)
            · have := (inv.base j' d' hj' hlj hd' hf1' g hg').2
              omega
        · rw [stay j d hj e hd] at hg
          have hlj := was j e hl
          by_cases e' : j' = i
          · subst e'
            rcases ((hT d' (dOf d' hd')).2 g hg').1 with h1 | h1
            · exact clear j d hj hlj hd hf1 hf2 g hg ((hmay g).1 h1)
            · have := (inv.base j d hj hlj hd hf1 g hg).2
              omega
          · rw [stay j' d' hj' e' hd'] at hg'
            exact inv.apart j j' d d' hj hj' hlj (was j' e' hl') hd hd' hf1 hf1' hne g hg hg'
      · have := (cnt_set hiu n).2 hin
        omega
    unfold wpOp
    simp only [ho]
    split
    · rename_i hw
      left
      unfold wpList at hW
      rw [← hwant, if_pos hw] at hW
      rcases hW with hW | ⟨_, hW⟩
      · refine wp_turnO hexec hsize (T := T) ?_ next
        rw [← hdef]
        exact hW
      · exact absurd hW postO_lets
    · rename_i hw
      unfold wpList at hW
      rw [← hwant, if_neg hw] at hW
      obtain ⟨_, h2, h3, h4⟩ := hW
      refine next undef w h2 h3 fun d hd => ?_
      have := h4 d hd
      rw [hd] at this ⊢
      rw [put_getD a _ d undef hsize]
      exact this
/-- One goal an operation. -/
def goalsO (P : Program) (ops : Array Oper) (T : Tmp → Tyo) (w0 : World) (a0 : Act) : List Oper → List (List Tmp) → List (List Tmp) → Prop
  | [], _, _ => True
  | o :: l, C, D => (∀ w, Below w0.heap.size w0 w → overO T w0.heap.size (D.headD []) a0 w (fun a => wpList P ops (PostO T (mayO T (C.headD []) a) w0.heap.size a0.defers o w) [o] a w)) ∧ goalsO P ops T w0 a0 l C.tail D.tail
theorem goalsO_at {a0 : Act} : ∀ (l : List Oper) (C D : List (List Tmp)), goalsO P ops T w0 a0 l C D → ∀ (i : Nat) (o : Oper), l[i]? = some o → ∀ w, Below w0.heap.size w0 w → overO T w0.heap.size (D.getD i []) a0 w (fun a => wpList P ops (PostO T (mayO T (C.getD i []) a) w0.heap.size a0.defers o w) [o] a w)
  | [], _, _, _, i, o, h => by cases h
  | o' :: l, C, D, hg, 0, o, h => by
    injection h with h
    subst h
    have := hg.1
    cases D <;> cases C <;> exact this
  | o' :: l, C, D, hg, i + 1, o, h => by
    have := goalsO_at l C.tail D.tail hg.2 i o (by simpa using h)
    cases D <;> cases C <;> exact this
/-- THE REGION, its first n operations one by one, the rest in the order of the text. -/
theorem wp_region_own {id : Nat} {a : Act} {w : World} {l : List Oper} (n : Nat) (L : List (Tmp × Tyo)) (C D : List (List Tmp)) (hm : P.follows .mixedOrders = true) (hB : regOK l.toArray D n = true) (hC : ownOK l.toArray C D n = true)
    (hg : goalsO P l.toArray (tyoOf L) w a (l.take n) C D)
    (hend : ∀ w' a', Below w.heap.size w w' → BehindO l.toArray n (tyoOf L) C w a w' a' → wpList P l.toArray Q (l.drop n) a' w') : (Code.region id l.toArray true).wp P Q a w := by
  have hn : n ≤ l.length := by
    have h := hB
    simp only [regOK, Bool.and_eq_true] at h
    have hE := h.1.2
    unfold endOK at hE
    split at hE
    · rename_i e; simp at e; omega
    · simp only [Bool.and_eq_true, decide_eq_true_eq, List.size_toArray] at hE; omega
  refine wp_region_any hm ?_
  have hno : ∀ j, (Array.replicate l.toArray.size false).getD j false = true → False := fun j hl => by rw [getD_replicate_false] at hl; cases hl
  have inv0 : RInvO l.toArray n (tyoOf L) C w a (Array.replicate l.toArray.size false) a { w with drawn := w.drawn + 1 } :=
    ⟨⟨by simp, fun j oj _ hl => (hno j hl).elim, fun t _ ht => getD_in (by simpa using ht) (getD_replicate_false _ _)⟩,
      ⟨rfl, rfl, rfl, Nat.le_refl _, fun _ _ => rfl⟩, rfl, rfl, fun _ _ => rfl, fun j d _ hl => (hno j hl).elim, fun j d _ hl => (hno j hl).elim, fun i j d d' _ _ hl => (hno i hl).elim⟩
  have := typed_anyO (P := P) (Q := Q) (n := n) hB hC (fun i o hi ho w' hb => goalsO_at (l.take n) C D hg i o (by rw [List.getElem?_take, if_pos hi]; simpa using ho) w' hb) (by simpa using hend) n _ a _ inv0 (cnt_fresh _ n (by simpa using hn))
  rwa [show n + (l.toArray.size - n) = l.toArray.size by simp; omega] at this
end
end Go.Proofs.Ytdkchiodepdclaa
