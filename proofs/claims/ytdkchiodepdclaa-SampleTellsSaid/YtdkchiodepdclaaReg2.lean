/- As in XReg, where some operations' values own new blocks: those of two such operations are apart. No program is named here. -/
import Derived.Test.YtdkchiodepdclaaReg
namespace Go.Proofs.Ytdkchiodepdclaa
open Go.RowKit

abbrev Fr := Tmp → Value → Nat → Prop
/-- What one operation must come to: its type; the blocks that its value owns are new. -/
def Post2 (T : Tmp → Ty) (F : Fr) (D : List Deferred) (o : Oper) (w : World) : Exit → Act → World → Prop
  | .normal, a, w' => a.defers = D ∧ Below w.heap.size w w' ∧ ∀ d, o.dst = some d → (T d).holds (a.tmps.getD d undef) w' ∧ ∀ g, F d (a.tmps.getD d undef) g → w.heap.size ≤ g ∧ g < w'.heap.size
  | _, _, _ => False
theorem post2_of {T : Tmp → Ty} {F : Fr} {D : List Deferred} {o : Oper} {w w' : World} {a : Act} {d : Tmp} (hd : o.dst = some d) (h1 : a.defers = D) (hb : Below w.heap.size w w') (h2 : (T d).holds (a.tmps.getD d undef) w') (h3 : ∀ g, F d (a.tmps.getD d undef) g → w.heap.size ≤ g ∧ g < w'.heap.size) : Post2 T F D o w .normal a w' :=
  ⟨h1, hb, fun e he => by rw [hd] at he; injection he with he; subst he; exact ⟨h2, h3⟩⟩
theorem post2_lets {T : Tmp → Ty} {F : Fr} {D : List Deferred} {o : Oper} {w : World} : ¬ LetsOut (Post2 T F D o w) := fun ⟨_, _, h⟩ => h

theorem wp_turn2 {P : Program} {T : Tmp → Ty} {F : Fr} {o : Oper} {a b : Act} {w : World} {K : Act → World → Prop} {Q : Exit → Act → World → Prop} (he : execOp a.eval o = execOp b.eval o) (hs : a.tmps.size = b.tmps.size)
    (h : o.wp P b w (fun a' w' => Post2 T F b.defers o w .normal a' w') (Post2 T F b.defers o w))
    (hK : ∀ v w', Below w.heap.size w w' → (∀ d, o.dst = some d → (T d).holds ((a.put o.dst v).tmps.getD d undef) w' ∧ ∀ g, F d ((a.put o.dst v).tmps.getD d undef) g → w.heap.size ≤ g ∧ g < w'.heap.size) → K (a.put o.dst v) w') : o.wp P a w K Q := by
  have key : ∀ v w', Post2 T F b.defers o w .normal (b.put o.dst v) w' → K (a.put o.dst v) w' := fun v w' ⟨_, h2, h3⟩ =>
    hK v w' h2 fun d hd => by
      have := h3 d hd
      rw [hd] at this ⊢
      rw [put_getD a b d v hs]
      exact this
  unfold Oper.wp at *
  rw [he]
  generalize (execOp b.eval o).run P w = r at *
  cases r with
  | ok n w' =>
    cases n <;> simp only [Oper.upon] at h ⊢
    case value v => exact key _ _ h
    case skip => exact key _ _ h
    case defer d =>
      have h1 := h.1
      cases ho : o.dst <;> simp [ho, Act.put] at h1
    case enter f args =>
      refine Calls.mono h fun e w'' he => ?_
      cases e with
      | returned v => exact key _ _ he
      | panicked c => exact he.elim
      | outgrown => exact absurd he post2_lets
    case row r args => exact Rows.mono h fun v w'' hv => key _ _ hv
  | halt x w' =>
    cases x <;> simp only [Oper.upon] at h ⊢
    exact h.elim

section
variable {P : Program} {ops : Array Oper} {n : Nat} {T : Tmp → Ty} {F : Fr} {w0 : World} {a0 : Act} {Q : Exit → Act → World → Prop}

structure RInv2 (ops : Array Oper) (n : Nat) (T : Tmp → Ty) (F : Fr) (w0 : World) (a0 : Act) (listed : Array Bool) (a : Act) (w : World) : Prop extends RInv ops n T w0 a0 listed a w where
  base : ∀ j d, j < n → listed.getD j false = true → dstAt ops j = some d → ∀ g, F d (a.tmps.getD d undef) g → w0.heap.size ≤ g ∧ g < w.heap.size
  apart : ∀ i j d d', i < n → j < n → listed.getD i false = true → listed.getD j false = true → i ≠ j → dstAt ops i = some d → dstAt ops j = some d' → ∀ g, F d (a.tmps.getD d undef) g → ¬ F d' (a.tmps.getD d' undef) g

structure Behind2 (ops : Array Oper) (n : Nat) (T : Tmp → Ty) (F : Fr) (w0 : World) (a0 : Act) (w : World) (a : Act) : Prop extends Behind ops n T a0 w a where
  base : ∀ d ∈ dstsOf (ops.toList.take n), ∀ g, F d (a.tmps.getD d undef) g → w0.heap.size ≤ g ∧ g < w.heap.size
  apart : ∀ d ∈ dstsOf (ops.toList.take n), ∀ d' ∈ dstsOf (ops.toList.take n), d ≠ d' → ∀ g, F d (a.tmps.getD d undef) g → ¬ F d' (a.tmps.getD d' undef) g

theorem dsts_at {d : Tmp} (hd : d ∈ dstsOf (ops.toList.take n)) : ∃ j, j < n ∧ dstAt ops j = some d := by
  obtain ⟨o, ho, hod⟩ := List.mem_filterMap.1 hd
  obtain ⟨j, hj⟩ := List.mem_iff_getElem?.1 ho
  rw [List.getElem?_take] at hj
  split at hj
  · rename_i hjn
    exact ⟨j, hjn, by unfold dstAt; rw [show ops[j]? = some o by simpa using hj]; exact hod⟩
  · cases hj

theorem typed_any2 {D : List (List Tmp)} (hB : regOK ops D n = true)
    (hgoal : ∀ i o, i < n → ops[i]? = some o → ∀ w, Below w0.heap.size w0 w → over T (D.getD i []) a0 w (fun a => wpList P ops (Post2 T F a0.defers o w) [o] a w))
    (hend : ∀ w a, Below w0.heap.size w0 w → Behind2 ops n T F w0 a0 w a → wpList P ops Q (ops.toList.drop n) a w) :
    ∀ (m : Nat) (listed : Array Bool) (a : Act) (w : World), RInv2 ops n T F w0 a0 listed a w → cnt listed n = m → wpAny P .any ops Q (m + (ops.size - n)) listed a w := by
  simp only [regOK, Bool.and_eq_true] at hB
  obtain ⟨⟨hsel, hE⟩, hO⟩ := hB
  have hO' : ∀ i, i < n → opOK ops D n i = true := fun i hi => List.all_eq_true.1 hO i (List.mem_range.2 hi)
  have hns : n ≤ ops.size := by
    unfold endOK at hE
    split at hE
    · omega
    · simp only [Bool.and_eq_true, decide_eq_true_eq] at hE; omega
  intro m
  induction m with
  | zero =>
    intro listed a w inv hc
    have hall := cnt_zero n hc
    have hsz := inv.head.size
    have hin : ∀ i, i < n → listed.getD i false = true := fun i hi => by
      have := hall i hi
      have hi' : i < listed.size := by omega
      simpa [hi'] using this
    have H : wpList P ops Q (ops.toList.drop n) a w := by
      refine hend w a inv.below ⟨⟨inv.size, inv.defers, fun t hm => ?_, fun d hd => ?_⟩, fun d hd g hg => ?_, fun d hd d' hd' hne g hg => ?_⟩
      · refine inv.old t fun j hj hl hd => hm ?_
        unfold dstAt at hd
        cases ho : ops[j]? with
        | none => rw [ho] at hd; cases hd
        | some o =>
          rw [ho] at hd
          refine List.mem_filterMap.2 ⟨o, ?_, hd⟩
          exact List.mem_of_getElem? (i := j) (by rw [List.getElem?_take, if_pos hj]; simpa using ho)
      · obtain ⟨j, hj, hjd⟩ := dsts_at hd
        exact inv.new j d hj (hin j hj) hjd
      · obtain ⟨j, hj, hjd⟩ := dsts_at hd
        exact inv.base j d hj (hin j hj) hjd g hg
      · obtain ⟨j, hj, hjd⟩ := dsts_at hd
        obtain ⟨j', hj', hjd'⟩ := dsts_at hd'
        refine inv.apart j j' d d' hj hj' (hin j hj) (hin j' hj') (fun e => hne ?_) hjd hjd' g hg
        subst e
        rw [hjd] at hjd'
        injection hjd'
    have hl : listed = (Array.range ops.size).map fun i => decide (i < n) := by
      apply Array.ext
      · simp [hsz]
      · intro i h1 h2
        simp only [Array.getElem_map, Array.getElem_range]
        by_cases hin' : i < n
        · have := hall i hin'
          simpa [h1, hin'] using this
        · have := inv.head.tail i (by omega) (by omega)
          simpa [h1, hin'] using this
    have hseq : Region.seqB .any ops (ops.toList.drop n).length n listed = true := by
      have hlen : (ops.toList.drop n).length = ops.size - n := by simp
      rw [hlen]
      by_cases hne : n = ops.size
      · have h0 : ops.size - n = 0 := by omega
        rw [h0]
        simp only [Region.seqB, List.isEmpty_iff]
        rw [List.eq_nil_iff_forall_not_mem]
        intro i hi
        obtain ⟨h1, o, ho, _⟩ := mem_ready.1 hi
        have := (Array.getElem?_eq_some_iff.1 ho).1
        rw [hall i (by omega)] at h1
        cases h1
      · unfold endOK at hE
        rw [if_neg hne] at hE
        simp only [Bool.and_eq_true] at hE
        rw [hl]
        exact hE.2
    have hlen : (ops.toList.drop n).length = ops.size - n := by simp
    have := wpAny_of_seq (md := .any) (Q' := Q) (ops.toList.drop n) n listed a w (fun j => by simp [List.getElem?_drop]) hseq H
    rw [hlen] at this
    rw [Nat.zero_add]
    exact this
  | succ m ih =>
    intro listed a w inv hc
    have hsz := inv.head.size
    obtain ⟨i0, hi0, hu0, hlow⟩ := cnt_least n (show cnt listed n ≠ 0 by omega)
    have hready0 : i0 ∈ Region.ready .any ops listed := by
      have hOi := hO' i0 hi0
      unfold opOK at hOi
      refine mem_ready.2 ⟨hu0, ?_⟩
      cases ho : ops[i0]? with
      | none => rw [ho] at hOi; cases hOi
      | some o =>
        rw [ho] at hOi
        simp only [Bool.and_eq_true] at hOi
        refine ⟨o, rfl, fun e he hb => ?_⟩
        have h1 := Array.all_eq_true'.1 hOi.1.1.1 e he
        simp only [hb, Bool.not_true, Bool.false_or, decide_eq_true_eq] at h1
        have h2 := hlow e.on h1
        have h3 : e.on < listed.size := by omega
        simpa [h3] using h2
    rw [show m + 1 + (ops.size - n) = (m + (ops.size - n)) + 1 by omega]
    refine ⟨fun h => (by rw [h] at hready0; cases hready0), fun i hi => ?_⟩
    have hin : i < n := by
      rcases Nat.lt_or_ge i n with h | h
      · exact h
      · obtain ⟨_, o, ho, _⟩ := mem_ready.1 hi
        have hlt := (Array.getElem?_eq_some_iff.1 ho).1
        unfold endOK at hE
        by_cases hne : n = ops.size
        · omega
        · rw [if_neg hne] at hE
          simp only [Bool.and_eq_true, decide_eq_true_eq] at hE
          exact absurd hi (tail_waits hE.1.1.2 hE.1.2 hE.1.1.1 inv.head _ i0 rfl hi0 hu0 i h)
    obtain ⟨hiu, o, ho, hall⟩ := mem_ready.1 hi
    have hOi := hO' i hin
    unfold opOK at hOi
    rw [ho] at hOi
    simp only [Bool.and_eq_true] at hOi
    obtain ⟨⟨⟨_, hlook⟩, hsrc⟩, hdis⟩ := hOi
    have hdst : ∀ j, j < n → i ≠ j → ∀ d, dstAt ops i = some d → dstAt ops j ≠ some d := fun j hj hne d hd e => by
      have := List.all_eq_true.1 hdis j (List.mem_range.2 hj)
      rw [hd, e] at this
      simp [hne] at this
    have hio : dstAt ops i = o.dst := by unfold dstAt; rw [ho]; rfl
    have hsrcL : ∀ t ∈ D.getD i [], ∃ j, j < n ∧ dstAt ops j = some t ∧ listed.getD j false = true := fun t ht => by
      obtain ⟨j, hj, h2⟩ := List.any_eq_true.1 (List.all_eq_true.1 hsrc t ht)
      simp only [Bool.and_eq_true, beq_iff_eq] at h2
      exact ⟨j, List.mem_range.1 hj, h2.1, waits_listed ho hall h2.2⟩
    have hbT : ∀ t ∈ D.getD i [], (T t).holds (a.tmps.getD t undef) w := fun t ht => by
      obtain ⟨j, hj, hd, hl⟩ := hsrcL t ht
      exact inv.new j t hj hl hd
    have hW := over_fill (K := fun b => wpList P ops (Post2 T F a0.defers o w) [o] b w) (f := fun t => a.tmps.getD t undef) _ a0 hbT (hgoal i o hin ho w inv.below)
    have hget : ∀ t ∈ o.looksAt ops, a.tmps[t]? = (fill (fun t => a.tmps.getD t undef) (D.getD i []) a0).tmps[t]? := fun t ht => by
      by_cases hm : t ∈ D.getD i []
      · by_cases hlt : t < a.tmps.size
        · rw [fill_in _ _ _ _ (by rw [← inv.size]; exact hlt) (.inl hm), get_fill hlt]
        · rw [Array.getElem?_eq_none (Nat.not_lt.1 hlt), Array.getElem?_eq_none (by rw [fill_size, ← inv.size]; exact Nat.not_lt.1 hlt)]
      · rw [fill_out _ _ _ _ hm]
        refine inv.old t fun j hj hl hd => ?_
        have h1 := List.all_eq_true.1 (List.all_eq_true.1 hlook t ht) j (List.mem_range.2 hj)
        simp only [hd, bne_self_eq_false, Bool.false_or, Bool.or_eq_true, Bool.and_eq_true] at h1
        rcases h1 with h1 | h1
        · exact hm (by simpa using h1.2)
        · obtain ⟨oj, hoj, e, he, hb, hon⟩ := Region.waitsFor_spec h1
          have := inv.head.closed j oj hoj hl e he hb
          rw [hon, getD_both hiu] at this
          cases this
    have hexec : execOp a.eval o = execOp (fill (fun t => a.tmps.getD t undef) (D.getD i []) a0).eval o :=
      execOp_congr o (fun cs b => Region.noSelect_spec hsel i o cs b ho) fun x hx => by
        cases x with
        | tmp t =>
          have : t ∈ o.looksAt ops := List.mem_append_left _ (List.mem_filterMap.2 ⟨.tmp t, by simpa using hx, rfl⟩)
          exact getD_of_get (hget t this)
        | _ => rfl
    have hwant : Region.wanted o (yielded ops a.tmps) = Region.wanted o (yielded ops (fill (fun t => a.tmps.getD t undef) (D.getD i []) a0).tmps) := by
      unfold Region.wanted
      cases hg : o.guard with
      | none => rfl
      | some gw =>
        obtain ⟨g, want⟩ := gw
        have hy : yielded ops a.tmps g = yielded ops (fill (fun t => a.tmps.getD t undef) (D.getD i []) a0).tmps g := by
          unfold yielded
          cases ht : (ops[g]?).bind (·.dst) with
          | none => rfl
          | some t =>
            simp only [Option.bind_some]
            rw [hget t (List.mem_append_right _ (by simp [hg, ht]))]
        simp only [hy]
    have hsize : a.tmps.size = (fill (fun t => a.tmps.getD t undef) (D.getD i []) a0).tmps.size := by rw [fill_size]; exact inv.size
    have hdef : a0.defers = (fill (fun t => a.tmps.getD t undef) (D.getD i []) a0).defers := by rw [fill_defers]
    have next : ∀ v w', Below w.heap.size w w' → (∀ d, o.dst = some d → (T d).holds ((a.put o.dst v).tmps.getD d undef) w' ∧ ∀ g, F d ((a.put o.dst v).tmps.getD d undef) g → w.heap.size ≤ g ∧ g < w'.heap.size) → wpAny P .any ops Q (m + (ops.size - n)) (listed.setIfInBounds i true) (a.put o.dst v) w' := by
      intro v w' hb hT
      have hoth : ∀ j d, j < n → i ≠ j → dstAt ops j = some d → (a.put o.dst v).tmps.getD d undef = a.tmps.getD d undef := fun j d hj hne hd => by
        have h1 : (a.put o.dst v).tmps[d]? = a.tmps[d]? := by
          cases hod : o.dst with
          | none => rfl
          | some d' =>
            have : d' ≠ d := fun e' => hdst j hj hne d (by rw [hio, hod, e']) hd
            simp [Act.put, Array.getElem?_setIfInBounds_ne this]
        exact getD_of_get h1
      refine ih _ _ _ ⟨⟨inv.head.set hi hin, ?_, ?_, ?_, ?_, ?_⟩, ?_, ?_⟩ ?_
      · exact inv.below.trans (hb.mono inv.below.size)
      · cases o.dst <;> simp [Act.put, inv.size]
      · cases o.dst <;> simp [Act.put, inv.defers]
      · intro t ht
        have hne : o.dst ≠ some t := by
          rw [← hio]
          refine ht i hin ?_
          have : i < listed.size := by rw [hsz]; omega
          simp [this]
        have h1 : (a.put o.dst v).tmps[t]? = a.tmps[t]? := by
          cases hd : o.dst with
          | none => rfl
          | some d =>
            have : d ≠ t := fun e => hne (by rw [hd, e])
            simp [Act.put, Array.getElem?_setIfInBounds_ne this]
        rw [h1]
        refine inv.old t fun j hj hl => ht j hj (getD_set_true hl)
      · intro j d hj hl hd
        by_cases e : i = j
        · subst e
          exact (hT d (by rw [← hio]; exact hd)).1
        · rw [hoth j d hj e hd]
          rw [getD_set_ne false e] at hl
          exact (T d).keep (inv.new j d hj hl hd) hb
      · intro j d hj hl hd g hg
        by_cases e : i = j
        · subst e
          have := (hT d (by rw [← hio]; exact hd)).2 g hg
          have := inv.below.size
          omega
        · rw [hoth j d hj e hd] at hg
          rw [getD_set_ne false e] at hl
          have := inv.base j d hj hl hd g hg
          have := hb.size
          omega
      · intro j1 j2 d d' hj1 hj2 hl1 hl2 hne hd hd' g hg hg'
        by_cases e1 : i = j1
        · have e2 : i ≠ j2 := fun e => hne (e1.symm.trans e)
          subst e1
          rw [hoth j2 d' hj2 e2 hd'] at hg'
          rw [getD_set_ne false e2] at hl2
          have h1 := (hT d (by rw [← hio]; exact hd)).2 g hg
          have h2 := inv.base j2 d' hj2 hl2 hd' g hg'
          omega
        · rw [hoth j1 d hj1 e1 hd] at hg
          rw [getD_set_ne false e1] at hl1
          by_cases e2 : i = j2
          · subst e2
            have h1 := (hT d' (by rw [← hio]; exact hd')).2 g hg'
            have h2 := inv.base j1 d hj1 hl1 hd g hg
            omega
          · rw [hoth j2 d' hj2 e2 hd'] at hg'
            rw [getD_set_ne false e2] at hl2
            exact inv.apart j1 j2 d d' hj1 hj2 hl1 hl2 hne hd hd' g hg hg'
      · have := (cnt_set hiu n).2 hin
        omega
    unfold wpOp
    simp only [ho]
    split
    · rename_i hw
      left
      unfold wpList at hW
      rw [← hwant, if_pos hw] at hW
      rcases hW with hW | ⟨_, hW⟩
      · refine wp_turn2 hexec hsize (T := T) (F := F) ?_ next
        rw [← hdef]
        exact hW
      · exact absurd hW post2_lets
    · rename_i hw
      unfold wpList at hW
      rw [← hwant, if_neg hw] at hW
      obtain ⟨_, h2, h3⟩ := hW
      refine next undef w h2 fun d hd => ?_
      have := h3 d hd
      rw [hd] at this ⊢
      rw [put_getD a _ d undef hsize]
      exact this

/-- One goal an operation. -/
def goals2 (P : Program) (ops : Array Oper) (T : Tmp → Ty) (F : Fr) (w0 : World) (a0 : Act) : List Oper → List (List Tmp) → Prop
  | [], _ => True
  | o :: l, D => (∀ w, Below w0.heap.size w0 w → over T (D.headD []) a0 w (fun a => wpList P ops (Post2 T F a0.defers o w) [o] a w)) ∧ goals2 P ops T F w0 a0 l D.tail
theorem goals2_at {a0 : Act} : ∀ (l : List Oper) (D : List (List Tmp)), goals2 P ops T F w0 a0 l D → ∀ (i : Nat) (o : Oper), l[i]? = some o → ∀ w, Below w0.heap.size w0 w → over T (D.getD i []) a0 w (fun a => wpList P ops (Post2 T F a0.defers o w) [o] a w)
  | [], _, _, i, o, h => by cases h
  | o' :: l, D, hg, 0, o, h => by
    injection h with h
    subst h
    have := hg.1
    cases D <;> exact this
  | o' :: l, D, hg, i + 1, o, h => by
    have := goals2_at l D.tail hg.2 i o (by simpa using h)
    cases D with
    | nil => exact this
    | cons x D => exact this

theorem wp_region_typed2 {id : Nat} {a : Act} {w : World} {l : List Oper} (n : Nat) (L : List (Tmp × Ty)) (F : Fr) (D : List (List Tmp)) (hm : P.follows .mixedOrders = true) (hB : regOK l.toArray D n = true)
    (hg : goals2 P l.toArray (tyOf L) F w a (l.take n) D)
    (hend : ∀ w' a', Below w.heap.size w w' → Behind2 l.toArray n (tyOf L) F w a w' a' → wpList P l.toArray Q (l.drop n) a' w') : (Code.region id l.toArray true).wp P Q a w := by
  have hn : n ≤ l.length := by
    have h := hB
    simp only [regOK, Bool.and_eq_true] at h
    have hE := h.1.2
    unfold endOK at hE
    split at hE
    · rename_i e; simp at e; omega
    · simp only [Bool.and_eq_true, decide_eq_true_eq, List.size_toArray] at hE; omega
  refine wp_region_any hm ?_
  have inv0 : RInv2 l.toArray n (tyOf L) F w a (Array.replicate l.toArray.size false) a { w with drawn := w.drawn + 1 } :=
    ⟨⟨⟨by simp, fun j oj _ hl => (by rw [getD_replicate_false] at hl; cases hl), fun t _ ht => getD_in (by simpa using ht) (getD_replicate_false _ _)⟩,
      ⟨rfl, rfl, rfl, Nat.le_refl _, fun _ _ => rfl⟩, rfl, rfl, fun _ _ => rfl, fun j d _ hl => (by rw [getD_replicate_false] at hl; cases hl)⟩,
      fun j d _ hl => (by rw [getD_replicate_false] at hl; cases hl), fun i j d d' _ _ hl => (by rw [getD_replicate_false] at hl; cases hl)⟩
  have := typed_any2 (P := P) (Q := Q) (n := n) hB (fun i o hi ho w' hb => goals2_at (l.take n) D hg i o (by rw [List.getElem?_take, if_pos hi]; simpa using ho) w' hb) (by simpa using hend) n _ a _ inv0 (cnt_fresh _ n (by simpa using hn))
  rwa [show n + (l.toArray.size - n) = l.toArray.size by simp; omega] at this
/-- Out of what is known of a frame behind the region: the frame written out. -/
theorem behind2_over {a a' : Act} {w' : World} {L : List (Tmp × Ty)} {l : List Oper} {K : Act → Prop} (hB : Behind2 l.toArray n (tyOf L) F w0 a w' a') (h : over (tyOf L) (dstsOf (l.take n)) a w' K) : K a' := by
  have e := behind_fill hB.toBehind
  rw [e]
  exact over_fill (K := K) _ a (fun d hd => hB.new d hd) (by simpa using h)
end
end Go.Proofs.Ytdkchiodepdclaa
