/- As in XReg2, where the first operations are loads that may come late: they are taken first ('held'), the rest one by one; what is stored at the end stands in order. No program is named here. -/
import Derived.Test.YtdkchiodepdclaaReg2
import Derived.OrdersHeld
namespace Go.Proofs.Ytdkchiodepdclaa
open Go.RowKit
def wpListS (P : Program) (ops : Array Oper) (S : World → Prop) (Q : Exit → Act → World → Prop) : List Oper → Act → World → Prop
  | [], a, w => Q .normal a w
  | o :: rest, a, w => if Region.wanted o (yielded ops a.tmps) then o.wp P a w (fun a' w' => S w' ∧ wpListS P ops S Q rest a' w') Q else S w ∧ wpListS P ops S Q rest (a.put o.dst undef) w
def reg3OK (ops : Array Oper) (D : List (List Tmp)) (k n : Nat) : Bool :=
  Region.noSelect ops && decide (n ≤ ops.size) && ((List.range n).all fun i => decide (i < k) || opOK ops D n i) &&
    ((List.range ops.size).all fun t => (List.range n).all fun i => decide (t < n) || decide (i < k) || Region.waitsFor .any ops t i) &&
    Region.seqB .any ops (ops.size - n) n ((Array.range ops.size).map fun i => decide (i < n))
theorem wpAnyH_of_seq {P : Program} {ops : Array Oper} {md : Region.Mode} {S : World → Prop} {Q' : Exit → Act → World → Prop} : ∀ (l : List Oper) (k : Nat) (listed : Array Bool) (a : Act) (w : World), (∀ j, l[j]? = ops[k + j]?) →
    Region.seqB md ops l.length k listed = true → wpListS P ops S Q' l a w → wpAnyH P md ops Q' S l.length listed a w
  | [], _, _, _, _, _, hB, h => ⟨by simpa [Region.seqB] using hB, h⟩
  | o :: l, k, listed, a, w, hl, hB, h => by
    have h0 : ops[k]? = some o := by simpa using (hl 0).symm
    simp only [List.length_cons, Region.seqB, Bool.and_eq_true, decide_eq_true_eq] at hB
    refine ⟨fun h1 => (by rw [hB.1] at h1; cases h1), fun i hi => ?_⟩
    rw [hB.1] at hi
    have hik : i = k := by simpa using hi
    subst hik
    have ih := fun a' w' (h' : wpListS P ops S Q' l a' w') => wpAnyH_of_seq (md := md) l (i + 1) (listed.setIfInBounds i true) a' w' (fun j => by have := hl (j + 1); simpa [Nat.add_assoc, Nat.add_comm 1 j] using this) hB.2 h'
    unfold wpListS at h
    unfold wpOp
    simp only [h0]
    split
    · rename_i hw
      rw [if_pos hw] at h
      exact .inl (Oper.wp_mono (fun a' w' h' => ⟨h'.1, ih a' w' h'.2⟩) h)
    · rename_i hw
      rw [if_neg hw] at h
      exact ⟨h.1, ih _ _ h.2⟩
section
variable {P : Program} {ops : Array Oper} {n : Nat} {T : Tmp → Ty} {F : Fr} {w0 : World} {a0 : Act} {Q : Exit → Act → World → Prop}
theorem typed_any3 {k : Nat} {S : World → Prop} {D : List (List Tmp)} (hB : reg3OK ops D k n = true) (hS : ∀ w, Below w0.heap.size w0 w → S w)
    (hgoal : ∀ i o, k ≤ i → i < n → ops[i]? = some o → ∀ w, Below w0.heap.size w0 w → over T (D.getD i []) a0 w (fun a => wpList P ops (Post2 T F a0.defers o w) [o] a w))
    (hend : ∀ w a, Below w0.heap.size w0 w → Behind2 ops n T F w0 a0 w a → wpListS P ops S Q (ops.toList.drop n) a w) :
    ∀ (m : Nat) (listed : Array Bool) (a : Act) (w : World), RInv2 ops n T F w0 a0 listed a w → (∀ i, i < k → listed.getD i true = true) → cnt listed n = m → wpAnyH P .any ops Q S (m + (ops.size - n)) listed a w := by
  simp only [reg3OK, Bool.and_eq_true, decide_eq_true_eq] at hB
  obtain ⟨⟨⟨⟨hsel, hns⟩, hO⟩, hW⟩, hQ3⟩ := hB
  have hO' : ∀ i, k ≤ i → i < n → opOK ops D n i = true := fun i hk hi => by
    have := List.all_eq_true.1 hO i (List.mem_range.2 hi)
    simpa [Nat.not_lt.2 hk] using this
  intro m
  induction m with
  | zero =>
    intro listed a w inv hpre hc
    have hall := cnt_zero n hc
    have hsz := inv.head.size
    have hin : ∀ i, i < n → listed.getD i false = true := fun i hi => by
      have := hall i hi
      have hi' : i < listed.size := by omega
      simpa [hi'] using this
    have H : wpListS P ops S Q (ops.toList.drop n) a w := by
      refine hend w a inv.below ⟨⟨inv.size, inv.defers, fun t hm => ?_, fun d hd => ?_⟩, fun d hd g hg => ?_, fun d hd d' hd' hne g hg => ?_⟩
      · refine inv.old t fun j hj hl hd => hm ?_
        unfold dstAt at hd
        cases ho : ops[j]? with
        | none => rw [ho] at hd; cases hd
        | some o =>
          rw [ho] at hd
          refine List.mem_filterMap.2 ⟨o, ?_, hd⟩
          exact List.mem_of_getElem? (i := j) (by rw [List.getElem?_take, if_pos hj]; simpa using ho)
      · obtain ⟨j, hj, hjd⟩ := dsts_at hd
        exact inv.new j d hj (hin j hj) hjd
      · obtain ⟨j, hj, hjd⟩ := dsts_at hd
        exact inv.base j d hj (hin j hj) hjd g hg
      · obtain ⟨j, hj, hjd⟩ := dsts_at hd
        obtain ⟨j', hj', hjd'⟩ := dsts_at hd'
        refine inv.apart j j' d d' hj hj' (hin j hj) (hin j' hj') (fun e => hne ?_) hjd hjd' g hg
        subst e
        rw [hjd] at hjd'
        injection hjd'
    have hl : listed = (Array.range ops.size).map fun i => decide (i < n) := by
      apply Array.ext
      · simp [hsz]
      · intro i h1 h2
        simp only [Array.getElem_map, Array.getElem_range]
        by_cases hin' : i < n
        · have := hall i hin'
          simpa [h1, hin'] using this
        · have := inv.head.tail i (by omega) (by omega)
          simpa [h1, hin'] using this
    have hseq : Region.seqB .any ops (ops.toList.drop n).length n listed = true := by
      have hlen : (ops.toList.drop n).length = ops.size - n := by simp
      rw [hlen]
      rw [hl]
      exact hQ3
    have hlen : (ops.toList.drop n).length = ops.size - n := by simp
    have := wpAnyH_of_seq (md := .any) (Q' := Q) (ops.toList.drop n) n listed a w (fun j => by simp [List.getElem?_drop]) hseq H
    rw [hlen] at this
    rw [Nat.zero_add]
    exact this
  | succ m ih =>
    intro listed a w inv hpre hc
    have hsz := inv.head.size
    obtain ⟨i0, hi0, hu0, hlow⟩ := cnt_least n (show cnt listed n ≠ 0 by omega)
    have hk0 : k ≤ i0 := by
      rcases Nat.lt_or_ge i0 k with h | h
      · rw [hpre i0 h] at hu0; cases hu0
      · exact h
    have hready0 : i0 ∈ Region.ready .any ops listed := by
      have hOi := hO' i0 hk0 hi0
      unfold opOK at hOi
      refine mem_ready.2 ⟨hu0, ?_⟩
      cases ho : ops[i0]? with
      | none => rw [ho] at hOi; cases hOi
      | some o =>
        rw [ho] at hOi
        simp only [Bool.and_eq_true] at hOi
        refine ⟨o, rfl, fun e he hb => ?_⟩
        have h1 := Array.all_eq_true'.1 hOi.1.1.1 e he
        simp only [hb, Bool.not_true, Bool.false_or, decide_eq_true_eq] at h1
        have h2 := hlow e.on h1
        have h3 : e.on < listed.size := by omega
        simpa [h3] using h2
    rw [show m + 1 + (ops.size - n) = (m + (ops.size - n)) + 1 by omega]
    refine ⟨fun h => (by rw [h] at hready0; cases hready0), fun i hi => ?_⟩
    have hin : i < n := by
      rcases Nat.lt_or_ge i n with h | h
      · exact h
      · obtain ⟨_, o, ho, hall⟩ := mem_ready.1 hi
        have hlt := (Array.getElem?_eq_some_iff.1 ho).1
        have h1 := List.all_eq_true.1 (List.all_eq_true.1 hW i (List.mem_range.2 hlt)) i0 (List.mem_range.2 hi0)
        simp only [Bool.or_eq_true, decide_eq_true_eq] at h1
        rcases h1 with (h1 | h1) | h1
        · omega
        · omega
        · have := waits_listed ho hall h1
          rw [getD_both hu0] at this
          cases this
    obtain ⟨hiu, o, ho, hall⟩ := mem_ready.1 hi
    have hik : k ≤ i := by
      rcases Nat.lt_or_ge i k with h | h
      · rw [hpre i h] at hiu; cases hiu
      · exact h
    have hOi := hO' i hik hin
    unfold opOK at hOi
    rw [ho] at hOi
    simp only [Bool.and_eq_true] at hOi
    obtain ⟨⟨⟨_, hlook⟩, hsrc⟩, hdis⟩ := hOi
    have hdst : ∀ j, j < n → i ≠ j → ∀ d, dstAt ops i = some d → dstAt ops j ≠ some d := fun j hj hne d hd e => by
      have := List.all_eq_true.1 hdis j (List.mem_range.2 hj)
      rw [hd, e] at this
      simp [hne] at this
    have hio : dstAt ops i = o.dst := by unfold dstAt; rw [ho]; rfl
    have hsrcL : ∀ t ∈ D.getD i [], ∃ j, j < n ∧ dstAt ops j = some t ∧ listed.getD j false = true := fun t ht => by
      obtain ⟨j, hj, h2⟩ := List.any_eq_true.1 (List.all_eq_true.1 hsrc t ht)
      simp only [Bool.and_eq_true, beq_iff_eq] at h2
      exact ⟨j, List.mem_range.1 hj, h2.1, waits_listed ho hall h2.2⟩
    have hbT : ∀ t ∈ D.getD i [], (T t).holds (a.tmps.getD t undef) w := fun t ht => by
      obtain ⟨j, hj, hd, hl⟩ := hsrcL t ht
      exact inv.new j t hj hl hd
    have hW := over_fill (K := fun b => wpList P ops (Post2 T F a0.defers o w) [o] b w) (f := fun t => a.tmps.getD t undef) _ a0 hbT (hgoal i o hik hin ho w inv.below)
    have hget : ∀ t ∈ o.looksAt ops, a.tmps[t]? = (fill (fun t => a.tmps.getD t undef) (D.getD i []) a0).tmps[t]? := fun t ht => by
      by_cases hm : t ∈ D.getD i []
      · by_cases hlt : t < a.tmps.size
        · rw [fill_in _ _ _ _ (by rw [← inv.size]; exact hlt) (.inl hm), get_fill hlt]
        · rw [Array.getElem?_eq_none (Nat.not_lt.1 hlt), Array.getElem?_eq_none (by rw [fill_size, ← inv.size]; exact Nat.not_lt.1 hlt)]
      · rw [fill_out _ _ _ _ hm]
        refine inv.old t fun j hj hl hd => ?_
        have h1 := List.all_eq_true.1 (List.all_eq_true.1 hlook t ht) j (List.mem_range.2 hj)
        simp only [hd, bne_self_eq_false, Bool.false_or, Bool.or_eq_true, Bool.and_eq_true] at h1
        rcases h1 with h1 | h1
        · exact hm (by simpa using h1.2)
        · obtain ⟨oj, hoj, e, he, hb, hon⟩ := Region.waitsFor_spec h1
          have := inv.head.closed j oj hoj hl e he hb
          rw [hon, getD_both hiu] at this
          cases this
    have hexec : execOp a.eval o = execOp (fill (fun t => a.tmps.getD t undef) (D.getD i []) a0).eval o :=
      execOp_congr o (fun cs b => Region.noSelect_spec hsel i o cs b ho) fun x hx => by
        cases x with
        | tmp t =>
          have : t ∈ o.looksAt ops := List.mem_append_left _ (List.mem_filterMap.2 ⟨.tmp t, by simpa using hx, rfl⟩)
          exact getD_of_get (hget t this)
        | _ => rfl
    have hwant : Region.wanted o (yielded ops a.tmps) = Region.wanted o (yielded ops (fill (fun t => a.tmps.getD t undef) (D.getD i []) a0).tmps) := by
      unfold Region.wanted
      cases hg : o.guard with
      | none => rfl
      | some gw =>
        obtain ⟨g, want⟩ := gw
        have hy : yielded ops a.tmps g = yielded ops (fill (fun t => a.tmps.getD t undef) (D.getD i []) a0).tmps g := by
          unfold yielded
          cases ht : (ops[g]?).bind (·.dst) with
          | none => rfl
          | some t =>
            simp only [Option.bind_some]
            rw [hget t (List.mem_append_right _ (by simp [hg, ht]))]
        simp only [hy]
    have hsize : a.tmps.size = (fill (fun t => a.tmps.getD t undef) (D.getD i []) a0).tmps.size := by rw [fill_size]; exact inv.size
    have hdef : a0.defers = (fill (fun t => a.tmps.getD t undef) (D.getD i []) a0).defers := by rw [fill_defers]
    have next : ∀ v w', Below w.heap.size w w' → (∀ d, o.dst = some d → (T d).holds ((a.put o.dst v).tmps.getD d undef) w' ∧ ∀ g, F d ((a.put o.dst v).tmps.getD d undef) g → w.heap.size ≤ g ∧ g < w'.heap.size) → S w' ∧ wpAnyH P .any ops Q S (m + (ops.size - n)) (listed.setIfInBounds i true) (a.put o.dst v) w' := by
      intro v w' hb hT
      have hoth : ∀ j d, j < n → i ≠ j → dstAt ops j = some d → (a.put o.dst v).tmps.getD d undef = a.tmps.getD d undef := fun j d hj hne hd => by
        have h1 : (a.put o.dst v).tmps[d]? = a.tmps[d]? := by
          cases hod : o.dst with
          | none => rfl
          | some d' =>
            have : d' ≠ d := fun e' => hdst j hj hne d (by rw [hio, hod, e']) hd
            simp [Act.put, Array.getElem?_setIfInBounds_ne this]
        exact getD_of_get h1
      refine ⟨hS _ (inv.below.trans (hb.mono inv.below.size)), ih _ _ _ ⟨⟨inv.head.set hi hin, ?_, ?_, ?_, ?_, ?_⟩, ?_, ?_⟩ (fun j hj => ?_) ?_⟩
      · exact inv.below.trans (hb.mono inv.below.size)
      · cases o.dst <;> simp [Act.put, inv.size]
      · cases o.dst <;> simp [Act.put, inv.defers]
      · intro t ht
        have hne : o.dst ≠ some t := by
          rw [← hio]
          refine ht i hin ?_
          have : i < listed.size := by rw [hsz]; omega
          simp [this]
        have h1 : (a.put o.dst v).tmps[t]? = a.tmps[t]? := by
          cases hd : o.dst with
          | none => rfl
          | some d =>
            have : d ≠ t := fun e => hne (by rw [hd, e])
            simp [Act.put, Array.getElem?_setIfInBounds_ne this]
        rw [h1]
        refine inv.old t fun j hj hl => ht j hj (getD_set_true hl)
      · intro j d hj hl hd
        by_cases e : i = j
        · subst e
          exact (hT d (by rw [← hio]; exact hd)).1
        · rw [hoth j d hj e hd]
          rw [getD_set_ne false e] at hl
          exact (T d).keep (inv.new j d hj hl hd) hb
      · intro j d hj hl hd g hg
        by_cases e : i = j
        · subst e
          have := (hT d (by rw [← hio]; exact hd)).2 g hg
          have := inv.below.size
          omega
        · rw [hoth j d hj e hd] at hg
          rw [getD_set_ne false e] at hl
          have := inv.base j d hj hl hd g hg
          have := hb.size
          omega
      · intro j1 j2 d d' hj1 hj2 hl1 hl2 hne hd hd' g hg hg'
        by_cases e1 : i = j1
        · have e2 : i ≠ j2 := fun e => hne (e1.symm.trans e)
          subst e1
          rw [hoth j2 d' hj2 e2 hd'] at hg'
          rw [getD_set_ne false e2] at hl2
          have h1 := (hT d (by rw [← hio]; exact hd)).2 g hg
          have h2 := inv.base j2 d' hj2 hl2 hd' g hg'
          omega
        · rw [hoth j1 d hj1 e1 hd] at hg
          rw [getD_set_ne false e1] at hl1
          by_cases e2 : i = j2
          · subst e2
            have h1 := (hT d' (by rw [← hio]; exact hd')).2 g hg'
            have h2 := inv.base j1 d hj1 hl1 hd g hg
            omega
          · rw [hoth j2 d' hj2 e2 hd'] at hg'
            rw [getD_set_ne false e2] at hl2
            exact inv.apart j1 j2 d d' hj1 hj2 hl1 hl2 hne hd hd' g hg hg'
      · have := hpre j hj
        by_cases e : i = j
        · subst e
          have : i < listed.size := by rw [hsz]; omega
          simp [this]
        · rw [getD_set_ne true e]; exact this
      · have := (cnt_set hiu n).2 hin
        omega
    unfold wpOp
    simp only [ho]
    split
    · rename_i hw
      left
      unfold wpList at hW
      rw [← hwant, if_pos hw] at hW
      rcases hW with hW | ⟨_, hW⟩
      · refine wp_turn2 hexec hsize (T := T) (F := F) ?_ next
        rw [← hdef]
        exact hW
      · exact absurd hW post2_lets
    · rename_i hw
      unfold wpList at hW
      rw [← hwant, if_neg hw] at hW
      obtain ⟨_, h2, h3⟩ := hW
      refine next undef w h2 fun d hd => ?_
      have := h3 d hd
      rw [hd] at this ⊢
      rw [put_getD a _ d undef hsize]
      exact this

end
end Go.Proofs.Ytdkchiodepdclaa
