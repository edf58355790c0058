/- A region in the text's order, walked ONE OPERATION AT A TIME as XReg's drawn ones: each operation's value is told by a type; no branch of one operation is another one's. No program is named here. -/
import Derived.Test.YtdkchiodepdclaaReg
namespace Go.Proofs.Ytdkchiodepdclaa
open Go.RowKit
def rowAt (ops : Array Oper) (D : List (List Tmp)) (n i : Nat) : Bool := match ops[i]? with
  | none => false
  | some o =>
    ((o.looksAt ops).all fun t => (List.range i).all fun j => dstAt ops j != some t || (D.getD i []).contains t) &&
    ((D.getD i []).all fun t => (List.range i).any fun j => dstAt ops j == some t) &&
    ((List.range n).all fun j => i == j || dstAt ops i == none || dstAt ops i != dstAt ops j)
def rowOK (ops : Array Oper) (D : List (List Tmp)) (n : Nat) : Bool := Region.noSelect ops && decide (n ≤ ops.size) && (List.range n).all (rowAt ops D n)
section
variable {P : Program} {ops : Array Oper} {n : Nat} {T : Tmp → Ty} {w0 : World} {a0 : Act} {Q : Exit → Act → World → Prop}
structure SInv (ops : Array Oper) (T : Tmp → Ty) (w0 : World) (a0 : Act) (i : Nat) (a : Act) (w : World) : Prop where
  below : Below w0.heap.size w0 w
  size : a.tmps.size = a0.tmps.size
  defers : a.defers = a0.defers
  old : ∀ t, (∀ j, j < i → dstAt ops j ≠ some t) → a.tmps[t]? = a0.tmps[t]?
  new : ∀ j d, j < i → dstAt ops j = some d → (T d).holds (a.tmps.getD d undef) w
theorem row_any {D : List (List Tmp)} (hB : rowOK ops D n = true)
    (hgoal : ∀ i o, i < n → ops[i]? = some o → ∀ w, Below w0.heap.size w0 w → over T (D.getD i []) a0 w (fun a => wpList P ops (Post T a0.defers o w) [o] a w))
    (hend : ∀ w a, Below w0.heap.size w0 w → Behind ops n T a0 w a → wpList P ops Q (ops.toList.drop n) a w) :
    ∀ (m i : Nat) (a : Act) (w : World), SInv ops T w0 a0 i a w → i + m = n → wpList P ops Q (ops.toList.drop i) a w := by
  simp only [rowOK, Bool.and_eq_true, decide_eq_true_eq] at hB
  obtain ⟨⟨hsel, hns⟩, hO⟩ := hB
  have hO' : ∀ i, i < n → rowAt ops D n i = true := fun i hi => List.all_eq_true.1 hO i (List.mem_range.2 hi)
  intro m
  induction m with
  | zero =>
    intro i a w inv hi
    obtain rfl : i = n := by omega
    refine hend w a inv.below ⟨inv.size, inv.defers, fun t hm => ?_, fun d hd => ?_⟩
    · refine inv.old t fun j hj hd => hm ?_
      unfold dstAt at hd
      cases ho : ops[j]? with
      | none => rw [ho] at hd; cases hd
      | some o =>
        rw [ho] at hd
        refine List.mem_filterMap.2 ⟨o, ?_, hd⟩
        exact List.mem_of_getElem? (i := j) (by rw [List.getElem?_take, if_pos hj]; simpa using ho)
    · obtain ⟨o, ho, hod⟩ := List.mem_filterMap.1 hd
      obtain ⟨j, hj⟩ := List.mem_iff_getElem?.1 ho
      rw [List.getElem?_take] at hj
      split at hj
      · rename_i hjn
        exact inv.new j d hjn (by unfold dstAt; rw [show ops[j]? = some o by simpa using hj]; exact hod)
      · cases hj
  | succ m ih =>
    intro i a w inv hi
    have hin : i < n := by omega
    have his : i < ops.size := by omega
    obtain ⟨o, ho⟩ : ∃ o, ops[i]? = some o := ⟨ops[i], by simp [his]⟩
    have hdrop : ops.toList.drop i = o :: ops.toList.drop (i + 1) := by
      rw [List.drop_eq_getElem_cons (by simpa using his)]
      congr 1
      have := (Array.getElem?_eq_some_iff.1 ho).2
      simpa using this
    have hOi := hO' i hin
    unfold rowAt at hOi
    rw [ho] at hOi
    simp only [Bool.and_eq_true] at hOi
    obtain ⟨⟨hlook, hsrc⟩, hdis⟩ := hOi
    have hdst : ∀ j, j < n → i ≠ j → ∀ d, dstAt ops i = some d → dstAt ops j ≠ some d := fun j hj hne d hd e => by
      have := List.all_eq_true.1 hdis j (List.mem_range.2 hj)
      rw [hd, e] at this
      simp [hne] at this
    have hio : dstAt ops i = o.dst := by unfold dstAt; rw [ho]; rfl
    have hbT : ∀ t ∈ D.getD i [], (T t).holds (a.tmps.getD t undef) w := fun t ht => by
      obtain ⟨j, hj, h2⟩ := List.any_eq_true.1 (List.all_eq_true.1 hsrc t ht)
      exact inv.new j t (List.mem_range.1 hj) (by simpa using h2)
    have hW := over_fill (K := fun b => wpList P ops (Post T a0.defers o w) [o] b w) (f := fun t => a.tmps.getD t undef) _ a0 hbT (hgoal i o hin ho w inv.below)
    have hget : ∀ t ∈ o.looksAt ops, a.tmps[t]? = (fill (fun t => a.tmps.getD t undef) (D.getD i []) a0).tmps[t]? := fun t ht => by
      by_cases hm : t ∈ D.getD i []
      · by_cases hlt : t < a.tmps.size
        · rw [fill_in _ _ _ _ (by rw [← inv.size]; exact hlt) (.inl hm), get_fill hlt]
        · rw [Array.getElem?_eq_none (Nat.not_lt.1 hlt), Array.getElem?_eq_none (by rw [fill_size, ← inv.size]; exact Nat.not_lt.1 hlt)]
      · rw [fill_out _ _ _ _ hm]
        refine inv.old t fun j hj hd => ?_
        have h1 := List.all_eq_true.1 (List.all_eq_true.1 hlook t ht) j (List.mem_range.2 hj)
        simp only [hd, bne_self_eq_false, Bool.false_or] at h1
        exact hm (by simpa using h1)
    have hexec : execOp a.eval o = execOp (fill (fun t => a.tmps.getD t undef) (D.getD i []) a0).eval o :=
      execOp_congr o (fun cs b => Region.noSelect_spec hsel i o cs b ho) fun x hx => by
        cases x with
        | tmp t =>
          have : t ∈ o.looksAt ops := List.mem_append_left _ (List.mem_filterMap.2 ⟨.tmp t, by simpa using hx, rfl⟩)
          exact getD_of_get (hget t this)
        | _ => rfl
    have hwant : Region.wanted o (yielded ops a.tmps) = Region.wanted o (yielded ops (fill (fun t => a.tmps.getD t undef) (D.getD i []) a0).tmps) := by
      unfold Region.wanted
      cases hg : o.guard with
      | none => rfl
      | some gw =>
        obtain ⟨g, want⟩ := gw
        have hy : yielded ops a.tmps g = yielded ops (fill (fun t => a.tmps.getD t undef) (D.getD i []) a0).tmps g := by
          unfold yielded
          cases ht : (ops[g]?).bind (·.dst) with
          | none => rfl
          | some t =>
            simp only [Option.bind_some]
            rw [hget t (List.mem_append_right _ (by simp [hg, ht]))]
        simp only [hy]
    have hsize : a.tmps.size = (fill (fun t => a.tmps.getD t undef) (D.getD i []) a0).tmps.size := by rw [fill_size]; exact inv.size
    have hdef : a0.defers = (fill (fun t => a.tmps.getD t undef) (D.getD i []) a0).defers := by rw [fill_defers]
    have next : ∀ v w', Below w.heap.size w w' → (∀ d, o.dst = some d → (T d).holds ((a.put o.dst v).tmps.getD d undef) w') → wpList P ops Q (ops.toList.drop (i + 1)) (a.put o.dst v) w' := by
      intro v w' hb hT
      refine ih _ _ _ ⟨?_, ?_, ?_, ?_, ?_⟩ (by omega)
      · exact inv.below.trans (hb.mono inv.below.size)
      · cases o.dst <;> simp [Act.put, inv.size]
      · cases o.dst <;> simp [Act.put, inv.defers]
      · intro t ht
        have hne : o.dst ≠ some t := by
          rw [← hio]
          exact ht i (by omega)
        have h1 : (a.put o.dst v).tmps[t]? = a.tmps[t]? := by
          cases hd : o.dst with
          | none => rfl
          | some d =>
            have : d ≠ t := fun e => hne (by rw [hd, e])
            simp [Act.put, Array.getElem?_setIfInBounds_ne this]
        rw [h1]
        exact inv.old t fun j hj => ht j (by omega)
      · intro j d hj hd
        by_cases e : i = j
        · subst e
          exact hT d (by rw [← hio]; exact hd)
        · have h1 : (a.put o.dst v).tmps[d]? = a.tmps[d]? := by
            cases hod : o.dst with
            | none => rfl
            | some d' =>
              have : d' ≠ d := fun e' => hdst j (by omega) e d (by rw [hio, hod, e']) hd
              simp [Act.put, Array.getElem?_setIfInBounds_ne this]
          rw [getD_of_get h1]
          exact (T d).keep (inv.new j d (by omega) hd) hb
    rw [hdrop]
    unfold wpList
    split
    · rename_i hw
      left
      unfold wpList at hW
      rw [← hwant, if_pos hw] at hW
      rcases hW with hW | ⟨_, hW⟩
      · refine wp_turn hexec hsize (T := T) ?_ next
        rw [← hdef]
        exact hW
      · exact absurd hW post_lets
    · rename_i hw
      unfold wpList at hW
      rw [← hwant, if_neg hw] at hW
      obtain ⟨_, h2, h3⟩ := hW
      refine next undef w h2 fun d hd => ?_
      have := h3 d hd
      rw [hd] at this ⊢
      rw [put_getD a _ d undef hsize]
      exact this
/-- THE REGION IN ITS ORDER, its first n operations one by one, the rest as ever; the frame stays a letter. -/
theorem wp_region_row_end {id : Nat} {a : Act} {w : World} {l : List Oper} (n : Nat) (L : List (Tmp × Ty)) (D : List (List Tmp)) (hB : rowOK l.toArray D n = true)
    (hg : goals P l.toArray (tyOf L) w a (l.take n) D)
    (hend : ∀ w' a', Below w.heap.size w w' → Behind l.toArray n (tyOf L) a w' a' → wpList P l.toArray Q (l.drop n) a' w') : (Code.region id l.toArray false).wp P Q a w := by
  refine wp_region_lit ?_
  have h0 : SInv l.toArray (tyOf L) w a 0 a w := ⟨Below.refl _ _, rfl, rfl, fun _ _ => rfl, fun _ _ h => absurd h (Nat.not_lt_zero _)⟩
  have := row_any (Q := Q) hB (fun i o hi ho => goals_at (l.take n) D hg i o (by rw [List.getElem?_take, if_pos hi]; simpa using ho)) (fun w' a' hb hB => by simpa using hend w' a' hb hB) n 0 a w h0 (by omega)
  simpa using this
theorem wp_region_row {id : Nat} {a : Act} {w : World} {l : List Oper} (n : Nat) (L : List (Tmp × Ty)) (D : List (List Tmp)) (hB : rowOK l.toArray D n = true)
    (hg : goals P l.toArray (tyOf L) w a (l.take n) D)
    (hend : ∀ w', Below w.heap.size w w' → over (tyOf L) (dstsOf (l.take n)) a w' (fun a => wpList P l.toArray Q (l.drop n) a w')) : (Code.region id l.toArray false).wp P Q a w :=
  wp_region_row_end n L D hB hg fun w' a' hb hB => by
    have e := behind_fill hB
    rw [e]
    exact over_fill (K := fun a => wpList P l.toArray Q (l.drop n) a w') _ a (fun d hd => hB.new d hd) (by simpa using hend w' hb)
end
end Go.Proofs.Ytdkchiodepdclaa
