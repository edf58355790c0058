/- A region as XReg's, where ONE operation of the first n (a value taken out of a call's results) may come behind the store that ends the region: 'x, ok := f(a[i])' with x in memory. No program is named here. -/
import Derived.Test.YtkdlgejkgcojkaaDoorReg6
namespace Go.Proofs.YtkdlgejkgcojkaaDoor
open Go.RowKit
structure BehindL (l : List Oper) (T : Tmp → Ty) (a0 : Act) (w : World) (a : Act) : Prop where
  size : a.tmps.size = a0.tmps.size
  defers : a.defers = a0.defers
  old : ∀ t, t ∉ dstsOf l → a.tmps[t]? = a0.tmps[t]?
  new : ∀ d ∈ dstsOf l, (T d).holds (a.tmps.getD d undef) w
theorem behindL_fill {l : List Oper} {T : Tmp → Ty} {a0 a : Act} {w : World} (h : BehindL l T a0 w a) : a = fill (fun t => a.tmps.getD t undef) (dstsOf l) a0 := by
  have hd : a.defers = (fill (fun t => a.tmps.getD t undef) (dstsOf l) a0).defers := by rw [fill_defers]; exact h.defers
  have ht : a.tmps = (fill (fun t => a.tmps.getD t undef) (dstsOf l) a0).tmps := by
    apply Array.ext_getElem?
    intro t
    by_cases hm : t ∈ dstsOf l
    · by_cases hlt : t < a.tmps.size
      · rw [fill_in _ _ _ _ (by rw [← h.size]; exact hlt) (.inl hm), get_fill hlt]
      · rw [Array.getElem?_eq_none (by omega), Array.getElem?_eq_none (by rw [fill_size, ← h.size]; omega)]
    · rw [fill_out _ _ _ _ hm]
      exact h.old t hm
  cases a; cases hf : fill _ _ _; rw [hf] at hd ht; cases hd; cases ht; rfl
theorem cnt_all {listed : Array Bool} : ∀ n, (∀ i, i < n → listed.getD i true = true) → cnt listed n = 0
  | 0, _ => rfl
  | k + 1, h => by
    simp only [cnt]
    rw [cnt_all k (fun i hi => h i (by omega)), h k (by omega)]
    rfl
def lateOK (ops : Array Oper) (D : List (List Tmp)) (n e : Nat) : Bool :=
  Region.noSelect ops && decide (n < ops.size) && decide (e < n) && (List.range n).all (opOK ops D n) &&
  Region.seqB .any ops (ops.size - n) n ((Array.range ops.size).map fun i => decide (i < n)) &&
  ((List.range ops.size).all fun t => decide (t < n) || (List.range n).all fun j => j == e || Region.waitsFor .any ops t j) &&
  ((List.range ops.size).all fun t => decide (t ≤ n) || Region.waitsFor .any ops t n) &&
  decide (Region.ready .any ops ((Array.range ops.size).map fun i => decide (i ≤ n) && (i != e)) = [e]) &&
  Region.seqB .any ops (ops.size - n - 1) (n + 1) ((Array.range ops.size).map fun i => decide (i ≤ n))
section
variable {P : Program} {ops : Array Oper} {n : Nat} {T : Tmp → Ty} {w0 : World} {a0 : Act} {Q : Exit → Act → World → Prop}
theorem typed_late {D : List (List Tmp)} {e : Nat} {on oe : Oper} (hB : lateOK ops D n e = true) (hon : ops[n]? = some on) (hoe : ops[e]? = some oe)
    (hgoal : ∀ i o, i < n → ops[i]? = some o → ∀ w, Below w0.heap.size w0 w → over T (D.getD i []) a0 w (fun a => wpList P ops (Post T a0.defers o w) [o] a w))
    (hend : ∀ w a, Below w0.heap.size w0 w → Behind ops n T a0 w a → wpList P ops Q (ops.toList.drop n) a w)
    (hend2 : ∀ w a, Below w0.heap.size w0 w → BehindL ((ops.toList.take n).eraseIdx e) T a0 w a → wpList P ops Q (on :: oe :: ops.toList.drop (n + 1)) a w) :
    ∀ (m : Nat) (listed : Array Bool) (a : Act) (w : World), RInv ops n T w0 a0 listed a w → cnt listed n = m → wpAny P .any ops Q (m + (ops.size - n)) listed a w := by
  simp only [lateOK, Bool.and_eq_true, decide_eq_true_eq] at hB
  obtain ⟨⟨⟨⟨⟨⟨⟨⟨hsel, hns'⟩, hen⟩, hO⟩, hseq0⟩, hwt⟩, hwn⟩, hrd⟩, hseq1⟩ := hB
  have hO' : ∀ i, i < n → opOK ops D n i = true := fun i hi => List.all_eq_true.1 hO i (List.mem_range.2 hi)
  have hns : n ≤ ops.size := by omega
  intro m
  induction m with
  | zero =>
    intro listed a w inv hc
    have hall := cnt_zero n hc
    have hsz := inv.head.size
    have hin : ∀ i, i < n → listed.getD i false = true := fun i hi => by
      have := hall i hi
      have hi' : i < listed.size := by omega
      simpa [hi'] using this
    have H : wpList P ops Q (ops.toList.drop n) a w := by
      refine hend w a inv.below ⟨inv.size, inv.defers, fun t hm => ?_, fun d hd => ?_⟩
      · refine inv.old t fun j hj hl hd => hm ?_
        unfold dstAt at hd
        cases ho : ops[j]? with
        | none => rw [ho] at hd; cases hd
        | some o =>
          rw [ho] at hd
          refine List.mem_filterMap.2 ⟨o, ?_, hd⟩
          exact List.mem_of_getElem? (i := j) (by rw [List.getElem?_take, if_pos hj]; simpa using ho)
      · obtain ⟨o, ho, hod⟩ := List.mem_filterMap.1 hd
        obtain ⟨j, hj⟩ := List.mem_iff_getElem?.1 ho
        rw [List.getElem?_take] at hj
        split at hj
        · rename_i hjn
          exact inv.new j d hjn (hin j hjn) (by unfold dstAt; rw [show ops[j]? = some o by simpa using hj]; exact hod)
        · cases hj
    have hl : listed = (Array.range ops.size).map fun i => decide (i < n) := by
      apply Array.ext
      · simp [hsz]
      · intro i h1 h2
        simp only [Array.getElem_map, Array.getElem_range]
        by_cases hin' : i < n
        · have := hall i hin'
          simpa [h1, hin'] using this
        · have := inv.head.tail i (by omega) (by omega)
          simpa [h1, hin'] using this
    have hseq : Region.seqB .any ops (ops.toList.drop n).length n listed = true := by
      have hlen : (ops.toList.drop n).length = ops.size - n := by simp
      rw [hlen, hl]
      exact hseq0
    have hlen : (ops.toList.drop n).length = ops.size - n := by simp
    have := wpAny_of_seq (md := .any) (Q' := Q) (ops.toList.drop n) n listed a w (fun j => by simp [List.getElem?_drop]) hseq H
    rw [hlen] at this
    rw [Nat.zero_add]
    exact this
  | succ m ih =>
    intro listed a w inv hc
    have hsz := inv.head.size
    obtain ⟨i0, hi0, hu0, hlow⟩ := cnt_least n (show cnt listed n ≠ 0 by omega)
    have hready0 : i0 ∈ Region.ready .any ops listed := by
      have hOi := hO' i0 hi0
      unfold opOK at hOi
      refine mem_ready.2 ⟨hu0, ?_⟩
      cases ho : ops[i0]? with
      | none => rw [ho] at hOi; cases hOi
      | some o =>
        rw [ho] at hOi
        simp only [Bool.and_eq_true] at hOi
        refine ⟨o, rfl, fun e he hb => ?_⟩
        have h1 := Array.all_eq_true'.1 hOi.1.1.1 e he
        simp only [hb, Bool.not_true, Bool.false_or, decide_eq_true_eq] at h1
        have h2 := hlow e.on h1
        have h3 : e.on < listed.size := by omega
        simpa [h3] using h2
    rw [show m + 1 + (ops.size - n) = (m + (ops.size - n)) + 1 by omega]
    refine ⟨fun h => (by rw [h] at hready0; cases hready0), fun i hi => ?_⟩
    rcases Nat.lt_or_ge i n with hin | hge
    case inr =>
      obtain ⟨hiu, o, ho, hall⟩ := mem_ready.1 hi
      have his : i < ops.size := (Array.getElem?_eq_some_iff.1 ho).1
      have hwt' : ∀ j, j < n → j ≠ e → listed.getD j false = true := fun j hj hne => by
        have h1 := List.all_eq_true.1 hwt i (List.mem_range.2 his)
        simp only [Bool.or_eq_true, decide_eq_true_eq] at h1
        have h2 := List.all_eq_true.1 (h1.resolve_left (by omega)) j (List.mem_range.2 hj)
        simp only [Bool.or_eq_true, beq_iff_eq] at h2
        exact waits_listed ho hall (h2.resolve_left hne)
      have hin' : i = n := by
        rcases Nat.eq_or_lt_of_le hge with h | h
        · exact h.symm
        · have h1 := List.all_eq_true.1 hwn i (List.mem_range.2 his)
          simp only [Bool.or_eq_true, decide_eq_true_eq] at h1
          have h2 := waits_listed ho hall (h1.resolve_left (by omega))
          have h3 := inv.head.tail n (Nat.le_refl _) (by omega)
          rw [getD_both h3] at h2
          cases h2
      subst hin'
      obtain rfl : on = o := Option.some.inj (hon.symm.trans ho)
      have hel : listed.getD e false = false := by
        have he0 : i0 = e := by
          by_cases h : i0 = e
          · exact h
          · have h1 := hwt' i0 hi0 h
            have hlt : i0 < listed.size := by omega
            simp [hlt] at h1 hu0
            rw [h1] at hu0
            cases hu0
        subst he0
        have hlt : i0 < listed.size := by omega
        simpa [hlt] using hu0
      have hm0 : m = 0 := by
        have hlt : e < listed.size := by omega
        have h1 := (cnt_set (listed := listed) (i := e) (by simpa [hlt] using hel) i).2 hen
        have h2 := cnt_all (listed := listed.setIfInBounds e true) i (fun j hj => by
          have hjl : j < listed.size := by omega
          by_cases hje : e = j
          · subst hje; simp [hjl]
          · rw [getD_set_ne true hje]
            have := hwt' j hj (fun h => hje h.symm)
            simpa [hjl] using this)
        omega
      subst hm0
      have hl2 : listed.setIfInBounds i true = (Array.range ops.size).map fun k => decide (k ≤ i) && (k != e) := by
        apply Array.ext
        · simp [hsz]
        · intro k h1 h2
          have hkl : k < listed.size := by simpa using h1
          rw [Array.getElem_setIfInBounds hkl]
          simp only [Array.getElem_map, Array.getElem_range]
          split
          · rename_i hik
            subst hik
            simp; omega
          · rename_i hik
            have hlk : listed[k] = listed.getD k false := by simp [hkl]
            rw [hlk]
            rcases Nat.lt_or_ge k i with hki | hki
            · by_cases hke : k = e
              · subst hke
                rw [hel]; simp
              · rw [hwt' k hki hke]
                simp [hke]; omega
            · rw [getD_both (inv.head.tail k hki (by omega))]
              have hne : i < k := by omega
              simp; omega
      have hl3 : (listed.setIfInBounds i true).setIfInBounds e true = (Array.range ops.size).map fun k => decide (k ≤ i) := by
        rw [hl2]
        apply Array.ext
        · simp
        · intro k h1 h2
          have hk : k < ops.size := by simpa using h2
          rw [Array.getElem_setIfInBounds (by simpa using hk)]
          simp only [Array.getElem_map, Array.getElem_range]
          split
          · rename_i hek
            subst hek
            simp; omega
          · rename_i hek
            have : (k != e) = true := by simpa using fun h => hek h.symm
            rw [this, Bool.and_true]
      have hW := hend2 w a inv.below ⟨inv.size, inv.defers, fun t hm => ?_, fun d hd => ?_⟩
      rotate_left
      · refine inv.old t fun j hj hl hd => hm ?_
        have hje : j ≠ e := fun h => by subst h; rw [hel] at hl; cases hl
        unfold dstAt at hd
        cases hoj : ops[j]? with
        | none => rw [hoj] at hd; cases hd
        | some o' =>
          rw [hoj] at hd
          refine List.mem_filterMap.2 ⟨o', ?_, hd⟩
          rw [List.mem_eraseIdx_iff_getElem?]
          exact ⟨j, hje, by rw [List.getElem?_take, if_pos hj]; simpa using hoj⟩
      · obtain ⟨o', ho', hod⟩ := List.mem_filterMap.1 hd
        rw [List.mem_eraseIdx_iff_getElem?] at ho'
        obtain ⟨j, hje, hj⟩ := ho'
        rw [List.getElem?_take] at hj
        split at hj
        · rename_i hjn
          exact inv.new j d hjn (hwt' j hjn hje) (by unfold dstAt; rw [show ops[j]? = some o' by simpa using hj]; exact hod)
        · cases hj
      have hw1 : wpOp P ops Q i (wpList P ops Q (oe :: ops.toList.drop (i + 1))) a w := by unfold wpOp; simp only [ho]; exact hW
      refine wpOp_mono (fun a' w' h' => ?_) hw1
      rw [show 0 + (ops.size - i) = (ops.size - i - 1) + 1 by omega]
      have hrd' : Region.ready .any ops (listed.setIfInBounds i true) = [e] := by rw [hl2]; exact hrd
      refine ⟨fun h => (by rw [hrd'] at h; cases h), fun k hk => ?_⟩
      rw [hrd'] at hk
      obtain rfl : k = e := by simpa using hk
      have hw2 : wpOp P ops Q k (wpList P ops Q (ops.toList.drop (i + 1))) a' w' := by unfold wpOp; simp only [hoe]; exact h'
      refine wpOp_mono (fun a'' w'' h'' => ?_) hw2
      have hlen : (ops.toList.drop (i + 1)).length = ops.size - i - 1 := by simp; omega
      have := wpAny_of_seq (md := .any) (Q' := Q) (ops.toList.drop (i + 1)) (i + 1) ((listed.setIfInBounds i true).setIfInBounds k true) a'' w'' (fun j => by simp [List.getElem?_drop]) (by rw [hlen, hl3]; exact hseq1) h''
      rwa [hlen] at this
    case inl =>
      obtain ⟨hiu, o, ho, hall⟩ := mem_ready.1 hi
      have hOi := hO' i hin
      unfold opOK at hOi
      rw [ho] at hOi
      simp only [Bool.and_eq_true] at hOi
      obtain ⟨⟨⟨_, hlook⟩, hsrc⟩, hdis⟩ := hOi
      have hdst : ∀ j, j < n → i ≠ j → ∀ d, dstAt ops i = some d → dstAt ops j ≠ some d := fun j hj hne d hd e => by
        have := List.all_eq_true.1 hdis j (List.mem_range.2 hj)
        rw [hd, e] at this
        simp [hne] at this
      have hio : dstAt ops i = o.dst := by unfold dstAt; rw [ho]; rfl
      have hsrcL : ∀ t ∈ D.getD i [], ∃ j, j < n ∧ dstAt ops j = some t ∧ listed.getD j false = true := fun t ht => by
        obtain ⟨j, hj, h2⟩ := List.any_eq_true.1 (List.all_eq_true.1 hsrc t ht)
        simp only [Bool.and_eq_true, beq_iff_eq] at h2
        exact ⟨j, List.mem_range.1 hj, h2.1, waits_listed ho hall h2.2⟩
      have hbT : ∀ t ∈ D.getD i [], (T t).holds (a.tmps.getD t undef) w := fun t ht => by
        obtain ⟨j, hj, hd, hl⟩ := hsrcL t ht
        exact inv.new j t hj hl hd
      have hW := over_fill (K := fun b => wpList P ops (Post T a0.defers o w) [o] b w) (f := fun t => a.tmps.getD t undef) _ a0 hbT (hgoal i o hin ho w inv.below)
      have hget : ∀ t ∈ o.looksAt ops, a.tmps[t]? = (fill (fun t => a.tmps.getD t undef) (D.getD i []) a0).tmps[t]? := fun t ht => by
        by_cases hm : t ∈ D.getD i []
        · by_cases hlt : t < a.tmps.size
          · rw [fill_in _ _ _ _ (by rw [← inv.size]; exact hlt) (.inl hm), get_fill hlt]
          · rw [Array.getElem?_eq_none (Nat.not_lt.1 hlt), Array.getElem?_eq_none (by rw [fill_size, ← inv.size]; exact Nat.not_lt.1 hlt)]
        · rw [fill_out _ _ _ _ hm]
          refine inv.old t fun j hj hl hd => ?_
          have h1 := List.all_eq_true.1 (List.all_eq_true.1 hlook t ht) j (List.mem_range.2 hj)
          simp only [hd, bne_self_eq_false, Bool.false_or, Bool.or_eq_true, Bool.and_eq_true] at h1
          rcases h1 with h1 | h1
          · exact hm (by simpa using h1.2)
          · obtain ⟨oj, hoj, e, he, hb, hon⟩ := Region.waitsFor_spec h1
            have := inv.head.closed j oj hoj hl e he hb
            rw [hon, getD_both hiu] at this
            cases this
      have hexec : execOp a.eval o = execOp (fill (fun t => a.tmps.getD t undef) (D.getD i []) a0).eval o :=
        execOp_congr o (fun cs b => Region.noSelect_spec hsel i o cs b ho) fun x hx => by
          cases x with
          | tmp t =>
            have : t ∈ o.looksAt ops := List.mem_append_left _ (List.mem_filterMap.2 ⟨.tmp t, by simpa using hx, rfl⟩)
            exact getD_of_get (hget t this)
          | _ => rfl
      have hwant : Region.wanted o (yielded ops a.tmps) = Region.wanted o (yielded ops (fill (fun t => a.tmps.getD t undef) (D.getD i []) a0).tmps) := by
        unfold Region.wanted
        cases hg : o.guard with
        | none => rfl
        | some gw =>
          obtain ⟨g, want⟩ := gw
          have hy : yielded ops a.tmps g = yielded ops (fill (fun t => a.tmps.getD t undef) (D.getD i []) a0).tmps g := by
            unfold yielded
            cases ht : (ops[g]?).bind (·.dst) with
            | none => rfl
            | some t =>
              simp only [Option.bind_some]
              rw [hget t (List.mem_append_right _ (by simp [hg, ht]))]
          simp only [hy]
      have hsize : a.tmps.size = (fill (fun t => a.tmps.getD t undef) (D.getD i []) a0).tmps.size := by rw [fill_size]; exact inv.size
      have hdef : a0.defers = (fill (fun t => a.tmps.getD t undef) (D.getD i []) a0).defers := by rw [fill_defers]
      -- what is known behind the operation
      have next : ∀ v w', Below w.heap.size w w' → (∀ d, o.dst = some d → (T d).holds ((a.put o.dst v).tmps.getD d undef) w') → wpAny P .any ops Q (m + (ops.size - n)) (listed.setIfInBounds i true) (a.put o.dst v) w' := by
        intro v w' hb hT
        refine ih _ _ _ ⟨inv.head.set hi hin, ?_, ?_, ?_, ?_, ?_⟩ ?_
        · exact inv.below.trans (hb.mono inv.below.size)
        · cases o.dst <;> simp [Act.put, inv.size]
        · cases o.dst <;> simp [Act.put, inv.defers]
        · intro t ht
          have hne : o.dst ≠ some t := by
            rw [← hio]
            refine ht i hin ?_
            have : i < listed.size := by rw [hsz]; omega
            simp [this]
          have h1 : (a.put o.dst v).tmps[t]? = a.tmps[t]? := by
            cases hd : o.dst with
            | none => rfl
            | some d =>
              have : d ≠ t := fun e => hne (by rw [hd, e])
              simp [Act.put, Array.getElem?_setIfInBounds_ne this]
          rw [h1]
          refine inv.old t fun j hj hl => ht j hj (getD_set_true hl)
        · intro j d hj hl hd
          by_cases e : i = j
          · subst e
            exact hT d (by rw [← hio]; exact hd)
          · have h1 : (a.put o.dst v).tmps[d]? = a.tmps[d]? := by
              cases hod : o.dst with
              | none => rfl
              | some d' =>
                have : d' ≠ d := fun e' => hdst j hj e d (by rw [hio, hod, e']) hd
                simp [Act.put, Array.getElem?_setIfInBounds_ne this]
            rw [getD_of_get h1]
            rw [getD_set_ne false e] at hl
            exact (T d).keep (inv.new j d hj hl hd) hb
        · have := (cnt_set hiu n).2 hin
          omega
      unfold wpOp
      simp only [ho]
      split
      · rename_i hw
        left
        unfold wpList at hW
        rw [← hwant, if_pos hw] at hW
        rcases hW with hW | ⟨_, hW⟩
        · refine wp_turn hexec hsize (T := T) ?_ next
          rw [← hdef]
          exact hW
        · exact absurd hW post_lets
      · rename_i hw
        unfold wpList at hW
        rw [← hwant, if_neg hw] at hW
        obtain ⟨_, h2, h3⟩ := hW
        refine next undef w h2 fun d hd => ?_
        have := h3 d hd
        rw [hd] at this ⊢
        rw [put_getD a _ d undef hsize]
        exact this

theorem wp_region_late {id : Nat} {a : Act} {w : World} {l : List Oper} (n e : Nat) (on oe : Oper) (L : List (Tmp × Ty)) (D : List (List Tmp)) (hm : P.follows .mixedOrders = true) (hB : lateOK l.toArray D n e = true)
    (hon : l[n]? = some on) (hoe : l[e]? = some oe)
    (hg : goals P l.toArray (tyOf L) w a (l.take n) D)
    (hend : ∀ w', Below w.heap.size w w' → over (tyOf L) (dstsOf (l.take n)) a w' (fun a => wpList P l.toArray Q (l.drop n) a w'))
    (hend2 : ∀ w', Below w.heap.size w w' → over (tyOf L) (dstsOf ((l.take n).eraseIdx e)) a w' (fun a => wpList P l.toArray Q (on :: oe :: l.drop (n + 1)) a w')) : (Code.region id l.toArray true).wp P Q a w := by
  have hn : n ≤ l.length := by
    have h := hB
    simp only [lateOK, Bool.and_eq_true, decide_eq_true_eq, List.size_toArray] at h
    omega
  refine wp_region_any hm ?_
  have inv0 : RInv l.toArray n (tyOf L) w a (Array.replicate l.toArray.size false) a { w with drawn := w.drawn + 1 } :=
    ⟨⟨by simp, fun j oj _ hl => (by rw [getD_replicate_false] at hl; cases hl), fun t _ ht => getD_in (by simpa using ht) (getD_replicate_false _ _)⟩,
      ⟨rfl, rfl, rfl, Nat.le_refl _, fun _ _ => rfl⟩, rfl, rfl, fun _ _ => rfl, fun j d _ hl => (by rw [getD_replicate_false] at hl; cases hl)⟩
  have hend' : ∀ w' a', Below w.heap.size w w' → Behind l.toArray n (tyOf L) a w' a' → wpList P l.toArray Q (l.toArray.toList.drop n) a' w' := fun w' a' hb hB' => by
    have ef := behind_fill hB'
    rw [ef]
    exact over_fill (K := fun a => wpList P l.toArray Q (l.drop n) a w') _ a (fun d hd => hB'.new d hd) (by simpa using hend w' hb)
  have hend2' : ∀ w' a', Below w.heap.size w w' → BehindL ((l.toArray.toList.take n).eraseIdx e) (tyOf L) a w' a' → wpList P l.toArray Q (on :: oe :: l.toArray.toList.drop (n + 1)) a' w' := fun w' a' hb hB' => by
    have ef := behindL_fill hB'
    rw [ef]
    exact over_fill (K := fun a => wpList P l.toArray Q (on :: oe :: l.drop (n + 1)) a w') _ a (fun d hd => hB'.new d hd) (by simpa using hend2 w' hb)
  have := typed_late (P := P) (Q := Q) (n := n) hB (by simpa using hon) (by simpa using hoe) (fun i o hi ho w' hb => goals_at (l.take n) D hg i o (by rw [List.getElem?_take, if_pos hi]; simpa using ho) w' hb) hend' hend2' n _ a _ inv0 (cnt_fresh _ n (by simpa using hn))
  rwa [show n + (l.toArray.size - n) = l.toArray.size by simp; omega] at this
end
end Go.Proofs.YtkdlgejkgcojkaaDoor
