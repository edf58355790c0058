/- A region that draws its order and makes memory, walked ONE OPERATION AT A TIME: each operation's value is told by a type that lasts while memory grows ('Ty'); each operation is shown under the types of the values that it looks at alone; so any order serves. No program is named here. -/
import Derived.StillTail
import Derived.Below
import Derived.WalkKit
namespace Go.Proofs.Ytdkchiodepdclaa
open Go.RowKit

/-- What is known of an operation's value: that it is this; or something that lasts while memory grows. -/
inductive Ty where
  | val (v : Value)
  | pred (p : Value → World → Prop) (st : ∀ v w w', p v w → Below w.heap.size w w' → p v w')
def Ty.holds : Ty → Value → World → Prop
  | .val u, v, _ => v = u
  | .pred p _, v, w => p v w
theorem Ty.keep (T : Ty) {v : Value} {w w' : World} (h : T.holds v w) (hb : Below w.heap.size w w') : T.holds v w' := by
  cases T with
  | val u => exact h
  | pred p st => exact st v w w' h hb
def Ty.any : Ty := .pred (fun _ _ => True) (fun _ _ _ _ _ => trivial)
/-- The types by slot, out of a list. -/
def tyOf : List (Tmp × Ty) → Tmp → Ty
  | [], _ => .any
  | (k, T) :: L, d => cond (Nat.beq k d) T (tyOf L d)

def over (T : Tmp → Ty) : List Tmp → Act → World → (Act → Prop) → Prop
  | [], a, _, K => K a
  | d :: ds, a, w, K => match T d with
    | .val u => over T ds (a.put (some d) u) w K
    | .pred p _ => ∀ v, p v w → over T ds (a.put (some d) v) w K
theorem over_nil {T : Tmp → Ty} {a : Act} {w : World} {K : Act → Prop} (h : K a) : over T [] a w K := h
theorem over_val {T : Tmp → Ty} {d : Tmp} {ds : List Tmp} {a : Act} {w : World} {K : Act → Prop} {u : Value} (h : T d = .val u) (k : over T ds (a.put (some d) u) w K) : over T (d :: ds) a w K := by
  unfold over; rw [h]; exact k
theorem over_pred {T : Tmp → Ty} {d : Tmp} {ds : List Tmp} {a : Act} {w : World} {K : Act → Prop} {p : Value → World → Prop} {st : ∀ v w w', p v w → Below w.heap.size w w' → p v w'} (h : T d = .pred p st) (k : ∀ v, p v w → over T ds (a.put (some d) v) w K) : over T (d :: ds) a w K := by
  unfold over; rw [h]; exact k
/-- A frame that is written out: what is put into it. -/
theorem put_lit (l : List Value) (D : List Deferred) (t : Tmp) (v : Value) : (Act.mk l.toArray D).put (some t) v = ⟨(l.set t v).toArray, D⟩ := by simp [Act.put]
def fill (f : Tmp → Value) : List Tmp → Act → Act
  | [], a => a
  | d :: ds, a => fill f ds (a.put (some d) (f d))
theorem over_fill {T : Tmp → Ty} {f : Tmp → Value} {w : World} {K : Act → Prop} : ∀ (ds : List Tmp) (a : Act), (∀ d ∈ ds, (T d).holds (f d) w) → over T ds a w K → K (fill f ds a)
  | [], _, _, h => h
  | d :: ds, a, hT, h => by
    have h1 := hT d List.mem_cons_self
    refine over_fill ds _ (fun e he => hT e (List.mem_cons_of_mem _ he)) ?_
    unfold over at h
    cases ht : T d with
    | val u => rw [ht] at h h1; have e : f d = u := h1; rw [e]; exact h
    | pred p st => rw [ht] at h h1; exact h _ h1
theorem fill_size (f : Tmp → Value) : ∀ (ds : List Tmp) (a : Act), (fill f ds a).tmps.size = a.tmps.size
  | [], _ => rfl
  | d :: ds, a => by unfold fill; rw [fill_size f ds]; simp [Act.put]
theorem fill_defers (f : Tmp → Value) : ∀ (ds : List Tmp) (a : Act), (fill f ds a).defers = a.defers
  | [], _ => rfl
  | d :: ds, a => by unfold fill; rw [fill_defers f ds]; rfl
theorem fill_in (f : Tmp → Value) : ∀ (ds : List Tmp) (a : Act) (t : Tmp), t < a.tmps.size → (t ∈ ds ∨ a.tmps[t]? = some (f t)) → (fill f ds a).tmps[t]? = some (f t)
  | [], a, t, _, h => by
    rcases h with h | h
    · cases h
    · exact h
  | d :: ds, a, t, hlt, h => by
    unfold fill
    refine fill_in f ds _ t (by simpa [Act.put] using hlt) ?_
    by_cases e : d = t
    · subst e; exact .inr (by simp [Act.put, hlt])
    · rcases h with h | h
      · rcases List.mem_cons.1 h with h | h
        · exact absurd h.symm e
        · exact .inl h
      · exact .inr (by simp [Act.put, Array.getElem?_setIfInBounds_ne e, h])
theorem fill_out (f : Tmp → Value) : ∀ (ds : List Tmp) (a : Act) (t : Tmp), t ∉ ds → (fill f ds a).tmps[t]? = a.tmps[t]?
  | [], _, _, _ => rfl
  | d :: ds, a, t, h => by
    unfold fill
    rw [fill_out f ds _ t (fun e => h (List.mem_cons_of_mem _ e))]
    have e : d ≠ t := fun e => h (e ▸ List.mem_cons_self)
    simp [Act.put, Array.getElem?_setIfInBounds_ne e]

/-- What one operation must come to. -/
def Post (T : Tmp → Ty) (D : List Deferred) (o : Oper) (w : World) : Exit → Act → World → Prop
  | .normal, a, w' => a.defers = D ∧ Below w.heap.size w w' ∧ ∀ d, o.dst = some d → (T d).holds (a.tmps.getD d undef) w'
  | _, _, _ => False
theorem post_of {T : Tmp → Ty} {D : List Deferred} {o : Oper} {w w' : World} {a : Act} {d : Tmp} (hd : o.dst = some d) (h1 : a.defers = D) (hb : Below w.heap.size w w') (h2 : (T d).holds (a.tmps.getD d undef) w') : Post T D o w .normal a w' :=
  ⟨h1, hb, fun e he => by rw [hd] at he; injection he with he; subst he; exact h2⟩
theorem post_lets {T : Tmp → Ty} {D : List Deferred} {o : Oper} {w : World} : ¬ LetsOut (Post T D o w) := fun ⟨_, _, h⟩ => h

theorem put_getD (a b : Act) (d : Tmp) (v : Value) (h : a.tmps.size = b.tmps.size) : (a.put (some d) v).tmps.getD d undef = (b.put (some d) v).tmps.getD d undef := by
  by_cases hd : d < a.tmps.size
  · have hd' : d < b.tmps.size := h ▸ hd
    simp [Act.put, Array.getD, hd, hd']
  · have hd' : ¬ d < b.tmps.size := h ▸ hd
    simp [Act.put, Array.getD, hd, hd']

theorem wp_turn {P : Program} {T : Tmp → Ty} {o : Oper} {a b : Act} {w : World} {K : Act → World → Prop} {Q : Exit → Act → World → Prop} (he : execOp a.eval o = execOp b.eval o) (hs : a.tmps.size = b.tmps.size)
    (h : o.wp P b w (fun a' w' => Post T b.defers o w .normal a' w') (Post T b.defers o w))
    (hK : ∀ v w', Below w.heap.size w w' → (∀ d, o.dst = some d → (T d).holds ((a.put o.dst v).tmps.getD d undef) w') → K (a.put o.dst v) w') : o.wp P a w K Q := by
  have key : ∀ v w', Post T b.defers o w .normal (b.put o.dst v) w' → K (a.put o.dst v) w' := fun v w' ⟨_, h2, h3⟩ =>
    hK v w' h2 fun d hd => by
      have := h3 d hd
      rw [hd] at this ⊢
      rw [put_getD a b d v hs]
      exact this
  unfold Oper.wp at *
  rw [he]
  generalize (execOp b.eval o).run P w = r at *
  cases r with
  | ok n w' =>
    cases n <;> simp only [Oper.upon] at h ⊢
    case value v => exact key _ _ h
    case skip => exact key _ _ h
    case defer d =>
      have h1 := h.1
      cases ho : o.dst <;> simp [ho, Act.put] at h1
    case enter f args =>
      refine Calls.mono h fun e w'' he => ?_
      cases e with
      | returned v => exact key _ _ he
      | panicked c => exact he.elim
      | outgrown => exact absurd he post_lets
    case row r args => exact Rows.mono h fun v w'' hv => key _ _ hv
  | halt x w' =>
    cases x <;> simp only [Oper.upon] at h ⊢
    exact h.elim

/-- How many of the first n have not come up yet. -/
def cnt (listed : Array Bool) : Nat → Nat
  | 0 => 0
  | k + 1 => cnt listed k + if listed.getD k true then 0 else 1
theorem cnt_set {listed : Array Bool} {i : Nat} (hu : listed.getD i true = false) : ∀ n, (n ≤ i → cnt (listed.setIfInBounds i true) n = cnt listed n) ∧ (i < n → cnt listed n = cnt (listed.setIfInBounds i true) n + 1)
  | 0 => ⟨fun _ => rfl, fun h => absurd h (by omega)⟩
  | k + 1 => by
    have ih := cnt_set hu k
    have hi : i < listed.size := by
      rcases Nat.lt_or_ge i listed.size with h | h
      · exact h
      · simp [Array.getD, Nat.not_lt.2 h] at hu
    refine ⟨fun h => ?_, fun h => ?_⟩
    · simp only [cnt]
      rw [ih.1 (by omega), getD_set_ne true (by omega)]
    · simp only [cnt]
      by_cases e : i = k
      · subst e
        rw [ih.1 (Nat.le_refl _), hu]
        simp [hi]
      · rw [ih.2 (by omega), getD_set_ne true e]
        omega
theorem cnt_zero {listed : Array Bool} : ∀ n, cnt listed n = 0 → ∀ i, i < n → listed.getD i true = true
  | 0, _, i, hi => absurd hi (by omega)
  | k + 1, h, i, hi => by
    simp only [cnt] at h
    by_cases e : i = k
    · subst e
      cases hb : listed.getD i true with
      | true => rfl
      | false => simp [hb] at h
    · exact cnt_zero k (by omega) i (by omega)
theorem cnt_least {listed : Array Bool} : ∀ n, cnt listed n ≠ 0 → ∃ i, i < n ∧ listed.getD i true = false ∧ ∀ j, j < i → listed.getD j true = true
  | 0, h => absurd rfl h
  | k + 1, h => by
    by_cases hk : cnt listed k = 0
    · refine ⟨k, by omega, ?_, cnt_zero k hk⟩
      simp only [cnt, hk] at h
      cases hb : listed.getD k true with
      | true => simp [hb] at h
      | false => rfl
    · obtain ⟨i, hi, h1⟩ := cnt_least k hk
      exact ⟨i, by omega, h1⟩
theorem cnt_fresh (m : Nat) : ∀ n, n ≤ m → cnt (Array.replicate m false) n = n
  | 0, _ => rfl
  | k + 1, h => by
    simp only [cnt]
    rw [cnt_fresh m k (by omega)]
    have : k < m := by omega
    simp [this]

/-! ### What is asked of the region: a Bool -/
def dstAt (ops : Array Oper) (i : Nat) : Option Tmp := (ops[i]?).bind (·.dst)
def opOK (ops : Array Oper) (D : List (List Tmp)) (n i : Nat) : Bool := match ops[i]? with
  | none => false
  | some o =>
    (o.after.all fun e => !Region.binds .any e || decide (e.on < i)) &&
    ((o.looksAt ops).all fun t => (List.range n).all fun j => dstAt ops j != some t || ((Region.waitsFor .any ops i j && (D.getD i []).contains t) || Region.waitsFor .any ops j i)) &&
    ((D.getD i []).all fun t => (List.range n).any fun j => dstAt ops j == some t && Region.waitsFor .any ops i j) &&
    ((List.range n).all fun j => i == j || dstAt ops i == none || dstAt ops i != dstAt ops j)
def endOK (ops : Array Oper) (n : Nat) : Bool :=
  if n = ops.size then true else decide (n < ops.size) && Region.sinkB .any ops n && Region.chainB .any ops n && Region.seqB .any ops (ops.size - n) n ((Array.range ops.size).map fun i => decide (i < n))
def regOK (ops : Array Oper) (D : List (List Tmp)) (n : Nat) : Bool := Region.noSelect ops && endOK ops n && (List.range n).all (opOK ops D n)
def dstsOf (l : List Oper) : List Tmp := l.filterMap (·.dst)

section
variable {P : Program} {ops : Array Oper} {n : Nat} {T : Tmp → Ty} {w0 : World} {a0 : Act} {Q : Exit → Act → World → Prop}

structure RInv (ops : Array Oper) (n : Nat) (T : Tmp → Ty) (w0 : World) (a0 : Act) (listed : Array Bool) (a : Act) (w : World) : Prop where
  head : HeadInv .any ops n listed
  below : Below w0.heap.size w0 w
  size : a.tmps.size = a0.tmps.size
  defers : a.defers = a0.defers
  old : ∀ t, (∀ j, j < n → listed.getD j false = true → dstAt ops j ≠ some t) → a.tmps[t]? = a0.tmps[t]?
  new : ∀ j d, j < n → listed.getD j false = true → dstAt ops j = some d → (T d).holds (a.tmps.getD d undef) w

theorem getD_of_get {xs ys : Array Value} {t : Nat} (h : xs[t]? = ys[t]?) : xs.getD t undef = ys.getD t undef := by
  rw [Array.getD_eq_getD_getElem?, Array.getD_eq_getD_getElem?, h]
theorem get_fill {a : Act} {t : Tmp} (h : t < a.tmps.size) : a.tmps[t]? = some (a.tmps.getD t undef) := by
  simp [Array.getD, h]
theorem waits_listed {i j : Nat} {o : Oper} {listed : Array Bool} (ho : ops[i]? = some o) (hall : ∀ e ∈ o.after, Region.binds .any e = true → listed.getD e.on false = true) (h : Region.waitsFor .any ops i j = true) : listed.getD j false = true := by
  obtain ⟨oi, hoi, e, he, hb, hon⟩ := Region.waitsFor_spec h
  have : oi = o := Option.some.inj (hoi.symm.trans ho)
  subst this
  have := hall e he hb
  rwa [hon] at this

/-- What is known of a frame behind the region. -/
structure Behind (ops : Array Oper) (n : Nat) (T : Tmp → Ty) (a0 : Act) (w : World) (a : Act) : Prop where
  size : a.tmps.size = a0.tmps.size
  defers : a.defers = a0.defers
  old : ∀ t, t ∉ dstsOf (ops.toList.take n) → a.tmps[t]? = a0.tmps[t]?
  new : ∀ d ∈ dstsOf (ops.toList.take n), (T d).holds (a.tmps.getD d undef) w
theorem behind_fill {a0 a : Act} {w : World} (h : Behind ops n T a0 w a) : a = fill (fun t => a.tmps.getD t undef) (dstsOf (ops.toList.take n)) a0 := by
  have hd : a.defers = (fill (fun t => a.tmps.getD t undef) (dstsOf (ops.toList.take n)) a0).defers := by rw [fill_defers]; exact h.defers
  have ht : a.tmps = (fill (fun t => a.tmps.getD t undef) (dstsOf (ops.toList.take n)) a0).tmps := by
    apply Array.ext_getElem?
    intro t
    by_cases hm : t ∈ dstsOf (ops.toList.take n)
    · by_cases hlt : t < a.tmps.size
      · rw [fill_in _ _ _ _ (by rw [← h.size]; exact hlt) (.inl hm), get_fill hlt]
      · rw [Array.getElem?_eq_none (by omega), Array.getElem?_eq_none (by rw [fill_size, ← h.size]; omega)]
    · rw [fill_out _ _ _ _ hm]
      exact h.old t hm
  cases a; cases hf : fill _ _ _; rw [hf] at hd ht; cases hd; cases ht; rfl
theorem typed_any {D : List (List Tmp)} (hB : regOK ops D n = true)
    (hgoal : ∀ i o, i < n → ops[i]? = some o → ∀ w, Below w0.heap.size w0 w → over T (D.getD i []) a0 w (fun a => wpList P ops (Post T a0.defers o w) [o] a w))
    (hend : ∀ w a, Below w0.heap.size w0 w → Behind ops n T a0 w a → wpList P ops Q (ops.toList.drop n) a w) :
    ∀ (m : Nat) (listed : Array Bool) (a : Act) (w : World), RInv ops n T w0 a0 listed a w → cnt listed n = m → wpAny P .any ops Q (m + (ops.size - n)) listed a w := by
  simp only [regOK, Bool.and_eq_true] at hB
  obtain ⟨⟨hsel, hE⟩, hO⟩ := hB
  have hO' : ∀ i, i < n → opOK ops D n i = true := fun i hi => List.all_eq_true.1 hO i (List.mem_range.2 hi)
  have hns : n ≤ ops.size := by
    unfold endOK at hE
    split at hE
    · omega
    · simp only [Bool.and_eq_true, decide_eq_true_eq] at hE; omega
  intro m
  induction m with
  | zero =>
    intro listed a w inv hc
    have hall := cnt_zero n hc
    have hsz := inv.head.size
    have hin : ∀ i, i < n → listed.getD i false = true := fun i hi => by
      have := hall i hi
      have hi' : i < listed.size := by omega
      simpa [hi'] using this
    have H : wpList P ops Q (ops.toList.drop n) a w := by
      refine hend w a inv.below ⟨inv.size, inv.defers, fun t hm => ?_, fun d hd => ?_⟩
      · refine inv.old t fun j hj hl hd => hm ?_
        unfold dstAt at hd
        cases ho : ops[j]? with
        | none => rw [ho] at hd; cases hd
        | some o =>
          rw [ho] at hd
          refine List.mem_filterMap.2 ⟨o, ?_, hd⟩
          exact List.mem_of_getElem? (i := j) (by rw [List.getElem?_take, if_pos hj]; simpa using ho)
      · obtain ⟨o, ho, hod⟩ := List.mem_filterMap.1 hd
        obtain ⟨j, hj⟩ := List.mem_iff_getElem?.1 ho
        rw [List.getElem?_take] at hj
        split at hj
        · rename_i hjn
          exact inv.new j d hjn (hin j hjn) (by unfold dstAt; rw [show ops[j]? = some o by simpa using hj]; exact hod)
        · cases hj
    have hl : listed = (Array.range ops.size).map fun i => decide (i < n) := by
      apply Array.ext
      · simp [hsz]
      · intro i h1 h2
        simp only [Array.getElem_map, Array.getElem_range]
        by_cases hin' : i < n
        · have := hall i hin'
          simpa [h1, hin'] using this
        · have := inv.head.tail i (by omega) (by omega)
          simpa [h1, hin'] using this
    have hseq : Region.seqB .any ops (ops.toList.drop n).length n listed = true := by
      have hlen : (ops.toList.drop n).length = ops.size - n := by simp
      rw [hlen]
      by_cases hne : n = ops.size
      · have h0 : ops.size - n = 0 := by omega
        rw [h0]
        simp only [Region.seqB, List.isEmpty_iff]
        rw [List.eq_nil_iff_forall_not_mem]
        intro i hi
        obtain ⟨h1, o, ho, _⟩ := mem_ready.1 hi
        have := (Array.getElem?_eq_some_iff.1 ho).1
        rw [hall i (by omega)] at h1
        cases h1
      · unfold endOK at hE
        rw [if_neg hne] at hE
        simp only [Bool.and_eq_true] at hE
        rw [hl]
        exact hE.2
    have hlen : (ops.toList.drop n).length = ops.size - n := by simp
    have := wpAny_of_seq (md := .any) (Q' := Q) (ops.toList.drop n) n listed a w (fun j => by simp [List.getElem?_drop]) hseq H
    rw [hlen] at this
    rw [Nat.zero_add]
    exact this
  | succ m ih =>
    intro listed a w inv hc
    have hsz := inv.head.size
    obtain ⟨i0, hi0, hu0, hlow⟩ := cnt_least n (show cnt listed n ≠ 0 by omega)
    have hready0 : i0 ∈ Region.ready .any ops listed := by
      have hOi := hO' i0 hi0
      unfold opOK at hOi
      refine mem_ready.2 ⟨hu0, ?_⟩
      cases ho : ops[i0]? with
      | none => rw [ho] at hOi; cases hOi
      | some o =>
        rw [ho] at hOi
        simp only [Bool.and_eq_true] at hOi
        refine ⟨o, rfl, fun e he hb => ?_⟩
        have h1 := Array.all_eq_true'.1 hOi.1.1.1 e he
        simp only [hb, Bool.not_true, Bool.false_or, decide_eq_true_eq] at h1
        have h2 := hlow e.on h1
        have h3 : e.on < listed.size := by omega
        simpa [h3] using h2
    rw [show m + 1 + (ops.size - n) = (m + (ops.size - n)) + 1 by omega]
    refine ⟨fun h => (by rw [h] at hready0; cases hready0), fun i hi => ?_⟩
    have hin : i < n := by
      rcases Nat.lt_or_ge i n with h | h
      · exact h
      · obtain ⟨_, o, ho, _⟩ := mem_ready.1 hi
        have hlt := (Array.getElem?_eq_some_iff.1 ho).1
        unfold endOK at hE
        by_cases hne : n = ops.size
        · omega
        · rw [if_neg hne] at hE
          simp only [Bool.and_eq_true, decide_eq_true_eq] at hE
          exact absurd hi (tail_waits hE.1.1.2 hE.1.2 hE.1.1.1 inv.head _ i0 rfl hi0 hu0 i h)
    obtain ⟨hiu, o, ho, hall⟩ := mem_ready.1 hi
    have hOi := hO' i hin
    unfold opOK at hOi
    rw [ho] at hOi
    simp only [Bool.and_eq_true] at hOi
    obtain ⟨⟨⟨_, hlook⟩, hsrc⟩, hdis⟩ := hOi
    have hdst : ∀ j, j < n → i ≠ j → ∀ d, dstAt ops i = some d → dstAt ops j ≠ some d := fun j hj hne d hd e => by
      have := List.all_eq_true.1 hdis j (List.mem_range.2 hj)
      rw [hd, e] at this
      simp [hne] at this
    have hio : dstAt ops i = o.dst := by unfold dstAt; rw [ho]; rfl
    have hsrcL : ∀ t ∈ D.getD i [], ∃ j, j < n ∧ dstAt ops j = some t ∧ listed.getD j false = true := fun t ht => by
      obtain ⟨j, hj, h2⟩ := List.any_eq_true.1 (List.all_eq_true.1 hsrc t ht)
      simp only [Bool.and_eq_true, beq_iff_eq] at h2
      exact ⟨j, List.mem_range.1 hj, h2.1, waits_listed ho hall h2.2⟩
    have hbT : ∀ t ∈ D.getD i [], (T t).holds (a.tmps.getD t undef) w := fun t ht => by
      obtain ⟨j, hj, hd, hl⟩ := hsrcL t ht
      exact inv.new j t hj hl hd
    have hW := over_fill (K := fun b => wpList P ops (Post T a0.defers o w) [o] b w) (f := fun t => a.tmps.getD t undef) _ a0 hbT (hgoal i o hin ho w inv.below)
    have hget : ∀ t ∈ o.looksAt ops, a.tmps[t]? = (fill (fun t => a.tmps.getD t undef) (D.getD i []) a0).tmps[t]? := fun t ht => by
      by_cases hm : t ∈ D.getD i []
      · by_cases hlt : t < a.tmps.size
        · rw [fill_in _ _ _ _ (by rw [← inv.size]; exact hlt) (.inl hm), get_fill hlt]
        · rw [Array.getElem?_eq_none (Nat.not_lt.1 hlt), Array.getElem?_eq_none (by rw [fill_size, ← inv.size]; exact Nat.not_lt.1 hlt)]
      · rw [fill_out _ _ _ _ hm]
        refine inv.old t fun j hj hl hd => ?_
        have h1 := List.all_eq_true.1 (List.all_eq_true.1 hlook t ht) j (List.mem_range.2 hj)
        simp only [hd, bne_self_eq_false, Bool.false_or, Bool.or_eq_true, Bool.and_eq_true] at h1
        rcases h1 with h1 | h1
        · exact hm (by simpa using h1.2)
        · obtain ⟨oj, hoj, e, he, hb, hon⟩ := Region.waitsFor_spec h1
          have := inv.head.closed j oj hoj hl e he hb
          rw [hon, getD_both hiu] at this
          cases this
    have hexec : execOp a.eval o = execOp (fill (fun t => a.tmps.getD t undef) (D.getD i []) a0).eval o :=
      execOp_congr o (fun cs b => Region.noSelect_spec hsel i o cs b ho) fun x hx => by
        cases x with
        | tmp t =>
          have : t ∈ o.looksAt ops := List.mem_append_left _ (List.mem_filterMap.2 ⟨.tmp t, by simpa using hx, rfl⟩)
          exact getD_of_get (hget t this)
        | _ => rfl
    have hwant : Region.wanted o (yielded ops a.tmps) = Region.wanted o (yielded ops (fill (fun t => a.tmps.getD t undef) (D.getD i []) a0).tmps) := by
      unfold Region.wanted
      cases hg : o.guard with
      | none => rfl
      | some gw =>
        obtain ⟨g, want⟩ := gw
        have hy : yielded ops a.tmps g = yielded ops (fill (fun t => a.tmps.getD t undef) (D.getD i []) a0).tmps g := by
          unfold yielded
          cases ht : (ops[g]?).bind (·.dst) with
          | none => rfl
          | some t =>
            simp only [Option.bind_some]
            rw [hget t (List.mem_append_right _ (by simp [hg, ht]))]
        simp only [hy]
    have hsize : a.tmps.size = (fill (fun t => a.tmps.getD t undef) (D.getD i []) a0).tmps.size := by rw [fill_size]; exact inv.size
    have hdef : a0.defers = (fill (fun t => a.tmps.getD t undef) (D.getD i []) a0).defers := by rw [fill_defers]
    -- what is known behind the operation
    have next : ∀ v w', Below w.heap.size w w' → (∀ d, o.dst = some d → (T d).holds ((a.put o.dst v).tmps.getD d undef) w') → wpAny P .any ops Q (m + (ops.size - n)) (listed.setIfInBounds i true) (a.put o.dst v) w' := by
      intro v w' hb hT
      refine ih _ _ _ ⟨inv.head.set hi hin, ?_, ?_, ?_, ?_, ?_⟩ ?_
      · exact inv.below.trans (hb.mono inv.below.size)
      · cases o.dst <;> simp [Act.put, inv.size]
      · cases o.dst <;> simp [Act.put, inv.defers]
      · intro t ht
        have hne : o.dst ≠ some t := by
          rw [← hio]
          refine ht i hin ?_
          have : i < listed.size := by rw [hsz]; omega
          simp [this]
        have h1 : (a.put o.dst v).tmps[t]? = a.tmps[t]? := by
          cases hd : o.dst with
          | none => rfl
          | some d =>
            have : d ≠ t := fun e => hne (by rw [hd, e])
            simp [Act.put, Array.getElem?_setIfInBounds_ne this]
        rw [h1]
        refine inv.old t fun j hj hl => ht j hj (getD_set_true hl)
      · intro j d hj hl hd
        by_cases e : i = j
        · subst e
          exact hT d (by rw [← hio]; exact hd)
        · have h1 : (a.put o.dst v).tmps[d]? = a.tmps[d]? := by
            cases hod : o.dst with
            | none => rfl
            | some d' =>
              have : d' ≠ d := fun e' => hdst j hj e d (by rw [hio, hod, e']) hd
              simp [Act.put, Array.getElem?_setIfInBounds_ne this]
          rw [getD_of_get h1]
          rw [getD_set_ne false e] at hl
          exact (T d).keep (inv.new j d hj hl hd) hb
      · have := (cnt_set hiu n).2 hin
        omega
    unfold wpOp
    simp only [ho]
    split
    · rename_i hw
      left
      unfold wpList at hW
      rw [← hwant, if_pos hw] at hW
      rcases hW with hW | ⟨_, hW⟩
      · refine wp_turn hexec hsize (T := T) ?_ next
        rw [← hdef]
        exact hW
      · exact absurd hW post_lets
    · rename_i hw
      unfold wpList at hW
      rw [← hwant, if_neg hw] at hW
      obtain ⟨_, h2, h3⟩ := hW
      refine next undef w h2 fun d hd => ?_
      have := h3 d hd
      rw [hd] at this ⊢
      rw [put_getD a _ d undef hsize]
      exact this

/-- One goal an operation. -/
def goals (P : Program) (ops : Array Oper) (T : Tmp → Ty) (w0 : World) (a0 : Act) : List Oper → List (List Tmp) → Prop
  | [], _ => True
  | o :: l, D => (∀ w, Below w0.heap.size w0 w → over T (D.headD []) a0 w (fun a => wpList P ops (Post T a0.defers o w) [o] a w)) ∧ goals P ops T w0 a0 l D.tail
theorem goals_at {a0 : Act} : ∀ (l : List Oper) (D : List (List Tmp)), goals P ops T w0 a0 l D → ∀ (i : Nat) (o : Oper), l[i]? = some o → ∀ w, Below w0.heap.size w0 w → over T (D.getD i []) a0 w (fun a => wpList P ops (Post T a0.defers o w) [o] a w)
  | [], _, _, i, o, h => by cases h
  | o' :: l, D, hg, 0, o, h => by
    injection h with h
    subst h
    have := hg.1
    cases D <;> exact this
  | o' :: l, D, hg, i + 1, o, h => by
    have := goals_at l D.tail hg.2 i o (by simpa using h)
    cases D with
    | nil => exact this
    | cons x D => exact this

/-- THE REGION, its first n operations one by one, the rest in the order of the text. -/
theorem wp_region_typed_end {id : Nat} {a : Act} {w : World} {l : List Oper} (n : Nat) (L : List (Tmp × Ty)) (D : List (List Tmp)) (hm : P.follows .mixedOrders = true) (hB : regOK l.toArray D n = true)
    (hg : goals P l.toArray (tyOf L) w a (l.take n) D)
    (hend : ∀ w' a', Below w.heap.size w w' → Behind l.toArray n (tyOf L) a w' a' → wpList P l.toArray Q (l.drop n) a' w') : (Code.region id l.toArray true).wp P Q a w := by
  have hn : n ≤ l.length := by
    have h := hB
    simp only [regOK, Bool.and_eq_true] at h
    have hE := h.1.2
    unfold endOK at hE
    split at hE
    · rename_i e; simp at e; omega
    · simp only [Bool.and_eq_true, decide_eq_true_eq, List.size_toArray] at hE; omega
  refine wp_region_any hm ?_
  have inv0 : RInv l.toArray n (tyOf L) w a (Array.replicate l.toArray.size false) a { w with drawn := w.drawn + 1 } :=
    ⟨⟨by simp, fun j oj _ hl => (by rw [getD_replicate_false] at hl; cases hl), fun t _ ht => getD_in (by simpa using ht) (getD_replicate_false _ _)⟩,
      ⟨rfl, rfl, rfl, Nat.le_refl _, fun _ _ => rfl⟩, rfl, rfl, fun _ _ => rfl, fun j d _ hl => (by rw [getD_replicate_false] at hl; cases hl)⟩
  have := typed_any (P := P) (Q := Q) (n := n) hB (fun i o hi ho w' hb => goals_at (l.take n) D hg i o (by rw [List.getElem?_take, if_pos hi]; simpa using ho) w' hb) (by simpa using hend) n _ a _ inv0 (cnt_fresh _ n (by simpa using hn))
  rwa [show n + (l.toArray.size - n) = l.toArray.size by simp; omega] at this

theorem wp_region_typed {id : Nat} {a : Act} {w : World} {l : List Oper} (n : Nat) (L : List (Tmp × Ty)) (D : List (List Tmp)) (hm : P.follows .mixedOrders = true) (hB : regOK l.toArray D n = true)
    (hg : goals P l.toArray (tyOf L) w a (l.take n) D)
    (hend : ∀ w', Below w.heap.size w w' → over (tyOf L) (dstsOf (l.take n)) a w' (fun a => wpList P l.toArray Q (l.drop n) a w')) : (Code.region id l.toArray true).wp P Q a w :=
  wp_region_typed_end n L D hm hB hg fun w' a' hb hB => by
    have e := behind_fill hB
    rw [e]
    exact over_fill (K := fun a => wpList P l.toArray Q (l.drop n) a w') _ a (fun d hd => hB.new d hd) (by simpa using hend w' hb)
end
end Go.Proofs.Ytdkchiodepdclaa
