/- The region whose first operations are loads that may come late: from its beginning. No program is named here. -/
import Derived.Test.YtdkchiodepdclaaReg3
import Derived.Deep.RegionHeld3
namespace Go.Proofs.Ytdkchiodepdclaa
open Go.RowKit
def lst (N m : Nat) : Array Bool := (Array.range N).map fun i => decide (i < m)
theorem lst_set {N i : Nat} (h : i < N) : (lst N i).setIfInBounds i true = lst N (i + 1) := by
  apply Array.ext_getElem?
  intro j
  by_cases e : i = j
  · subst e; simp [lst, h]
  · rw [Array.getElem?_setIfInBounds_ne e]
    simp only [lst, Array.getElem?_map]
    by_cases hj : j < N
    · have : decide (j < i) = decide (j < i + 1) := decide_eq_decide.2 (by omega)
      simp [hj, this]
    · simp [hj]
theorem lst_zero (N : Nat) : lst N 0 = Array.replicate N false := by
  apply Array.ext
  · simp [lst]
  · intro j h1 h2
    simp [lst]
theorem lst_get {N m i : Nat} {b : Bool} (h : i < N) : (lst N m).getD i b = decide (i < m) := by
  simp [lst, h]
section
variable {P : Program} {ops : Array Oper} {S : World → Prop} {Q : Exit → Act → World → Prop} {w : World}
def Head (P : Program) (ops : Array Oper) (S : World → Prop) : List Oper → Act → (Act → Prop) → Prop
  | [], a, K => K a
  | o :: r, a, K => ∃ v, YieldsIf P ops S o v a ∧ Head P ops S r (a.put o.dst v) K
def headOK (ops : Array Oper) (k : Nat) : Bool := (List.range k).all fun j => (Region.ready .any ops (lst ops.size j)).contains j && Region.free .any ops (lst ops.size j) j
theorem held_head (hsel : Region.noSelect ops = true) (hQ : ∀ c a w, ¬ Q (.panic c) a w) (hS : S w) {k : Nat} (hB : headOK ops k = true) (hk : k ≤ ops.size) : ∀ (l : List Oper) (i fuel : Nat) (a : Act), (∀ j, j < l.length → l[j]? = ops[i + j]?) → i + l.length = k →
    Head P ops S l a (fun a' => wpAnyH P .any ops Q S fuel (lst ops.size k) a' w) → wpAnyH P .any ops Q S (l.length + fuel) (lst ops.size i) a w
  | [], i, fuel, a, _, hi, h => by
    have : i = k := by simpa using hi
    subst this
    rw [List.length_nil, Nat.zero_add]
    exact h
  | o :: l, i, fuel, a, hl, hi, h => by
    have h0 : ops[i]? = some o := by simpa using (hl 0 (by simp)).symm
    obtain ⟨v, hy, hr⟩ := h
    have hik : i < k := by simp only [List.length_cons] at hi; omega
    have hB1 := List.all_eq_true.1 hB i (List.mem_range.2 hik)
    simp only [Bool.and_eq_true] at hB1
    rw [show (o :: l).length + fuel = (l.length + fuel) + 1 by simp only [List.length_cons]; omega]
    refine wpAnyH_take h0 hsel hB1.2 hB1.1 (fun c a' w' h' => absurd h' (hQ c _ w')) hy hS ?_
    rw [lst_set (by omega)]
    exact held_head hsel hQ hS hB hk l (i + 1) fuel _ (fun j hj => by have := hl (j + 1) (by simp; omega); simpa [Nat.add_assoc, Nat.add_comm 1 j] using this) (by simp only [List.length_cons] at hi; omega) hr
end
def closedOK (ops : Array Oper) (k : Nat) : Bool := (List.range k).all fun j => match ops[j]? with
  | none => true
  | some o => o.after.all fun e => !Region.binds .any e || decide (e.on < k)
theorem wp_region_typed3 {P : Program} {Q : Exit → Act → World → Prop} {id : Nat} {a : Act} {w : World} {l : List Oper} (k n : Nat) (L : List (Tmp × Ty)) (F : Fr) (D : List (List Tmp)) (S : World → Prop) (hm : P.follows .mixedOrders = true)
    (hB : reg3OK l.toArray D k n = true) (hH : headOK l.toArray k = true) (hC : closedOK l.toArray k = true) (hkn : k ≤ n) (hS : ∀ w', Below w.heap.size w w' → S w')
    (hh : Head P l.toArray S (l.take k) a (fun a1 =>
      (∀ d ∈ dstsOf (l.take k), (∀ w', (tyOf L d).holds (a1.tmps.getD d undef) w') ∧ ∀ g, ¬ F d (a1.tmps.getD d undef) g) ∧
      (∀ i o, k ≤ i → i < n → l[i]? = some o → ∀ w', Below w.heap.size w w' → over (tyOf L) (D.getD i []) a1 w' (fun b => wpList P l.toArray (Post2 (tyOf L) F a1.defers o w') [o] b w')) ∧
      (∀ w' a', Below w.heap.size w w' → Behind2 l.toArray n (tyOf L) F w a1 w' a' → wpListS P l.toArray S (NoPanic Q) (l.drop n) a' w'))) : (Code.region id l.toArray true).wp P Q a w := by
  have hB' := hB
  simp only [reg3OK, Bool.and_eq_true, decide_eq_true_eq, List.size_toArray] at hB'
  obtain ⟨⟨⟨⟨hsel, hns⟩, _⟩, _⟩, _⟩ := hB'
  refine wp_region_noPanic (wp_region_held (S := S) hm ?_)
  have hl0 : Array.replicate l.toArray.size false = lst l.toArray.size 0 := (lst_zero _).symm
  rw [hl0]
  have htl : (l.take k).length = k := by simp; omega
  have hsz : l.toArray.size = k + (l.length - k) := by simp; omega
  have key : Head P l.toArray S (l.take k) a (fun a1 => wpAnyH P .any l.toArray (NoPanic Q) S (l.length - k) (lst l.toArray.size k) a1 { w with drawn := w.drawn + 1 }) := by
    have mono : ∀ (r : List Oper) (b : Act) (K K' : Act → Prop), (∀ b, K b → K' b) → Head P l.toArray S r b K → Head P l.toArray S r b K' := by
      intro r
      induction r with
      | nil => intro b K K' hK h; exact hK _ h
      | cons o r ih => intro b K K' hK h; obtain ⟨v, hy, h⟩ := h; exact ⟨v, hy, ih _ _ _ hK h⟩
    refine mono _ _ _ _ (fun a1 h => ?_) hh
    obtain ⟨h1, h2, h3⟩ := h
    have hdst : ∀ j d, j < k → dstAt l.toArray j = some d → d ∈ dstsOf (l.take k) := fun j d hj hd => by
      unfold dstAt at hd
      cases ho : l[j]? with
      | none => rw [show l.toArray[j]? = none by simpa using ho] at hd; cases hd
      | some o =>
        rw [show l.toArray[j]? = some o by simpa using ho] at hd
        exact List.mem_filterMap.2 ⟨o, List.mem_of_getElem? (i := j) (by rw [List.getElem?_take, if_pos hj]; exact ho), hd⟩
    have hlow : ∀ j, (lst l.toArray.size k).getD j false = true → j < k := fun j hj => by
      rcases Nat.lt_or_ge j l.toArray.size with h | h
      · rw [lst_get h] at hj; exact of_decide_eq_true hj
      · rw [Array.getD, dif_neg (by simp [lst]; simpa using h)] at hj
        cases hj
    have inv0 : RInv2 l.toArray n (tyOf L) F w a1 (lst l.toArray.size k) a1 { w with drawn := w.drawn + 1 } :=
      ⟨⟨⟨by simp [lst], fun j oj hj hl e he hb => by
          have hjk := hlow j hl
          have := List.all_eq_true.1 hC j (List.mem_range.2 hjk)
          rw [hj] at this
          have := Array.all_eq_true'.1 this e he
          simp only [hb, Bool.not_true, Bool.false_or, decide_eq_true_eq] at this
          rw [lst_get (by omega)]
          exact decide_eq_true this, fun t ht ht' => by rw [lst_get ht']; exact decide_eq_false (by omega)⟩,
        ⟨rfl, rfl, rfl, Nat.le_refl _, fun _ _ => rfl⟩, rfl, rfl, fun _ _ => rfl, fun j d _ hl hd => (h1 d (hdst j d (hlow j hl) hd)).1 _⟩,
        fun j d _ hl hd g hg => absurd hg ((h1 d (hdst j d (hlow j hl) hd)).2 g), fun i j d d' _ _ hl _ _ hd _ g hg => absurd hg ((h1 d (hdst i d (hlow i hl) hd)).2 g)⟩
    have hcnt : cnt (lst l.toArray.size k) n = n - k := by
      have : ∀ m, m ≤ l.toArray.size → cnt (lst l.toArray.size k) m = m - k := by
        intro m
        induction m with
        | zero => intro _; simp [cnt]
        | succ m ih =>
          intro hm
          simp only [cnt]
          rw [ih (by omega), lst_get (by omega)]
          by_cases h : m < k
          · simp [h]; omega
          · simp [h]; omega
      exact this n (by simpa using hns)
    have := typed_any3 (P := P) (Q := NoPanic Q) (S := S) (n := n) (k := k) hB hS (fun i o hk hi ho w' hb => h2 i o hk hi (by simpa using ho) w' hb) (by simpa using h3) (n - k) (lst l.toArray.size k) a1 _ inv0
      (fun i hi => by rw [lst_get (by omega)]; exact decide_eq_true hi) hcnt
    rwa [show n - k + (l.toArray.size - n) = l.length - k by simp; omega] at this
  have := held_head (P := P) (S := S) (Q := NoPanic Q) (w := { w with drawn := w.drawn + 1 }) hsel (fun c a' w' h => h) (hS _ ⟨rfl, rfl, rfl, Nat.le_refl _, fun _ _ => rfl⟩) hH (by omega) (l.take k) 0 (l.length - k) a
    (fun j hj => by rw [htl] at hj; rw [List.getElem?_take, if_pos hj]; simp) (by simpa using htl) key
  rw [htl] at this
  have fin : ∀ N, N = k + (l.length - k) → wpAnyH P .any l.toArray (NoPanic Q) S N (lst l.toArray.size 0) a { w with drawn := w.drawn + 1 } := fun N hN => by subst hN; exact this
  exact fin _ hsz
end Go.Proofs.Ytdkchiodepdclaa
