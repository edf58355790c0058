import Derived.Test.YtmajempbncllgaaDoorSch2
namespace Go.Proofs.YtmajempbncllgaaDoor
open Go.RowKit
theorem brought_of (x a b y : Int) (hy : min (max x a) b = y) (w : World) : Calls Tryd.prog 38 #[.int .i32 x, .int .i32 a, .int .i32 b] w fun e w' => e = .returned (.int .i32 y) ∧ w = w' := by
  subst hy; exact brought_any x a b w
theorem bro_q {x a b y : Int} (hy : min (max x a) b = y) (w : World) : Calls Tryd.prog 38 #[.int .i32 x, .int .i32 a, .int .i32 b] w fun e w' => e = .returned (.int .i32 y) ∧ w' = w :=
  (brought_of x a b y hy w).mono fun _ _ ⟨he, hw⟩ => ⟨he, hw.symm⟩
def inB (q : (Int × Int) × Int) : Bool := decide (q.1.1 ≤ q.2) && decide (q.2 ≤ q.1.2)
def fitsB (ps : List (Int × Int)) (xs : List Int) : Bool := decide (xs.length = ps.length) && (ps.zip xs).all inB
def Fit (ps : List (Int × Int)) (xs : List Int) (j : Nat) : Prop := ∀ i, i < j → ∀ p x, ps[i]? = some p → xs[i]? = some x → p.1 ≤ x ∧ x ≤ p.2
theorem Fit.succ {ps : List (Int × Int)} {xs : List Int} {j : Nat} {p : Int × Int} {x : Int} (h : Fit ps xs j) (hp : ps[j]? = some p) (hx : xs[j]? = some x) (h1 : p.1 ≤ x) (h2 : x ≤ p.2) : Fit ps xs (j + 1) := fun i hi q y hq hy => by
  rcases Nat.lt_or_ge i j with h3 | h3
  · exact h i h3 q y hq hy
  · obtain rfl : i = j := by omega
    rw [hp] at hq; rw [hx] at hy
    injection hq with hq; injection hy with hy
    subst hq hy
    exact ⟨h1, h2⟩
theorem fitsB_len {ps : List (Int × Int)} {xs : List Int} (h : ¬ xs.length = ps.length) : fitsB ps xs = false := by simp [fitsB, h]
theorem fitsB_all {ps : List (Int × Int)} {xs : List Int} (hl : xs.length = ps.length) (h : Fit ps xs ps.length) : fitsB ps xs = true := by
  have : (ps.zip xs).all inB = true := List.all_eq_true.2 fun q hq => by
    obtain ⟨i, hi⟩ := List.mem_iff_getElem?.1 hq
    rw [List.getElem?_zip_eq_some] at hi
    have := h i (List.getElem?_eq_some_iff.1 hi.1).1 _ _ hi.1 hi.2
    simp [inB, this]
  simp [fitsB, this, hl]
theorem fitsB_get {ps : List (Int × Int)} {xs : List Int} (h : fitsB ps xs = true) : xs.length = ps.length ∧ Fit ps xs ps.length := by
  simp only [fitsB, Bool.and_eq_true, decide_eq_true_eq] at h
  refine ⟨h.1, fun i hi p x hp hx => ?_⟩
  have := List.all_eq_true.1 h.2 (p, x) (List.mem_of_getElem? (List.getElem?_zip_eq_some.2 ⟨hp, hx⟩))
  simpa [inB] using this
theorem fitsB_bad {ps : List (Int × Int)} {xs : List Int} {j : Nat} {p : Int × Int} {x : Int} (hp : ps[j]? = some p) (hx : xs[j]? = some x) (h : ¬ (p.1 ≤ x ∧ x ≤ p.2)) : fitsB ps xs = false := by
  cases hb : fitsB ps xs with
  | false => rfl
  | true => exact absurd ((fitsB_get hb).2 j (List.getElem?_eq_some_iff.1 hp).1 p x hp hx) h

end Go.Proofs.YtmajempbncllgaaDoor
