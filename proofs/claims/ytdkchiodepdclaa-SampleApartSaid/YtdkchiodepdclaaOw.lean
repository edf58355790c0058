/- Memory of the call's own: what a store or an append elsewhere leaves alone. No program is named here. -/
import Derived.Test.YtdkchiodepdclaaGn
namespace Go.Proofs.Ytdkchiodepdclaa
open Go.RowKit
/-- The block of what is owned has its elements' type. -/
theorem Own.ne {w : World} {B g : Nat} {E t : TypeId} {A : Option Addr} {n c : Nat} {xs : List Value} {cs : Array Value} {fr : Nat × Nat} (h : Own w B E A n c xs) (hg : w.heap[g]? = some (.cells cs t fr)) (hne : E ≠ t) : Value.ownBlock (.slice A n c) ≠ some g := by
  rcases h.2 with ⟨hv, _⟩ | ⟨g', cap, cur, hv, _, hh, _⟩
  · injection hv with e1; subst e1; simp [Value.ownBlock]
  · injection hv with e1
    subst e1
    intro he
    have : g' = g := by simpa [Value.ownBlock] using he
    subst this
    rw [hg] at hh
    injection hh with hh
    injection hh with _ ht _
    exact hne ht.symm
theorem Own.block {w : World} {B : Nat} {E : TypeId} {A : Option Addr} {n c : Nat} {xs : List Value} (h : Own w B E A n c xs) : A = none ∨ ∃ g cur, A = some ⟨g, 0, none⟩ ∧ B ≤ g ∧ w.heap[g]? = some (.cells cur E (0, 0)) := by
  rcases h.2 with ⟨hv, _⟩ | ⟨g', cap, cur, hv, hB, hh, _⟩
  · injection hv with e1; exact .inl e1
  · injection hv with e1; exact .inr ⟨g', cur, e1, hB, hh⟩
/-- What holds of the own block alone. -/
theorem Own.same {w w' : World} {B : Nat} {E : TypeId} {A : Option Addr} {n c : Nat} {xs : List Value} (h : Own w B E A n c xs) (hs : ∀ g, Value.ownBlock (.slice A n c) = some g → w'.heap[g]? = w.heap[g]?) : Own w' B E A n c xs := by
  obtain ⟨h1, h2⟩ := h
  refine ⟨h1, ?_⟩
  rcases h2 with h2 | ⟨g, cap, cur, hv, hg, hh, r⟩
  · exact .inl h2
  · refine .inr ⟨g, cap, cur, hv, hg, ?_, r⟩
    injection hv with e1
    subst e1
    rw [hs g (by simp [Value.ownBlock])]
    exact hh
/-- A store into a block of another type. -/
theorem Own.off {w : World} {B g : Nat} {E t : TypeId} {A : Option Addr} {n c : Nat} {xs : List Value} {cs : Array Value} {fr : Nat × Nat} (h : Own w B E A n c xs) (hg : w.heap[g]? = some (.cells cs t fr)) (hne : E ≠ t) (i : Nat) (u : Value) : Own (w.setCell ⟨g, i, none⟩ u) B E A n c xs :=
  h.same fun g' hg' => Below.heap_setCell _ _ _ _ (fun e => h.ne hg hne (by have e' : g' = g := e; rw [← e']; exact hg'))
theorem own_lt {w : World} {B : Nat} {E : TypeId} {A : Option Addr} {n c : Nat} {xs : List Value} (h : Own w B E A n c xs) : ∀ g, Value.ownBlock (.slice A n c) = some g → g < w.heap.size := fun g hg => (World.ownsRow.lt h g hg).2
/-- An append onto a slice of elements of another type. -/
theorem Own.grown_other {w w' : World} {B B' : Nat} {E E' : TypeId} {A A' : Option Addr} {n c n' c' : Nat} {xs xs' : List Value} (h : Own w B E A n c xs) (h' : Own w B' E' A' n' c' xs') (hne : E ≠ E') (g : w.grownBy w' (Value.ownBlock (.slice A' n' c'))) : Own w' B E A n c xs :=
  h.same fun k hk => by
    refine g.block k (own_lt h k hk) ?_
    rcases h.2 with ⟨hv, _⟩ | ⟨g', cap, cur, hv, _, hh, _⟩
    · injection hv with e1; subst e1; simp [Value.ownBlock] at hk
    · injection hv with e1
      subst e1
      have : g' = k := by simpa [Value.ownBlock] using hk
      subst this
      exact fun e => h'.ne hh (Ne.symm hne) e.symm
/-- A block of another type stays under an append. -/
theorem block_grown {w w' : World} {B g : Nat} {E t : TypeId} {A : Option Addr} {n c : Nat} {xs : List Value} {cs : Array Value} {fr : Nat × Nat} (hg : w.heap[g]? = some (.cells cs t fr)) (h : Own w B E A n c xs) (hne : E ≠ t) (gr : w.grownBy w' (Value.ownBlock (.slice A n c))) : w'.heap[g]? = some (.cells cs t fr) := by
  rw [gr.block g (Array.getElem?_eq_some_iff.1 hg).1 (fun e => h.ne hg hne e.symm)]; exact hg
end Go.Proofs.Ytdkchiodepdclaa
