/- Events in memory: five cells written, which slots own what is new. -/
import Derived.Test.YteofjhoemcjlnaaSch12
import Derived.Test.YteofjhoemcjlnaaReg2
namespace Go.Proofs.Yteofjhoemcjlnaa
open Go.RowKit
set_option linter.unusedVariables false
def ptrF (v : Value) (g : Nat) : Prop := v = .pointer (some ⟨g, 0, none⟩)
def evF (v : Value) (g : Nat) : Prop := ∃ x y z V n c D m c', v = .agg #[x, y, z, .slice V n c, .slice D m c'] ∧ (Value.ownBlock (.slice V n c) = some g ∨ Value.ownBlock (.slice D m c') = some g)
/-- Which slots own new blocks: pointers to new ones, events whose lists are new. -/
def mkF (ps es : List Nat) : Fr := fun d v g => (d ∈ ps ∧ ptrF v g) ∨ (d ∈ es ∧ evF v g)
/-- Five cells are written. -/
theorem st5_same {w : World} {g : Nat} {a0 b0 c0 d0 e0 a b c d e : Value} {t : TypeId} {fr : Nat × Nat} (h : w.heap[g]? = some (.cells #[a0, b0, c0, d0, e0] t fr)) :
    (((((w.setCell ⟨g, 0, none⟩ a).setCell ⟨g, 1, none⟩ b).setCell ⟨g, 2, none⟩ c).setCell ⟨g, 3, none⟩ d).setCell ⟨g, 4, none⟩ e).heap[g]? = some (.cells #[a, b, c, d, e] t fr) :=
  Go.Joins.block_setCell (i := 4) (Go.Joins.block_setCell (i := 3) (Go.Joins.block_setCell (i := 2) (Go.Joins.block_setCell (i := 1) (Go.Joins.block_setCell (i := 0) h a) b) c) d) e
theorem st5_other {w : World} {g k : Nat} {a b c d e : Value} (h : k ≠ g) :
    (((((w.setCell ⟨g, 0, none⟩ a).setCell ⟨g, 1, none⟩ b).setCell ⟨g, 2, none⟩ c).setCell ⟨g, 3, none⟩ d).setCell ⟨g, 4, none⟩ e).heap[k]? = w.heap[k]? := by
  rw [Below.heap_setCell _ _ _ _ h, Below.heap_setCell _ _ _ _ h, Below.heap_setCell _ _ _ _ h, Below.heap_setCell _ _ _ _ h, Below.heap_setCell _ _ _ _ h]
theorem st5_below {w : World} {B g : Nat} {a b c d e : Value} (h : B ≤ g) :
    Below B w (((((w.setCell ⟨g, 0, none⟩ a).setCell ⟨g, 1, none⟩ b).setCell ⟨g, 2, none⟩ c).setCell ⟨g, 3, none⟩ d).setCell ⟨g, 4, none⟩ e) :=
  (((((Below.refl B w).setCell (p := ⟨g, 0, none⟩) h a).setCell (p := ⟨g, 1, none⟩) h b).setCell (p := ⟨g, 2, none⟩) h c).setCell (p := ⟨g, 3, none⟩) h d).setCell (p := ⟨g, 4, none⟩) h e
/-- The block of own memory differs from one of another type. -/
theorem Own.same5 {w : World} {B g : Nat} {E : TypeId} {A : Option Addr} {n k : Nat} {xs : List Value} {cs : Array Value} {t : TypeId} {fr : Nat × Nat} {a b c d e : Value} (h : Own w B E A n k xs) (hg : w.heap[g]? = some (.cells cs t fr)) (hne : E ≠ t) :
    Own (((((w.setCell ⟨g, 0, none⟩ a).setCell ⟨g, 1, none⟩ b).setCell ⟨g, 2, none⟩ c).setCell ⟨g, 3, none⟩ d).setCell ⟨g, 4, none⟩ e) B E A n k xs :=
  h.same fun g' hg' => st5_other (fun e' => h.ne hg hne (e' ▸ hg'))

theorem mkF_ptr {ps es : List Nat} {d : Tmp} {w w' : World} {h : Nat} (hh : w.heap.size = h) (hlt : h < w'.heap.size) : ∀ g, mkF ps es d (.pointer (some ⟨h, 0, none⟩)) g → w.heap.size ≤ g ∧ g < w'.heap.size := by
  rintro g (⟨_, hg⟩ | ⟨_, hg⟩)
  · injection hg with hg
    injection hg with hg
    injection hg with hg
    omega
  · obtain ⟨_, _, _, _, _, _, _, _, _, e, _⟩ := hg
    cases e
theorem mkF_ev {ps es : List Nat} {d : Tmp} {w w' : World} {v : Value} {e : Ev} (h : EvO w' w.heap.size v e) : ∀ g, mkF ps es d v g → w.heap.size ≤ g ∧ g < w'.heap.size := by
  obtain ⟨V, vc, D, dc, rfl, o1, o2⟩ := h
  rintro g (⟨_, hg⟩ | ⟨_, x, y, z, V', n, c, D', m, c', e, hg⟩)
  · cases hg
  · simp only [Value.agg.injEq, Array.mk.injEq, List.cons.injEq, Value.slice.injEq, and_true] at e
    obtain ⟨_, _, _, ⟨e1, e2, e3⟩, e4, e5, e6⟩ := e
    subst e1 e2 e3 e4 e5 e6
    rcases hg with hg | hg
    · exact ⟨o1.lt g hg, own_lt o1 g hg⟩
    · exact ⟨o2.lt g hg, own_lt o2 g hg⟩
/-- The frame behind a region, by its own values. -/
theorem behind2_fill {n : Nat} {T : Tmp → Ty} {F : Fr} {w0 w' : World} {a a' : Act} {l : List Oper} {ds : List Tmp} (hB : Behind2 l.toArray n T F w0 a w' a') (hds : dstsOf (l.take n) = ds) : a' = fill (fun t => a'.tmps.getD t undef) ds a := by
  subst hds
  have := behind_fill hB.toBehind
  simpa using this
end Go.Proofs.Yteofjhoemcjlnaa
