/- Bytes of the call's own that are written over. -/
import Derived.Test.YtoepfdmloeiobaaDoorRows
import Derived.Test.YtoepfdmloeiobaaDoorGv
namespace Go.Proofs.YtoepfdmloeiobaaDoor
open Go.RowKit
set_option linter.unusedVariables false

/-- Bytes that may be written: from block B on. -/
def Wb (w : World) (B : Nat) (A : Option Addr) (n : Nat) : Prop := 0 < n → ∃ g cur, A = some ⟨g, 0, none⟩ ∧ B ≤ g ∧ w.heap[g]? = some (.cells cur 5 (0, 0)) ∧ ∀ j, j < n → ∃ u : UInt8, cur[j]? = some (Bv u)
theorem Wb.of_own {w : World} {B : Nat} {A : Option Addr} {n c : Nat} {l : List UInt8} (h : Own w B 5 A n c (l.map Bv)) : Wb w B A n := by
  intro hn
  obtain ⟨h1, ⟨_, h0⟩ | ⟨g, cap, cur, hv, hB, hg, _, _, _, ht⟩⟩ := h
  · omega
  · injection hv with a
    refine ⟨g, cur, a, hB, hg, fun j hj => ?_⟩
    have hjl : j < l.length := by simp at h1; omega
    refine ⟨l[j], ?_⟩
    have : (l.map Bv)[j]? = some (Bv l[j]) := by simp [List.getElem?_eq_getElem hjl]
    rw [← ht, List.getElem?_take] at this
    split at this
    · simpa using this
    · cases this
theorem Wb.below {w w' : World} {B : Nat} {A : Option Addr} {n : Nat} (h : Wb w B A n) (hb : Below w.heap.size w w') : Wb w' B A n := by
  intro hn
  obtain ⟨g, cur, a, hB, hg, hu⟩ := h hn
  exact ⟨g, cur, a, hB, by rw [hb.block g (Array.getElem?_eq_some_iff.1 hg).1]; exact hg, hu⟩
theorem Wb.set {w : World} {B : Nat} {A : Option Addr} {n : Nat} (h : Wb w B A n) (g' i : Nat) (x : Value) (v : UInt8) (hx : x = Bv v) : Wb (w.setCell ⟨g', i, none⟩ x) B A n := by
  subst hx
  intro hn
  obtain ⟨g, cur, a, hB, hg, hu⟩ := h hn
  by_cases e : g' = g
  · subst e
    refine ⟨g', cur.setIfInBounds i (Bv v), a, hB, by simp [World.setCell, Array.getElem?_modify, hg], fun j hj => ?_⟩
    obtain ⟨u, hju⟩ := hu j hj
    rw [Array.getElem?_setIfInBounds]
    split
    · split
      · exact ⟨v, rfl⟩
      · rename_i e1 e2
        subst e1
        rw [Array.getElem?_eq_none (by omega)] at hju
        cases hju
    · exact ⟨u, hju⟩
  · exact ⟨g, cur, a, hB, by rw [Below.heap_setCell _ _ _ _ (by exact fun e' => e e'.symm)]; exact hg, hu⟩
theorem Wb.cell {w : World} {B : Nat} {A : Option Addr} {n : Nat} (h : Wb w B A n) {j : Nat} (hj : j < n) : ∃ (g : Nat) (u : UInt8) (cur : Array Value), A = some ⟨g, 0, none⟩ ∧ B ≤ g ∧ w.heap[g]? = some (.cells cur 5 (0, 0)) ∧ w.cell? ⟨g, j, none⟩ = some (.int .u8 (u.toNat : Int)) ∧ w.frozen? ⟨g, j, none⟩ = false := by
  obtain ⟨g, cur, a, hB, hg, hu⟩ := h (by omega)
  obtain ⟨u, hju⟩ := hu j hj
  exact ⟨g, u, cur, a, hB, hg, by rw [cell_of_row w g j cur 5 (0, 0) hg, hju]; rfl, by simp [World.frozen?, hg]⟩

theorem Own.set_other {w : World} {B : Nat} {E : TypeId} {A : Option Addr} {n c : Nat} {xs : List Value} (h : Own w B E A n c xs) {g i : Nat} (hg : g < B) (v : Value) : Own (w.setCell ⟨g, i, none⟩ v) B E A n c xs := by
  obtain ⟨h1, h2⟩ := h
  refine ⟨h1, ?_⟩
  rcases h2 with h2 | ⟨g', cap, cur, hv, hB, hh, r⟩
  · exact .inl h2
  · exact .inr ⟨g', cap, cur, hv, hB, by rw [Below.heap_setCell _ _ _ _ (by exact fun e => by simp at e; omega)]; exact hh, r⟩
theorem Wb.lt {w : World} {B : Nat} {A : Option Addr} {n : Nat} (h : Wb w B A n) (hn : 0 < n) : ∃ g, A = some ⟨g, 0, none⟩ ∧ B ≤ g ∧ g < w.heap.size := by
  obtain ⟨g, cur, a, hB, hg, _⟩ := h hn
  exact ⟨g, a, hB, (Array.getElem?_eq_some_iff.1 hg).1⟩
end Go.Proofs.YtoepfdmloeiobaaDoor
