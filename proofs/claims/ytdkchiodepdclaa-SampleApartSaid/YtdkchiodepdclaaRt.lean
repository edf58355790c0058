/- Layer 9: the reference Right. -/
import Derived.Test.YtdkchiodepdclaaRs
namespace Go.Proofs.Ytdkchiodepdclaa
open Go.RowKit
set_option linter.unusedVariables false
/-- A view, each Inc at least 1. -/
def RightD (ds : List Dsc) (self room : Int) : Prop := (∀ d ∈ ds, d.1 ≠ self ∧ d.2.1 ≠ 0) ∧ ds.Pairwise (fun a b => a.1 < b.1) ∧ 0 ≤ room ∧ (ds.length : Int) ≤ room
instance (ds : List Dsc) (self room : Int) : Decidable (RightD ds self room) := inferInstanceAs (Decidable (_ ∧ _ ∧ _ ∧ _))
/-- Up to j all is well. -/
def WellX (xs : List (Dsc × Hd)) (self : Int) (j : Nat) : Prop := ∀ i x, i < j → xs[i]? = some x → (x.1.1 ≠ self ∧ x.1.2.1 ≠ 0) ∧ ∀ k y, k < i → xs[k]? = some y → y.1.1 < x.1.1
theorem well_right {xs : List (Dsc × Hd)} {self room : Int} (h : WellX xs self xs.length) : RightD (xs.map (·.1)) self room ↔ 0 ≤ room ∧ (xs.length : Int) ≤ room := by
  unfold RightD
  rw [List.length_map]
  constructor
  · exact fun h => h.2.2
  · intro hr
    refine ⟨fun d hd => ?_, ?_, hr⟩
    · obtain ⟨x, hx, rfl⟩ := List.mem_map.1 hd
      obtain ⟨i, hi, e⟩ := List.mem_iff_getElem.1 hx
      exact (h i x hi (by rw [← e]; exact List.getElem?_eq_getElem hi)).1
    · rw [List.pairwise_map]
      refine List.pairwise_iff_getElem.2 fun i j hi hj hij => ?_
      exact (h j _ hj (List.getElem?_eq_getElem hj)).2 i _ hij (List.getElem?_eq_getElem hi)
theorem ill_right {xs : List (Dsc × Hd)} {self room : Int} {j : Nat} {x : Dsc × Hd} (hx : xs[j]? = some x) (h : (x.1.1 = self ∨ x.1.2.1 = 0) ∨ ∃ k y, k < j ∧ xs[k]? = some y ∧ x.1.1 ≤ y.1.1) : ¬ RightD (xs.map (·.1)) self room := by
  rintro ⟨h1, h2, _⟩
  rcases h with h | ⟨k, y, hk, hy, hle⟩
  · have := h1 x.1 (List.mem_map.2 ⟨x, List.mem_of_getElem? hx, rfl⟩)
    rcases h with h | h
    · exact this.1 h
    · exact this.2 h
  · rw [List.pairwise_map] at h2
    have hj := (List.getElem?_eq_some_iff.1 hx).1
    have := List.pairwise_iff_getElem.1 h2 k j (by omega) hj hk
    rw [(List.getElem?_eq_some_iff.1 hx).2, (List.getElem?_eq_some_iff.1 hy).2] at this
    omega
end Go.Proofs.Ytdkchiodepdclaa
