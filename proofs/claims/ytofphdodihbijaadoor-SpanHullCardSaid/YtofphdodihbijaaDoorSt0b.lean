/- Layer 4: spans: plain facts for the laws. -/
import Derived.Test.YtofphdodihbijaaDoorSt0
namespace Go.Proofs.YtofphdodihbijaaDoor
open Go.RowKit
set_option linter.unusedVariables false
theorem hullP_comm (p q : Int × Int) : hullP q p = hullP p q := by
  unfold hullP
  by_cases h1 : p.2 < p.1 <;> by_cases h2 : q.2 < q.1
  · simp only [h1, h2, if_true]
  · simp only [h1, h2, if_true, if_false]
  · simp only [h1, h2, if_true, if_false]
  · simp only [h1, h2, if_false]
    rw [Int.min_comm, Int.max_comm]
theorem hull_cov (p q : Int × Int) : covB (hullP p q) p = true := by
  rw [cov_iff]
  unfold hullP
  split
  · omega
  · split
    · omega
    · simp only; omega
theorem inR_hull {p q : Int × Int} (hp : inR p) (hq : inR q) : inR (hullP p q) := by
  obtain ⟨⟨_, _⟩, _, _⟩ := hp
  obtain ⟨⟨_, _⟩, _, _⟩ := hq
  unfold hullP
  split
  · split
    · exact ⟨by decide, by decide⟩
    · exact ⟨⟨by omega, by omega⟩, by omega, by omega⟩
  · split
    · exact ⟨⟨by omega, by omega⟩, by omega, by omega⟩
    · exact ⟨⟨by simp only; omega, by simp only; omega⟩, by simp only; omega, by simp only; omega⟩
theorem hull_cov_of {p q r : Int × Int} (hp : covB r p = true) (hq : covB r q = true) (hn : ¬ (p.2 < p.1 ∧ q.2 < q.1)) : covB r (hullP p q) = true := by
  rw [cov_iff] at *
  unfold hullP
  split
  · split
    · omega
    · omega
  · split
    · omega
    · simp only; omega
theorem hull_from (p q : Int × Int) (hn : ¬ (p.2 < p.1 ∧ q.2 < q.1)) : (hullP p q).1 = p.1 ∨ (hullP p q).1 = q.1 := by
  unfold hullP
  split
  · split
    · omega
    · exact .inr rfl
  · split
    · exact .inl rfl
    · simp only; omega
theorem hull_to (p q : Int × Int) (hn : ¬ (p.2 < p.1 ∧ q.2 < q.1)) : (hullP p q).2 = p.2 ∨ (hullP p q).2 = q.2 := by
  unfold hullP
  split
  · split
    · omega
    · exact .inr rfl
  · split
    · exact .inl rfl
    · simp only; omega
theorem len_zero {p : Int × Int} (h : p.2 < p.1) : lenP p = 0 := if_pos h
theorem len_zero_iff (p : Int × Int) : lenP p = 0 ↔ p.2 < p.1 := by
  unfold lenP
  split
  · omega
  · rw [Int.min_def]; split <;> omega
end Go.Proofs.YtofphdodihbijaaDoor
