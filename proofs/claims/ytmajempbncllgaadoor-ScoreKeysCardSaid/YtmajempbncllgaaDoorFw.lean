/- Layer 5: the chapter's examples. -/
import Derived.Test.YtmajempbncllgaaDoorFd
namespace Go.Proofs.YtmajempbncllgaaDoor
open Go.RowKit
set_option linter.unusedVariables false
theorem inRs {ps : List (Int × Int)} (h : (ps.all fun p => decide (-2147483648 ≤ p.1) && decide (p.1 ≤ 2147483647) && decide (-2147483648 ≤ p.2) && decide (p.2 ≤ 2147483647)) = true) : ∀ p ∈ ps, inR p := fun p hp => by
  have := List.all_eq_true.1 h p hp
  simp only [Bool.and_eq_true, decide_eq_true_eq] at this
  exact ⟨⟨this.1.1.1, this.1.1.2⟩, this.1.2, this.2⟩
end Go.Proofs.YtmajempbncllgaaDoor