/- Layer 4: spans: plain facts for the laws. -/
import Derived.Test.YtofphdodihbijaaDoorSt0
namespace Go.Proofs.YtofphdodihbijaaDoor
open Go.RowKit
set_option linter.unusedVariables false
theorem lenR (p : Int × Int) : 0 ≤ lenP p ∧ lenP p ≤ 4294967295 := by
  unfold lenP
  split
  · omega
  · rw [Int.min_def]; split <;> omega
theorem len_more {a b a' b' : Int} (h : a ≤ b) (h' : b' - a' = b - a + 1) : lenP (a', b') = (if 4294967295 < lenP (a, b) + 1 then 4294967295 else lenP (a, b) + 1) := by
  unfold lenP
  simp only
  rw [if_neg (show ¬ b' < a' by omega), if_neg (show ¬ b < a by omega), Int.min_def, Int.min_def]
  repeat' split
  all_goals omega
theorem len_one (a : Int) : lenP (a, a) = 1 := by
  unfold lenP
  simp only
  rw [if_neg (by omega), Int.min_def]
  split <;> omega
theorem len_cut {a b x : Int} (h : a ≤ x) (h' : x < b) : (if 4294967295 < lenP (a, x) + lenP (x + 1, b) then 4294967295 else lenP (a, x) + lenP (x + 1, b)) = lenP (a, b) := by
  unfold lenP
  simp only
  rw [if_neg (by omega : ¬ x < a), if_neg (by omega : ¬ b < x + 1), if_neg (by omega : ¬ b < a), Int.min_def, Int.min_def, Int.min_def]
  repeat' split
  all_goals omega
end Go.Proofs.YtofphdodihbijaaDoor
