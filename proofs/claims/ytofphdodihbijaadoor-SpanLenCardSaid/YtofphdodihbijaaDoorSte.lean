/- Numbers held against one another. No program is named here. -/
namespace Go.Proofs.YtofphdodihbijaaDoor
theorem beq_of {a b : Int} {l : Bool} (h : decide (a = b) = l) : (a == b) = l := by
  subst h
  by_cases e : a = b
  · simp [e]
  · simp [e]
end Go.Proofs.YtofphdodihbijaaDoor
