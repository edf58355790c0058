/- Layer 9: DescNewer: its closure. -/
import Derived.Test.YtdkchiodepdclaaRag
namespace Go.Proofs.Ytdkchiodepdclaa
open Go.RowKit
set_option linter.unusedVariables false
theorem put_mem {ds : List Dsc} {d e : Dsc} {self room : Int} (hr : RightD ds self room) (h : e ∈ putD ds d self room) : e = d ∨ e ∈ ds := by
  cases hf : refuseD ds d self room with
  | true => rw [put_yes hf] at h; exact .inr h
  | false => rw [put_no hr hf] at h; rcases insL_mem.1 h with h | h; exact .inl h; exact .inr h.1
theorem fit_put {n m : Nat} {zs os : List (Dsc × Hd)} {d : Dsc} {self room : Int} (h : Fit n zs) (hr : RightD (zs.map (·.1)) self room) (hd : Fit1 d) (h1 : room ≤ 1000) (e : os.map (·.1) = putD (zs.map (·.1)) d self room) (hm : m = os.length) : Fit m os := by
  refine fit_of e ?_ fun x hx => ?_
  · have h2 := (right_put hr d).2.2.2
    rw [← e, List.length_map] at h2
    omega
  · rcases put_mem hr hx with rfl | hx
    · exact hd
    · obtain ⟨z, hz, rfl⟩ := List.mem_map.1 hx
      exact h.all z hz
end Go.Proofs.Ytdkchiodepdclaa
