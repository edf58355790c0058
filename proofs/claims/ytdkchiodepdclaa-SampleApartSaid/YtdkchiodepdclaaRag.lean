/- Layer 9: DescAges. -/
import Derived.Test.YtdkchiodepdclaaRaw
namespace Go.Proofs.Ytdkchiodepdclaa
open Go.RowKit
set_option linter.unusedVariables false
theorem few_yes {ds : List Dsc} (h : fewB ds = true) : (∀ d ∈ ds, d.2.2.2.length ≤ 8) ∧ ds.length ≤ 20 := of_decide_eq_true h
theorem few_fit {n : Nat} {xs : List (Dsc × Hd)} (h : fewB (xs.map (·.1)) = true) (hl : n = xs.length) (hR : ∀ x ∈ xs, dscR x.1) : Fit n xs := by
  obtain ⟨h1, h2⟩ := few_yes h
  rw [List.length_map] at h2
  exact ⟨by omega, fun x hx => ⟨hR x hx, Nat.le_trans (h1 x.1 (List.mem_map.2 ⟨x, hx, rfl⟩)) (by decide)⟩⟩
theorem view_fit {n m : Nat} {xs zs : List (Dsc × Hd)} {self room k : Int} (h : ViewX xs zs self room k) (hf : Fit n xs) (hr : room ≤ 1000) (hl : m = zs.length) : Fit m zs := ⟨by have := h.room_; omega, h.well hf.all⟩
theorem fit_older {n : Nat} {zs os : List (Dsc × Hd)} (h : Fit n zs) (e : os.map (·.1) = olderD (zs.map (·.1))) : Fit n os := by
  refine fit_of e h.len fun d hd => ?_
  obtain ⟨x, hx, rfl⟩ := List.mem_map.1 hd
  obtain ⟨z, hz, rfl⟩ := List.mem_map.1 hx
  obtain ⟨⟨a, b, c⟩, l⟩ := h.all z hz
  refine ⟨⟨a, b, ?_⟩, l⟩
  unfold oldD; simp only; split <;> omega
theorem older_get {zs os : List (Dsc × Hd)} {j : Nat} {x y : Dsc × Hd} (e : os.map (·.1) = olderD (zs.map (·.1))) (hx : zs[j]? = some x) (hy : os[j]? = some y) : y.1 = oldD x.1 := by
  have h := congrArg (·[j]?) e
  simp only [List.getElem?_map, older_at, hx, hy, Option.map_some] at h
  injection h
theorem oldD_min (d : Dsc) (h : dscR d) : (if 255 < d.2.2.1 + 1 then 255 else d.2.2.1 + 1) = (oldD d).2.2.1 := by
  obtain ⟨_, _, h1, h2⟩ := h
  unfold oldD; simp only
  by_cases h3 : d.2.2.1 = 255
  · rw [if_pos h3, if_pos (by omega)]
  · rw [if_neg h3, if_neg (by omega)]
end Go.Proofs.Ytdkchiodepdclaa
