/- Layer 10: CyclonTwo: plain facts. -/
import Derived.Test.YtgbnnllbpidlfaaYm
namespace Go.Proofs.Ytgbnnllbpidlfaa
open Go.RowKit
set_option linter.unusedVariables false
def a250 (x : Dsc × Hd) : Dsc × Hd := ((x.1.1, x.1.2.1, min x.1.2.2.1 250, x.1.2.2.2), x.2)
abbrev hiL (vs : List (Dsc × Hd)) (hi : Nat) : List (Dsc × Hd) := (vs.map a250).take hi
abbrev twoL (vs : List (Dsc × Hd)) (hi : Nat) : List Dsc := dropD ((hiL vs hi).map (·.1)) 201 ++ [(201, 1, 255, [])]
theorem hi_right {vs : List (Dsc × Hd)} {me room : Int} (h : RightD (vs.map (·.1)) me room) (hi : Nat) : RightD ((hiL vs hi).map (·.1)) me room := by
  have h2 : RightD ((vs.map a250).map (·.1)) me room := by
    refine ⟨fun d hd => ?_, ?_, h.2.2.1, by have := h.2.2.2; simpa using this⟩
    · rw [List.map_map] at hd
      obtain ⟨x, hx, rfl⟩ := List.mem_map.1 hd
      exact h.1 x.1 (List.mem_map.2 ⟨x, hx, rfl⟩)
    · have h3 := h.2.1
      rw [List.pairwise_map] at h3
      rw [List.pairwise_map, List.pairwise_map]
      exact h3
  refine h2.sub ?_
  exact List.Sublist.map _ (List.take_sublist _ _)
theorem hi_mem {vs : List (Dsc × Hd)} {hi : Nat} {z : Dsc × Hd} (h : z ∈ hiL vs hi) : ∃ x ∈ vs, z = a250 x := by
  obtain ⟨x, hx, e⟩ := List.mem_map.1 (List.mem_of_mem_take h)
  exact ⟨x, hx, e.symm⟩
theorem hi_fit1 {vs : List (Dsc × Hd)} {hi : Nat} (h : ∀ x ∈ vs, Fit1 x.1) : ∀ z ∈ hiL vs hi, Fit1 z.1 ∧ z.1.2.2.1 ≤ 250 := fun z hz => by
  obtain ⟨x, hx, rfl⟩ := hi_mem hz
  obtain ⟨⟨a, b, c⟩, l⟩ := h x hx
  refine ⟨⟨⟨a, b, ?_⟩, l⟩, ?_⟩
  · unfold a250; dsimp only; omega
  · unfold a250; dsimp only; omega
theorem two_mem {vs : List (Dsc × Hd)} {hi : Nat} {d : Dsc} (h : d ∈ twoL vs hi) : (∃ z ∈ hiL vs hi, d = z.1) ∨ d = (201, 1, 255, []) := by
  rcases List.mem_append.1 h with h | h
  · obtain ⟨z, hz, rfl⟩ := List.mem_map.1 (dropD_mem.1 h).1
    exact .inl ⟨z, hz, rfl⟩
  · rw [List.mem_singleton] at h; exact .inr h
theorem two_fit1 {vs : List (Dsc × Hd)} {hi : Nat} (h : ∀ x ∈ vs, Fit1 x.1) : ∀ d ∈ twoL vs hi, Fit1 d := fun d hd => by
  rcases two_mem hd with ⟨z, hz, rfl⟩ | rfl
  · exact (hi_fit1 h z hz).1
  · exact ⟨by simp [dscR], by simp⟩
theorem two_ask {vs : List (Dsc × Hd)} {hi : Nat} (h : ∀ x ∈ vs, Fit1 x.1) {many : Int} (hm : 1 ≤ many) (rs : List Int) : askD (twoL vs hi) (200, 1, 0, []) many rs = (201, (200, 1, 0, []) :: pickD (dropD (twoL vs hi) 201) (many - 1) rs, true) := by
  have hlast : (twoL vs hi)[(dropD ((hiL vs hi).map (·.1)) 201).length]? = some (201, 1, 255, []) := by rw [List.getElem?_append_right (Nat.le_refl _), Nat.sub_self]; rfl
  have hold : IsOld (twoL vs hi) (dropD ((hiL vs hi).map (·.1)) 201).length 255 := by
    refine ⟨⟨_, hlast, rfl⟩, fun e he => ?_, fun i e hi2 he => ?_⟩
    · rcases two_mem he with ⟨z, hz, rfl⟩ | rfl
      · have := (hi_fit1 h z hz).2; omega
      · exact Int.le_refl _
    · rw [List.getElem?_append_left hi2] at he
      obtain ⟨z, hz, rfl⟩ := List.mem_map.1 (dropD_mem.1 (List.mem_of_getElem? he)).1
      have := (hi_fit1 h z hz).2; omega
  obtain ⟨k, d, e, hd, hA⟩ := ask_yes (l := twoL vs hi) (200, 1, 0, []) rs (by intro q; have := congrArg List.length q; simp at this) hm
  rw [oldI_of hold] at e
  obtain rfl : (dropD ((hiL vs hi).map (·.1)) 201).length = k := by omega
  rw [hlast] at hd
  obtain rfl := Option.some.inj hd
  exact hA
/-- May the one that asked come in? -/
def MayIn (b back sent : List Dsc) (room : Int) : Prop := (b.length : Int) < room ∨ hasN b 200 = true ∨ ∃ s ∈ back, hasN sent s.1 = false
theorem two_in {b : List Dsc} {room many : Int} {rs : List Int} {gs : List Dsc} (hr : RightD b 201 room) (h : MayIn b (pickD (dropD b 200) many rs) ((200, 1, 0, []) :: gs) room) : hasN (mergeD b ((200, 1, 0, []) :: gs) (pickD (dropD b 200) many rs) 201 room) 200 = true := by
  refine merge_first (d := (200, 1, 0, [])) hr (by decide) (by decide) ?_
  rcases h with h | h | ⟨s, hs, h⟩
  · exact .inl h
  · exact .inr (.inl h)
  · exact .inr (.inr ⟨s, hs, h, hasN_iff.2 ⟨s, (dropD_mem.1 (pick_mem hs)).1, rfl⟩⟩)
theorem take_last {α : Type} {xs : List α} {j : Nat} {x : α} (h : xs[j]? = some x) {P : α → Prop} (h1 : ∀ y ∈ xs.take j, P y) (h2 : P x) : ∀ y ∈ xs.take (j + 1), P y := fun y hy => by
  rw [List.take_add_one, h] at hy
  rcases List.mem_append.1 hy with hy | hy
  · exact h1 y hy
  · have : y = x := by simpa using hy
    subst this; exact h2
end Go.Proofs.Ytgbnnllbpidlfaa
