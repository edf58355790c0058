/- Layer 9: what the laws ask of package desc (DescOK: the contracts, to be proved of the code that has landed). -/
import Derived.Test.YtdkchiodepdclaaRo
import Derived.Test.YtdkchiodepdclaaRv
namespace Go.Proofs.Ytdkchiodepdclaa
open Go.RowKit
set_option linter.unusedVariables false
/-- A list that the laws hand in: of bounded length and size. -/
structure Fit (n : Nat) (xs : List (Dsc × Hd)) : Prop where
  len : n ≤ 1000
  all : ∀ x ∈ xs, dscR x.1 ∧ x.1.2.2.2.length ≤ 1000
def Fit1 (d : Dsc) : Prop := dscR d ∧ d.2.2.2.length ≤ 1000
def isView (ds : List Dsc) : Prop := ∃ self room, RightD ds self room
def GavePo (ds : List Dsc) (b : Bool) (w : World) (e : Ending) (w' : World) : Prop := ∃ (A : Option Addr) (n c : Nat) (xs : List (Dsc × Hd)), e = .returned (.tuple #[.slice A n c, .bool b]) ∧ xs.map (·.1) = ds ∧ Dow w' w.heap.size A n c xs ∧ Below w.heap.size w w'
abbrev byt (v : Int) : Prop := 0 ≤ v ∧ v ≤ 255
theorem Ods.next {w w' : World} {B : Nat} {A : Option Addr} {n c : Nat} {xs : List (Dsc × Hd)} (h : Ods w B A n c xs) (hb : Below w.heap.size w w') : Ods w' B A n c xs := h.below hb
theorem Dow.next {w w' : World} {B : Nat} {A : Option Addr} {n c : Nat} {xs : List (Dsc × Hd)} (h : Dow w B A n c xs) (hb : Below w.heap.size w w') : Dow w' B A n c xs := h.below hb
theorem map2 {xs : List (Dsc × Hd)} {a b : Dsc} (h : xs.map (·.1) = [a, b]) : ∃ h1 h2, xs = [(a, h1), (b, h2)] := by
  rcases xs with _ | ⟨⟨x, hx⟩, _ | ⟨⟨y, hy⟩, _ | ⟨z, t⟩⟩⟩ <;> simp at h
  obtain ⟨rfl, rfl⟩ := h
  exact ⟨hx, hy, rfl⟩
theorem map3 {xs : List (Dsc × Hd)} {a b c : Dsc} (h : xs.map (·.1) = [a, b, c]) : ∃ h1 h2 h3, xs = [(a, h1), (b, h2), (c, h3)] := by
  rcases xs with _ | ⟨⟨x, hx⟩, _ | ⟨⟨y, hy⟩, _ | ⟨⟨z, hz⟩, _ | ⟨u, t⟩⟩⟩⟩ <;> simp at h
  obtain ⟨rfl, rfl, rfl⟩ := h
  exact ⟨hx, hy, hz, rfl⟩
theorem fit_of {n : Nat} {xs : List (Dsc × Hd)} {ds : List Dsc} (h : xs.map (·.1) = ds) (hn : n ≤ 1000) (hd : ∀ d ∈ ds, dscR d ∧ d.2.2.2.length ≤ 1000) : Fit n xs := ⟨hn, fun x hx => hd x.1 (h ▸ List.mem_map.2 ⟨x, hx, rfl⟩)⟩
end Go.Proofs.Ytdkchiodepdclaa
