/- Layer 5: filters: words, and the reference's contracts. -/
import Derived.Test.YtmajempbncllgaaDoorFr
import Derived.Test.YtmajempbncllgaaDoorReg6
import Derived.Test.YtmajempbncllgaaDoorGn
import Derived.Test.YtmajempbncllgaaDoorOw
import Derived.LoopTactic
import Derived.RegionTactic
import Derived.Deep.QuietTactic
import Derived.OwnWalk
namespace Go.Proofs.YtmajempbncllgaaDoor
open Go.RowKit
set_option linter.unusedVariables false
def okF (f s : Int × Int) : Bool := decide (f.1 ≤ f.2) && decide (s.1 ≤ f.1) && decide (f.2 ≤ s.2)
def rightF (ps fs : List (Int × Int)) : Bool := decide (fs.length = 0) || (decide (fs.length = ps.length) && (fs.zip ps).all fun x => okF x.1 x.2)
def matchF (fs : List (Int × Int)) (xs : List Int) : Bool := decide (fs.length = xs.length) && decide (0 < fs.length) && (fs.zip xs).all fun x => hasB x.1 x.2
def coversF (es bs : List (Int × Int)) : Bool := decide (bs.length = 0) || (decide (es.length = bs.length) && (es.zip bs).all fun x => covB x.1 x.2)
def meetF (es bs : List (Int × Int)) : List (Int × Int) := if es.length = bs.length ∧ ((es.zip bs).all fun x => meetB x.1 x.2) = true then (es.zip bs).map (fun x => meetP x.1 x.2) else []
def sameF (es bs : List (Int × Int)) : Bool := decide (es = bs)
theorem zip_at {α β : Type} {es : List α} {bs : List β} {j : Nat} {p : α} {q : β} (hp : es[j]? = some p) (hq : bs[j]? = some q) : (es.zip bs)[j]? = some (p, q) := by
  rw [List.getElem?_zip_eq_some]; exact ⟨hp, hq⟩
theorem all_step {α : Type} {l : List α} {f : α → Bool} {j : Nat} {x : α} (h : l[j]? = some x) : (l.take (j + 1)).all f = ((l.take j).all f && f x) := by
  simp [List.take_add_one, h]
theorem all_whole {α : Type} {l : List α} {f : α → Bool} {j : Nat} (h : l.length ≤ j) : (l.take j).all f = l.all f := by rw [List.take_of_length_le h]
theorem zip_len {α β : Type} {es : List α} {bs : List β} (h : es.length = bs.length) : (es.zip bs).length = es.length := by simp [h]
/-- Cells of one element, in whatever world follows. -/
theorem sp_cells {w : World} {A : Option Addr} {n c : Nat} {ps : List (Int × Int)} (h : Sp w w.heap.size A n c ps) {j : Nat} (hj : j < n) :
    ∃ b off p, A = some ⟨b, off, none⟩ ∧ ps[j]? = some p ∧ Hid (∀ w', Below w.heap.size w w' → w'.cell? ⟨b, off + j * 2, none⟩ = some (.int .i32 p.1) ∧ w'.cell? ⟨b, off + j * 2 + 1, none⟩ = some (.int .i32 p.2)) := by
  obtain ⟨b, off, p, rfl, hb, hp, c1, c2⟩ := sp_at h hj
  exact ⟨b, off, p, rfl, hp, fun w' hw => ⟨(hw.cell (p := ⟨b, off + j * 2, none⟩) hb).trans c1, (hw.cell (p := ⟨b, off + j * 2 + 1, none⟩) hb).trans c2⟩⟩
theorem si_cells {w : World} {A : Option Addr} {n c : Nat} {xs : List Int} (h : Si w w.heap.size A n c xs) {j : Nat} (hj : j < n) :
    ∃ b off x, A = some ⟨b, off, none⟩ ∧ xs[j]? = some x ∧ Hid (∀ w', Below w.heap.size w w' → w'.cell? ⟨b, off + j, none⟩ = some (.int .i32 x)) := by
  obtain ⟨b, off, x, rfl, hb, hp, c1⟩ := si_at h hj
  exact ⟨b, off, x, rfl, hp, fun w' hw => (hw.cell (p := ⟨b, off + j, none⟩) hb).trans c1⟩
end Go.Proofs.YtmajempbncllgaaDoor
