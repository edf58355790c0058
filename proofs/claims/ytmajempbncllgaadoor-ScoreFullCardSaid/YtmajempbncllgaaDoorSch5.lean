/- Layer 3: contracts of what makes memory: Bring, Copy, the clones. -/
import Derived.Test.YtmajempbncllgaaDoorSch3
import Derived.StillTailTactics
import Derived.Laws.CopyOwn
import Derived.Laws.MakeOwn
namespace Go.Proofs.YtmajempbncllgaaDoor
open Go.RowKit
set_option linter.unusedVariables false
theorem infoI32 : (Tryd.prog.info? 21).map (fun i => (i.zero, i.size, i.bytes)) = some (some (.int .i32 0), 1, 4) := by kernel_rfl
theorem infoU8 : (Tryd.prog.info? 5).map (fun i => (i.zero, i.size, i.bytes)) = some (some (.int .u8 0), 1, 1) := by kernel_rfl
theorem stl {P : Program} {f : Nat} {args : Array Value} {w : World} {v : Value} (h : Calls P f args w fun e w' => e = .returned v ∧ w = w') : Calls P f args w fun e w' => e = .returned v ∧ w' = w := h.mono fun _ _ ⟨a, b⟩ => ⟨a, b.symm⟩

def bro (x : Int) (p : Int × Int) : Int := min (max x p.1) p.2
def bringL : List (Int × Int) → List Int → List Int
  | [], _ => []
  | p :: ps, xs => bro (xs.headD 0) p :: bringL ps xs.tail
theorem bringL_length : ∀ (ps : List (Int × Int)) (xs : List Int), (bringL ps xs).length = ps.length
  | [], _ => rfl
  | p :: ps, xs => by simp [bringL, bringL_length ps]
theorem bringL_get : ∀ (ps : List (Int × Int)) (xs : List Int) (j : Nat) (p : Int × Int), ps[j]? = some p → (bringL ps xs)[j]? = some (bro (xs.getD j 0) p)
  | [], _, j, p, h => by simp at h
  | q :: ps, xs, 0, p, h => by
    have : q = p := by simpa using h
    subst this
    cases xs <;> simp [bringL]
  | q :: ps, xs, j + 1, p, h => by
    have := bringL_get ps xs.tail j p (by simpa using h)
    simp only [bringL, List.getElem?_cons_succ, this]
    cases xs <;> simp
def padL (n : Nat) (xs : List Int) : List Int := xs.take n ++ List.replicate (n - xs.length) 0
theorem padL_length (n : Nat) (xs : List Int) : (padL n xs).length = n := by simp [padL]; omega
theorem padL_get (n : Nat) (xs : List Int) (j : Nat) (hj : j < n) : (padL n xs)[j]? = some (xs.getD j 0) := by
  unfold padL
  by_cases h : j < xs.length
  · rw [List.getElem?_append_left (by simp; omega), List.getElem?_take, if_pos hj]
    simp [List.getD, h]
  · rw [List.getElem?_append_right (by simp; omega)]
    simp [List.getD, Nat.not_lt.1 h, List.getElem?_replicate]
    omega
/-- Behind j rounds. -/
def mixL (ps : List (Int × Int)) (xs : List Int) (j : Nat) : List Int := (bringL ps xs).take j ++ (padL ps.length xs).drop j
theorem mixL_zero (ps : List (Int × Int)) (xs : List Int) : mixL ps xs 0 = padL ps.length xs := by simp [mixL]
theorem mixL_all (ps : List (Int × Int)) (xs : List Int) : mixL ps xs ps.length = bringL ps xs := by
  have h1 : (bringL ps xs).take ps.length = bringL ps xs := List.take_of_length_le (by rw [bringL_length]; exact Nat.le_refl _)
  have h2 : (padL ps.length xs).drop ps.length = [] := List.drop_eq_nil_of_le (by rw [padL_length]; exact Nat.le_refl _)
  rw [mixL, h1, h2, List.append_nil]
theorem mixL_length (ps : List (Int × Int)) (xs : List Int) (j : Nat) (hj : j ≤ ps.length) : (mixL ps xs j).length = ps.length := by
  simp [mixL, bringL_length, padL_length]; omega
theorem mixL_get (ps : List (Int × Int)) (xs : List Int) (j : Nat) (hj : j < ps.length) : (mixL ps xs j)[j]? = some (xs.getD j 0) := by
  unfold mixL
  rw [List.getElem?_append_right (by simp [bringL_length]; omega), List.getElem?_drop]
  have e : j + (j - ((bringL ps xs).take j).length) = j := by simp [bringL_length]; omega
  rw [e, padL_get _ _ _ hj]
theorem mixL_set (ps : List (Int × Int)) (xs : List Int) (j : Nat) (p : Int × Int) (hp : ps[j]? = some p) : (mixL ps xs j).set j (bro (xs.getD j 0) p) = mixL ps xs (j + 1) := by
  have hj : j < ps.length := (List.getElem?_eq_some_iff.1 hp).1
  have hb := bringL_get ps xs j p hp
  apply List.ext_getElem?
  intro i
  rw [List.getElem?_set]
  unfold mixL
  have l1 : ((bringL ps xs).take j).length = j := by simp [bringL_length]; omega
  have l2 : ((bringL ps xs).take (j + 1)).length = j + 1 := by simp [bringL_length]; omega
  by_cases e : j = i
  · subst e
    rw [if_pos rfl, if_pos (by simp [bringL_length, padL_length]; omega), List.getElem?_append_left (by omega), List.getElem?_take, if_pos (by omega), hb]
  · rw [if_neg e]
    rcases Nat.lt_or_ge i j with h | h
    · rw [List.getElem?_append_left (by omega), List.getElem?_append_left (by omega), List.getElem?_take, List.getElem?_take, if_pos h, if_pos (by omega)]
    · rw [List.getElem?_append_right (by omega), List.getElem?_append_right (by omega), List.getElem?_drop, List.getElem?_drop, l1, l2]
      congr 1
      omega
end Go.Proofs.YtmajempbncllgaaDoor
