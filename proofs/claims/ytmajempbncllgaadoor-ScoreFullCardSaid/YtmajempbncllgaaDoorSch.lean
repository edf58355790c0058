/- Layer 3: contracts of the package and of its reference. -/
import Derived.Test.YtmajempbncllgaaDoorChecked
import Derived.Test.YtmajempbncllgaaDoorGs
import Derived.Test.YtmajempbncllgaaDoorReg
import Derived.LoopTactic
import Derived.RegionTactic
import Derived.Deep.QuietTactic
import Derived.BigQuiet
import Derived.BigCall
import Derived.Lib.Hide
import Derived.OwnWalk
namespace Go.Proofs.YtmajempbncllgaaDoor
open Go.RowKit

def okB (p : Int × Int) : Bool := decide (p.1 ≤ p.2)
def rightB (ps : List (Int × Int)) : Bool := decide (1 ≤ ps.length) && decide (ps.length ≤ 4) && ps.all okB
theorem rightB_few {ps : List (Int × Int)} (h : ps.length < 1) : rightB ps = false := by simp [rightB]; omega
theorem rightB_many {ps : List (Int × Int)} (h : 4 < ps.length) : rightB ps = false := by simp [rightB]; omega
theorem rightB_bad {ps : List (Int × Int)} {j : Nat} {p : Int × Int} (h : ps[j]? = some p) (hp : p.2 < p.1) : rightB ps = false := by
  have : ps.all okB = false := List.all_eq_false.2 ⟨p, List.mem_of_getElem? h, by simp [okB]; omega⟩
  simp [rightB, this]
theorem rightB_all {ps : List (Int × Int)} (h1 : 1 ≤ ps.length) (h2 : ps.length ≤ 4) (h : ∀ i, i < ps.length → ∀ q, ps[i]? = some q → q.1 ≤ q.2) : rightB ps = true := by
  have : ps.all okB = true := List.all_eq_true.2 fun q hq => by
    obtain ⟨i, hi⟩ := List.mem_iff_getElem?.1 hq
    exact decide_eq_true (h i (List.getElem?_eq_some_iff.1 hi).1 q hi)
  simp [rightB, this, h1, h2]
def SoFar (ps : List (Int × Int)) (j : Nat) : Prop := ∀ i, i < j → ∀ q, ps[i]? = some q → q.1 ≤ q.2
theorem SoFar.succ {ps : List (Int × Int)} {j : Nat} {p : Int × Int} (h : SoFar ps j) (hp : ps[j]? = some p) (hle : p.1 ≤ p.2) : SoFar ps (j + 1) := fun i hi q hq => by
  rcases Nat.lt_or_ge i j with h1 | h1
  · exact h i h1 q hq
  · obtain rfl : i = j := by omega
    rw [hp] at hq
    injection hq with hq
    subst hq
    exact hle
theorem ret_bool {a b : Bool} (h : a = b) : Ending.returned (.bool a) = .returned (.bool b) := by rw [h]

theorem right_any (A : Option Addr) (n c k : Nat) (ps : List (Int × Int)) (w : World) (h : Sp w k A n c ps) (hk : k ≤ w.heap.size) :
    Calls Tryd.prog 21 #[.slice A n c] w fun e w' => e = .returned (.bool (rightB ps)) ∧ Below w.heap.size w w' := by
  have HL : Hid (n = ps.length) := sp_len h
  have hm := h.max
  have hc := h.cap
  unfold maxLen at hm
  have HS : Hid (Sp w w.heap.size A n c ps) := h.more hk
  clear h
  by_cases h1 : n < 1
  · go_enter Tryd.func21, Tryd.ntmps21
    go_wp2
    go_ret
    exact ⟨ret_bool (rightB_few (by rw [← HL.out]; exact h1)).symm, Below.refl _ _⟩
  by_cases h4 : 4 < n
  · go_enter Tryd.func21, Tryd.ntmps21
    go_wp2
    go_ret
    exact ⟨ret_bool (rightB_many (by rw [← HL.out]; exact h4)).symm, Below.refl _ _⟩
  go_enter Tryd.func21, Tryd.ntmps21
  go_wp2
  go_loopw [15] (fun i wr => ∃ j : Nat, j ≤ n ∧ i = .int .i64 j ∧ SoFar ps j ∧ Below w.heap.size w wr) (fun i _ => n - (intOf i).toNat)
  case atStart => exact ⟨0, Nat.zero_le _, rfl, fun i hi => absurd hi (by omega), Below.refl _ _⟩
  case round =>
    obtain ⟨j, hj, rfl, hso, b1⟩ := hrel
    by_cases hlt : j < n
    · obtain ⟨b, off, p, rfl, hb, hp, c1, c2⟩ := sp_at (HS.out.next b1) hlt
      have HP : Hid (ps[j]? = some p) := hp
      have HO : Hid (SoFar ps j) := hso
      have hsz := b1.size
      clear hp hso
      by_cases hle : p.1 ≤ p.2
      · go_wp2
        go_roundw
        case rel => exact ⟨j + 1, by omega, by go_num, HO.out.succ HP.out hle, b1.alloc (by omega) _⟩
        case measure => simp [intOf]; omega
      · go_wp2
        go_ret
        exact ⟨ret_bool (rightB_bad HP.out (by omega)).symm, b1.alloc (by omega) _⟩
    · obtain rfl : j = n := by omega
      have HO : Hid (SoFar ps j) := hso
      clear hso
      go_wp2
      go_ret
      exact ⟨ret_bool (rightB_all (by rw [← HL.out]; omega) (by rw [← HL.out]; omega) (fun i hi => HO.out i (by rw [HL.out]; exact hi))).symm, b1⟩
end Go.Proofs.YtmajempbncllgaaDoor
