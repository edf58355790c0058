import Derived.Test.YtmajempbncllgaaDoorSch
namespace Go.Proofs.YtmajempbncllgaaDoor
open Go.RowKit
theorem ret_i32 {a b : Int} (h : a = b) : Ending.returned (.int .i32 a) = .returned (.int .i32 b) := by rw [h]
theorem brought_any (x a b : Int) (w : World) : Calls Tryd.prog 38 #[.int .i32 x, .int .i32 a, .int .i32 b] w fun e w' => e = .returned (.int .i32 (min (max x a) b)) ∧ w = w' := by
  go_enter Tryd.func38, Tryd.ntmps38
  go_wp2
  all_goals
    go_ret
    exact ⟨ret_i32 (by split at * <;> omega), rfl⟩
theorem refRight_any (A : Option Addr) (n c k : Nat) (ps : List (Int × Int)) (w : World) (h : Sp w k A n c ps) (hk : k ≤ w.heap.size) :
    Calls Tryd.prog 12 #[.slice A n c] w fun e w' => e = .returned (.bool (rightB ps)) ∧ Below w.heap.size w w' := by
  have HL : Hid (n = ps.length) := sp_len h
  have hm := h.max
  have hc := h.cap
  unfold maxLen at hm
  have HS : Hid (Sp w w.heap.size A n c ps) := h.more hk
  clear h
  go_enter Tryd.func12, Tryd.ntmps12
  go_wp2
  go_loopw [3] (fun i wr => ∃ j : Nat, j ≤ n ∧ i = .int .i64 j ∧ SoFar ps j ∧ Below w.heap.size w wr) (fun i _ => n - (intOf i).toNat)
  case atStart => exact ⟨0, Nat.zero_le _, rfl, fun i hi => absurd hi (by omega), Below.refl _ _⟩
  case round =>
    obtain ⟨j, hj, rfl, hso, b1⟩ := hrel
    have HO : Hid (SoFar ps j) := hso
    clear hso
    by_cases hlt : j < n
    · obtain ⟨b, off, p, rfl, hb, hp, c1, c2⟩ := sp_at (HS.out.next b1) hlt
      have HP : Hid (ps[j]? = some p) := hp
      have i0 : (0 : Int) ≤ (j : Int) := by omega
      have i1 : (j : Int) < (n : Int) := by omega
      clear hp
      by_cases hle : p.1 ≤ p.2
      · go_wp2
        go_quiet (fail)
        have b2 := dN b1 nq
        generalize wr.drewN nq = w2 at *
        go_wp2
        go_roundw
        case rel => exact ⟨j + 1, by omega, by go_num, HO.out.succ HP.out hle, b2⟩
        case measure => simp [intOf]; omega
      · go_wp2
        go_quiet (fail)
        go_wp2
        go_ret
        exact ⟨ret_bool (rightB_bad HP.out (by omega)).symm, dN b1 nq⟩
    · obtain rfl : j = n := by omega
      by_cases h1 : j < 1
      · go_wp2
        go_ret
        exact ⟨ret_bool (rightB_few (by rw [← HL.out]; exact h1)).symm, b1⟩
      · by_cases h4 : 4 < j
        · go_wp2
          go_ret
          exact ⟨ret_bool ((decide_eq_false (by omega)).trans (rightB_many (by rw [← HL.out]; exact h4)).symm), b1⟩
        · go_wp2
          go_ret
          exact ⟨ret_bool ((decide_eq_true (by omega)).trans (rightB_all (by rw [← HL.out]; omega) (by rw [← HL.out]; omega) (fun i hi => HO.out i (by rw [HL.out]; exact hi))).symm), b1⟩
end Go.Proofs.YtmajempbncllgaaDoor
