/- Layer 7: ident.Right, Next; their references. -/
import Derived.Test.YtdpcknfplognmaaIc
namespace Go.Proofs.Ytdpcknfplognmaa
open Go.RowKit
set_option linter.unusedVariables false
theorem ret_bool {a b : Bool} (h : a = b) : Ending.returned (.bool a) = .returned (.bool b) := by rw [h]
def rightB (p : Id3) (n last : Int) : Bool := decide (p.1 < n) && decide (1 ≤ p.2.1) && decide (1 ≤ p.2.2) && decide (p.2.2 ≤ last)
theorem right_any (p : Id3) (n last : Int) (w : World) (h0 : 0 ≤ p.1) (h1 : p.1 ≤ 255) : Calls Try.prog 11 #[(.agg #[.int .u8 p.1, .int .u16 p.2.1, .int .u32 p.2.2]), .int .i64 n, .int .u32 last] w fun e w' => e = .returned (.bool (rightB p n last)) ∧ Below w.heap.size w w' := by
  go_enter Try.func11, Try.ntmps11
  go_wp2
  all_goals
    go_ret
    refine ⟨ret_bool ?_, (Below.refl _ _).alloc (Nat.le_refl _) _⟩
    simp [rightB]
    try omega
theorem refRight_any (p : Id3) (n last : Int) (w : World) (h0 : 0 ≤ p.1) (h1 : p.1 ≤ 255) : Calls Try.prog 12 #[(.agg #[.int .u8 p.1, .int .u16 p.2.1, .int .u32 p.2.2]), .int .i64 n, .int .u32 last] w fun e w' => e = .returned (.bool (rightB p n last)) ∧ Below w.heap.size w w' := by
  go_enter Try.func12, Try.ntmps12
  go_wp2
  all_goals
    go_ret
    refine ⟨ret_bool ?_, (Below.refl _ _).alloc (Nat.le_refl _) _⟩
    simp [rightB]
    try omega
theorem next_more (p : Id3) (last : Int) (w : World) (h0 : 0 ≤ p.2.2) (h : p.2.2 < last) (h1 : last ≤ 4294967295) : Calls Try.prog 9 #[(.agg #[.int .u8 p.1, .int .u16 p.2.1, .int .u32 p.2.2]), .int .u32 last] w fun e w' => e = .returned (.tuple #[.agg #[.int .u8 p.1, .int .u16 p.2.1, .int .u32 (p.2.2 + 1)], .int .i64 0]) ∧ Below w.heap.size w w' := by
  go_enter Try.func9, Try.ntmps9
  go_wp2
  exact bodyPost_ret (v := .tuple #[.agg #[.int .u8 p.1, .int .u16 p.2.1, .int .u32 (p.2.2 + 1)], .int .i64 0]) (by simp [results, Try.results9, go_sem]) rfl ⟨rfl, Go.Joins.below_alloc2 w _ _⟩
theorem next_end (p : Id3) (last : Int) (w : World) (h : last ≤ p.2.2) : Calls Try.prog 9 #[(.agg #[.int .u8 p.1, .int .u16 p.2.1, .int .u32 p.2.2]), .int .u32 last] w fun e w' => e = .returned (.tuple #[.agg #[.int .u8 0, .int .u16 0, .int .u32 0], .int .i64 55]) ∧ Below w.heap.size w w' := by
  go_enter Try.func9, Try.ntmps9
  go_wp2
  exact bodyPost_ret (v := .tuple #[.agg #[.int .u8 0, .int .u16 0, .int .u32 0], .int .i64 55]) (by simp [results, Try.results9, go_sem]) rfl ⟨rfl, Go.Joins.below_alloc2 w _ _⟩
theorem refNext_more (p : Id3) (last : Int) (w : World) (h0 : 0 ≤ p.2.2) (h : p.2.2 < last) (h1 : last ≤ 4294967295) : Calls Try.prog 10 #[(.agg #[.int .u8 p.1, .int .u16 p.2.1, .int .u32 p.2.2]), .int .u32 last] w fun e w' => e = .returned (.tuple #[.agg #[.int .u8 p.1, .int .u16 p.2.1, .int .u32 (p.2.2 + 1)], .int .i64 0]) ∧ Below w.heap.size w w' := by
  go_enter Try.func10, Try.ntmps10
  go_wp2
  exact bodyPost_ret (v := .tuple #[.agg #[.int .u8 p.1, .int .u16 p.2.1, .int .u32 (p.2.2 + 1)], .int .i64 0]) (by simp [results, Try.results10, go_sem]) rfl ⟨rfl, Go.Joins.below_alloc2 w _ _⟩
theorem refNext_end (p : Id3) (last : Int) (w : World) (h : last ≤ p.2.2) : Calls Try.prog 10 #[(.agg #[.int .u8 p.1, .int .u16 p.2.1, .int .u32 p.2.2]), .int .u32 last] w fun e w' => e = .returned (.tuple #[.agg #[.int .u8 0, .int .u16 0, .int .u32 0], .int .i64 55]) ∧ Below w.heap.size w w' := by
  go_enter Try.func10, Try.ntmps10
  go_wp2
  exact bodyPost_ret (v := .tuple #[.agg #[.int .u8 0, .int .u16 0, .int .u32 0], .int .i64 55]) (by simp [results, Try.results10, go_sem]) rfl ⟨rfl, Go.Joins.below_alloc2 w _ _⟩
end Go.Proofs.Ytdpcknfplognmaa
