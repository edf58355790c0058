import Derived.Test.YthakiojcjkkonaaT8
namespace Go.Proofs.Ythakiojcjkkonaa
open Go.RowKit
set_option linter.unusedVariables false
theorem tells_great (A : Option Addr) (n c : Nat) (x m : Int) (A' : Option Addr) (n' c' : Nat) (most s : Int) (w : World) (hn : 200 < (n : Int) ∨ 200 < (n' : Int)) :
    Calls Try.prog 3 #[.slice A n c, .int .u64 x, .int .i64 m, .slice A' n' c', .int .i64 most, .int .i32 s] w fun e w' => e = .returned (.bool true) ∧ Below w.heap.size w w' := by
  by_cases h1 : 200 < (n : Int)
  · clear hn
    go_enter Try.func3, Try.ntmps3
    go_wp2_with (go_at_call 8; go_must (refine (awake_any _).mono ?_); rintro e w1 ⟨rfl, b1⟩)
    go_ret
    exact ⟨rfl, b1⟩
  · have h2 : 200 < (n' : Int) := by omega
    clear hn
    go_enter Try.func3, Try.ntmps3
    go_wp2_with (go_at_call 8; go_must (refine (awake_any _).mono ?_); rintro e w1 ⟨rfl, b1⟩)
    go_ret
    exact ⟨rfl, b1⟩
theorem tells_full (A : Option Addr) (n c : Nat) (l : List UInt8) (x m : Int) (A' : Option Addr) (n' c' : Nat) (t : List UInt8) (most s : Int) (w : World) (h : Sl w w.heap.size A n c l) (h' : Sl w w.heap.size A' n' c' t)
    (hx : 0 ≤ x ∧ x ≤ 18446744073709551615) (hs : -2147483648 ≤ s ∧ s ≤ 2147483647) :
    Calls Try.prog 3 #[.slice A n c, .int .u64 x, .int .i64 m, .slice A' n' c', .int .i64 most, .int .i32 s] w fun e w' => e = .returned (.bool true) ∧ Below w.heap.size w w' := by
  by_cases hn : 200 < (n : Int) ∨ 200 < (n' : Int)
  · exact tells_great A n c x m A' n' c' most s w hn
  · exact tells_any A n c l x m A' n' c' t most s w h h' hx hs (by omega) (by omega)
end Go.Proofs.Ythakiojcjkkonaa
