/- Layer 3: SchemaSame whole. -/
import Derived.Test.YtaiaaglggkhjpaaL3s
namespace Go.Proofs.Ytaiaaglggkhjpaa
open Go.RowKit
set_option linter.unusedVariables false
section
variable {e : Ev} {V : Option Addr} {vn vc : Nat} {D : Option Addr} {dn dc : Nat}
theorem ssame_walk (pt at_ : Int) (w : World) (h1 : Si w w.heap.size V vn vc e.xs) (h2 : Sl w w.heap.size D dn dc e.l) (hp : 0 ≤ pt ∧ pt ≤ 255) (ha : 0 ≤ at_ ∧ at_ ≤ 255) :
    Calls Try.prog 6 #[.agg #[.int .u8 e.node, .int .u16 e.inc, .int .u32 e.seq, .slice V vn vc, .slice D dn dc], .int .u8 pt, .int .u8 at_] w fun r w' => r = .returned (.bool true) ∧ Below w.heap.size w w' := by
  by_cases g2 : vn ≤ 20 ∧ dn ≤ 200
  · exact ssame_main pt at_ w h1 h2 hp ha g2.1 g2.2
  · have F1 : Hid ((decide (vn ≤ 20) && decide (dn ≤ 200)) = false) := by unfold Hid; rw [Bool.eq_false_iff]; intro h'; simp only [Bool.and_eq_true, decide_eq_true_eq] at h'; exact g2 h'
    have hb0 := Go.Joins.below_alloc1 w (.cells #[.int .u8 e.node, .int .u16 e.inc, .int .u32 e.seq, .slice V vn vc, .slice D dn dc] 31)
    clear h1 h2 g2
    go_enter Try.func6, Try.ntmps6
    go_wp2_with fail
    generalize w.alloc (.cells #[.int .u8 e.node, .int .u16 e.inc, .int .u32 e.seq, .slice V vn vc, .slice D dn dc] 31) = W0 at *
    refine (few_so W0 F1.out).mono ?_
    rintro r w1 ⟨rfl, b1⟩
    go_wp2_with fail
    refine (awake_any w1).mono ?_
    rintro r w7 ⟨rfl, b7⟩
    go_wp2
    go_ret
    exact ⟨rfl, thn (thn hb0 b1) b7⟩
end
end Go.Proofs.Ytaiaaglggkhjpaa
