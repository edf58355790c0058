/- Layer 3: SchemaTells whole. -/
import Derived.Test.YtaiaaglggkhjpaaL3t
namespace Go.Proofs.Ytaiaaglggkhjpaa
open Go.RowKit
set_option linter.unusedVariables false
section
variable {A : Option Addr} {n c : Nat} {ps : List (Int × Int)} {a b : Ev} {V : Option Addr} {vn vc : Nat} {D : Option Addr} {dn dc : Nat} {V' : Option Addr} {vn' vc' : Nat} {D' : Option Addr} {dn' dc' : Nat}
theorem tells_walk (w : World) (h : Sp w w.heap.size A n c ps) (h1 : Si w w.heap.size V vn vc a.xs) (h2 : Sl w w.heap.size D dn dc a.l) (h3 : Si w w.heap.size V' vn' vc' b.xs) (h4' : Sl w w.heap.size D' dn' dc' b.l) :
    Calls Try.prog 3 #[.slice A n c, .agg #[.int .u8 a.node, .int .u16 a.inc, .int .u32 a.seq, .slice V vn vc, .slice D dn dc], .agg #[.int .u8 b.node, .int .u16 b.inc, .int .u32 b.seq, .slice V' vn' vc', .slice D' dn' dc']] w fun e w' => e = .returned (.bool true) ∧ Below w.heap.size w w' := by
  by_cases g1 : 8 < n
  · have hb0 := Go.Joins.below_alloc2 w (.cells #[.int .u8 a.node, .int .u16 a.inc, .int .u32 a.seq, .slice V vn vc, .slice D dn dc] 31) (.cells #[.int .u8 b.node, .int .u16 b.inc, .int .u32 b.seq, .slice V' vn' vc', .slice D' dn' dc'] 31)
    have hm := h.max
    have hc := h.cap
    unfold maxLen at hm
    clear h h1 h2 h3 h4'
    go_enter Try.func3, Try.ntmps3
    go_wp2_with fail
    generalize (w.alloc (.cells #[.int .u8 a.node, .int .u16 a.inc, .int .u32 a.seq, .slice V vn vc, .slice D dn dc] 31)).alloc (.cells #[.int .u8 b.node, .int .u16 b.inc, .int .u32 b.seq, .slice V' vn' vc', .slice D' dn' dc'] 31) = W0 at *
    refine (awake_any W0).mono ?_
    rintro r w7 ⟨rfl, b7⟩
    go_wp2
    go_ret
    exact ⟨rfl, thn hb0 b7⟩
  by_cases g2 : vn ≤ 20 ∧ dn ≤ 200
  · by_cases g3 : vn' ≤ 20 ∧ dn' ≤ 200
    · exact tells_main w h h1 h2 h3 h4' (by omega) g2.1 g2.2 g3.1 g3.2
    · have F1 : Hid ((decide (vn ≤ 20) && decide (dn ≤ 200)) = true) := by unfold Hid; simp [g2.1, g2.2]
      have F2 : Hid ((decide (vn' ≤ 20) && decide (dn' ≤ 200)) = false) := by unfold Hid; rw [Bool.eq_false_iff]; intro h'; simp only [Bool.and_eq_true, decide_eq_true_eq] at h'; exact g3 h'
      have hb0 := Go.Joins.below_alloc2 w (.cells #[.int .u8 a.node, .int .u16 a.inc, .int .u32 a.seq, .slice V vn vc, .slice D dn dc] 31) (.cells #[.int .u8 b.node, .int .u16 b.inc, .int .u32 b.seq, .slice V' vn' vc', .slice D' dn' dc'] 31)
      have K2 : Hid (((w.alloc (.cells #[.int .u8 a.node, .int .u16 a.inc, .int .u32 a.seq, .slice V vn vc, .slice D dn dc] 31)).alloc (.cells #[.int .u8 b.node, .int .u16 b.inc, .int .u32 b.seq, .slice V' vn' vc', .slice D' dn' dc'] 31)).heap[w.heap.size + 1]? = some (.cells #[.int .u8 b.node, .int .u16 b.inc, .int .u32 b.seq, .slice V' vn' vc', .slice D' dn' dc'] 31 (0, 0))) := by
        unfold Hid
        have := heap_alloc_new (w.alloc (.cells #[.int .u8 a.node, .int .u16 a.inc, .int .u32 a.seq, .slice V vn vc, .slice D dn dc] 31)) (.cells #[.int .u8 b.node, .int .u16 b.inc, .int .u32 b.seq, .slice V' vn' vc', .slice D' dn' dc'] 31)
        simpa using this
      have hm := h.max
      have hc := h.cap
      unfold maxLen at hm
      clear h h1 h2 h3 h4' g2 g3
      go_enter Try.func3, Try.ntmps3
      go_wp2_with fail
      generalize (w.alloc (.cells #[.int .u8 a.node, .int .u16 a.inc, .int .u32 a.seq, .slice V vn vc, .slice D dn dc] 31)).alloc (.cells #[.int .u8 b.node, .int .u16 b.inc, .int .u32 b.seq, .slice V' vn' vc', .slice D' dn' dc'] 31) = W0 at *
      have y2 : w.heap.size + 1 < W0.heap.size := (Array.getElem?_eq_some_iff.1 K2.out).1
      refine (few_of W0 F1.out).mono ?_
      rintro r w1 ⟨rfl, b1⟩
      obtain ⟨d0, d1, d2, d3, d4⟩ := ev_cells ((b1.block _ y2).trans K2.out)
      go_wp2_with fail
      refine (few_of w1 F2.out).mono ?_
      rintro r w2 ⟨rfl, b2⟩
      go_wp2_with fail
      refine (awake_any w2).mono ?_
      rintro r w7 ⟨rfl, b7⟩
      go_wp2
      go_ret
      exact ⟨rfl, thn (thn (thn hb0 b1) b2) b7⟩
  · have F1 : Hid ((decide (vn ≤ 20) && decide (dn ≤ 200)) = false) := by unfold Hid; rw [Bool.eq_false_iff]; intro h'; simp only [Bool.and_eq_true, decide_eq_true_eq] at h'; exact g2 h'
    have hb0 := Go.Joins.below_alloc2 w (.cells #[.int .u8 a.node, .int .u16 a.inc, .int .u32 a.seq, .slice V vn vc, .slice D dn dc] 31) (.cells #[.int .u8 b.node, .int .u16 b.inc, .int .u32 b.seq, .slice V' vn' vc', .slice D' dn' dc'] 31)
    have hm := h.max
    have hc := h.cap
    unfold maxLen at hm
    clear h h1 h2 h3 h4' g2
    go_enter Try.func3, Try.ntmps3
    go_wp2_with fail
    generalize (w.alloc (.cells #[.int .u8 a.node, .int .u16 a.inc, .int .u32 a.seq, .slice V vn vc, .slice D dn dc] 31)).alloc (.cells #[.int .u8 b.node, .int .u16 b.inc, .int .u32 b.seq, .slice V' vn' vc', .slice D' dn' dc'] 31) = W0 at *
    refine (few_of W0 F1.out).mono ?_
    rintro r w1 ⟨rfl, b1⟩
    go_wp2_with fail
    refine (awake_any w1).mono ?_
    rintro r w7 ⟨rfl, b7⟩
    go_wp2
    go_ret
    exact ⟨rfl, thn (thn hb0 b1) b7⟩
end
end Go.Proofs.Ytaiaaglggkhjpaa
