/- Layer 5: the chapter's examples. -/
import Derived.Test.YtdgobdfggdmnpaaDoorFd
namespace Go.Proofs.YtdgobdfggdmnpaaDoor
open Go.RowKit
set_option linter.unusedVariables false
theorem inRs {ps : List (Int × Int)} (h : (ps.all fun p => decide (-2147483648 ≤ p.1) && decide (p.1 ≤ 2147483647) && decide (-2147483648 ≤ p.2) && decide (p.2 ≤ 2147483647)) = true) : ∀ p ∈ ps, inR p := fun p hp => by
  have := List.all_eq_true.1 h p hp
  simp only [Bool.and_eq_true, decide_eq_true_eq] at this
  exact ⟨⟨this.1.1.1, this.1.1.2⟩, this.1.2, this.2⟩
theorem awake_any (w : World) (hT : Tab w) : Calls Tryd.prog 10 #[] w fun e w' => e = .returned (.bool true) ∧ Below w.heap.size w w' := by
  have HT := Lib.hid hT
  have B := Lib.hid (Below.refl w.heap.size w)
  clear hT
  go_enter Tryd.func10, Tryd.ntmps10
  go_wp2_with fail
  refine (two_any w).mono ?_
  rintro e w1 ⟨As, cs, rfl, ss, b5⟩
  have Ss : Hid (Sp _ _ As 2 cs [(0, 9), (-5, 5)]) := ss
  clear ss
  dsimp only [twoL, List.length_cons, List.length_nil, Nat.zero_add, Nat.reduceAdd]
  replace HT := Lib.hid (HT.out.next b5)
  replace B := Lib.hid (thn B.out b5)
  clear b5
  go_wp2_with fail
  have Sx1 : Hid (Sp (w1.alloc (.cells #[.int .i32 3, .int .i32 20, .int .i32 (-9), .int .i32 0] 42)) (w1.alloc (.cells #[.int .i32 3, .int .i32 20, .int .i32 (-9), .int .i32 0] 42)).heap.size (some ⟨w1.heap.size, 0, none⟩) 2 2 [(3, 20), (-9, 0)]) := (Sn.lit w1 _ _ _ 2 2 rfl (by decide)).more (by simp)
  have bL := below_lit w1 (.cells #[.int .i32 3, .int .i32 20, .int .i32 (-9), .int .i32 0] 42)
  replace Ss := Lib.hid (Ss.out.next bL)
  replace HT := Lib.hid (HT.out.next bL)
  replace B := Lib.hid (thn B.out bL)
  clear bL
  generalize hgx1 : w1.heap.size = gx1 at *
  generalize w1.alloc _ = w2 at *
  clear hgx1
  have hc := normalF_any As 2 cs [(0, 9), (-5, 5)] (some ⟨gx1, 0, none⟩) 2 2 [(3, 20), (-9, 0)] w2 HT.out (inRs (by decide)) (inRs (by decide)) Ss.out Sx1.out (by decide)
  rw [show normF [(0, 9), (-5, 5)] [(3, 20), (-9, 0)] = [(3, 9), (-5, 0)] by decide, show normE [(0, 9), (-5, 5)] [(3, 20), (-9, 0)] = 0 by decide] at hc
  refine hc.mono ?_
  clear hc
  rintro e w3 ⟨Ax2, cx2, rfl, sx2, b5⟩
  have Sx2 := Lib.hid sx2
  clear sx2
  replace Ss := Lib.hid (Ss.out.next b5)
  replace Sx1 := Lib.hid (Sx1.out.next b5)
  replace HT := Lib.hid (HT.out.next b5)
  replace B := Lib.hid (thn B.out b5)
  clear b5
  go_wp2_with fail
  have Sx3 : Hid (Sp (w3.alloc (.cells #[.int .i32 10, .int .i32 20, .int .i32 0, .int .i32 0] 42)) (w3.alloc (.cells #[.int .i32 10, .int .i32 20, .int .i32 0, .int .i32 0] 42)).heap.size (some ⟨w3.heap.size, 0, none⟩) 2 2 [(10, 20), (0, 0)]) := (Sn.lit w3 _ _ _ 2 2 rfl (by decide)).more (by simp)
  have bL := below_lit w3 (.cells #[.int .i32 10, .int .i32 20, .int .i32 0, .int .i32 0] 42)
  replace Ss := Lib.hid (Ss.out.next bL)
  replace Sx1 := Lib.hid (Sx1.out.next bL)
  replace Sx2 := Lib.hid (Sx2.out.next bL)
  replace HT := Lib.hid (HT.out.next bL)
  replace B := Lib.hid (thn B.out bL)
  clear bL
  generalize hgx3 : w3.heap.size = gx3 at *
  generalize w3.alloc _ = w4 at *
  clear hgx3
  have hc := normalF_any As 2 cs [(0, 9), (-5, 5)] (some ⟨gx3, 0, none⟩) 2 2 [(10, 20), (0, 0)] w4 HT.out (inRs (by decide)) (inRs (by decide)) Ss.out Sx3.out (by decide)
  rw [show normF [(0, 9), (-5, 5)] [(10, 20), (0, 0)] = [] by decide, show normE [(0, 9), (-5, 5)] [(10, 20), (0, 0)] = 0 by decide] at hc
  refine hc.mono ?_
  clear hc
  rintro e w5 ⟨Ax4, cx4, rfl, sx4, b5⟩
  have Sx4 := Lib.hid sx4
  clear sx4
  replace Ss := Lib.hid (Ss.out.next b5)
  replace Sx1 := Lib.hid (Sx1.out.next b5)
  replace Sx2 := Lib.hid (Sx2.out.next b5)
  replace Sx3 := Lib.hid (Sx3.out.next b5)
  replace HT := Lib.hid (HT.out.next b5)
  replace B := Lib.hid (thn B.out b5)
  clear b5
  go_wp2_with fail
  have Sx5 : Hid (Sp (w5.alloc (.cells #[.int .i32 1, .int .i32 2] 42)) (w5.alloc (.cells #[.int .i32 1, .int .i32 2] 42)).heap.size (some ⟨w5.heap.size, 0, none⟩) 1 1 [(1, 2)]) := (Sn.lit w5 _ _ _ 2 1 rfl (by decide)).more (by simp)
  have bL := below_lit w5 (.cells #[.int .i32 1, .int .i32 2] 42)
  replace Ss := Lib.hid (Ss.out.next bL)
  replace Sx1 := Lib.hid (Sx1.out.next bL)
  replace Sx2 := Lib.hid (Sx2.out.next bL)
  replace Sx3 := Lib.hid (Sx3.out.next bL)
  replace Sx4 := Lib.hid (Sx4.out.next bL)
  replace HT := Lib.hid (HT.out.next bL)
  replace B := Lib.hid (thn B.out bL)
  clear bL
  generalize hgx5 : w5.heap.size = gx5 at *
  generalize w5.alloc _ = w6 at *
  clear hgx5
  have hc := normalF_any As 2 cs [(0, 9), (-5, 5)] (some ⟨gx5, 0, none⟩) 1 1 [(1, 2)] w6 HT.out (inRs (by decide)) (inRs (by decide)) Ss.out Sx5.out (by decide)
  rw [show normF [(0, 9), (-5, 5)] [(1, 2)] = [] by decide, show normE [(0, 9), (-5, 5)] [(1, 2)] = 50 by decide] at hc
  refine hc.mono ?_
  clear hc
  rintro e w7 ⟨Ax6, cx6, rfl, sx6, b5⟩
  have Sx6 := Lib.hid sx6
  clear sx6
  replace Ss := Lib.hid (Ss.out.next b5)
  replace Sx1 := Lib.hid (Sx1.out.next b5)
  replace Sx2 := Lib.hid (Sx2.out.next b5)
  replace Sx3 := Lib.hid (Sx3.out.next b5)
  replace Sx4 := Lib.hid (Sx4.out.next b5)
  replace Sx5 := Lib.hid (Sx5.out.next b5)
  replace HT := Lib.hid (HT.out.next b5)
  replace B := Lib.hid (thn B.out b5)
  clear b5
  go_wp2_with fail
  have Sx7 : Hid (Sp (w7.alloc (.cells #[.int .i32 3, .int .i32 9, .int .i32 (-5), .int .i32 0] 42)) (w7.alloc (.cells #[.int .i32 3, .int .i32 9, .int .i32 (-5), .int .i32 0] 42)).heap.size (some ⟨w7.heap.size, 0, none⟩) 2 2 [(3, 9), (-5, 0)]) := (Sn.lit w7 _ _ _ 2 2 rfl (by decide)).more (by simp)
  have bL := below_lit w7 (.cells #[.int .i32 3, .int .i32 9, .int .i32 (-5), .int .i32 0] 42)
  replace Ss := Lib.hid (Ss.out.next bL)
  replace Sx1 := Lib.hid (Sx1.out.next bL)
  replace Sx2 := Lib.hid (Sx2.out.next bL)
  replace Sx3 := Lib.hid (Sx3.out.next bL)
  replace Sx4 := Lib.hid (Sx4.out.next bL)
  replace Sx5 := Lib.hid (Sx5.out.next bL)
  replace Sx6 := Lib.hid (Sx6.out.next bL)
  replace HT := Lib.hid (HT.out.next bL)
  replace B := Lib.hid (thn B.out bL)
  clear bL
  have hz := World.size_alloc w7 (.cells #[.int .i32 3, .int .i32 9, .int .i32 (-5), .int .i32 0] 42)
  generalize hgx7 : w7.heap.size = gx7 at *
  generalize w7.alloc _ = w8 at *
  clear hgx7
  have Sx8 : Hid (Sp (w8.alloc (.cells #[.int .i32 0, .int .i32 3, .int .i32 0, .int .i32 9] 42)) (w8.alloc (.cells #[.int .i32 0, .int .i32 3, .int .i32 0, .int .i32 9] 42)).heap.size (some ⟨gx7 + 1, 0, none⟩) 2 2 [(0, 3), (0, 9)]) := (Sn.lit_at w8 _ _ _ 2 2 (gx7 + 1) hz rfl (by decide)).more (by simp [hz])
  have bL := below_lit w8 (.cells #[.int .i32 0, .int .i32 3, .int .i32 0, .int .i32 9] 42)
  replace Ss := Lib.hid (Ss.out.next bL)
  replace Sx1 := Lib.hid (Sx1.out.next bL)
  replace Sx2 := Lib.hid (Sx2.out.next bL)
  replace Sx3 := Lib.hid (Sx3.out.next bL)
  replace Sx4 := Lib.hid (Sx4.out.next bL)
  replace Sx5 := Lib.hid (Sx5.out.next bL)
  replace Sx6 := Lib.hid (Sx6.out.next bL)
  replace Sx7 := Lib.hid (Sx7.out.next bL)
  replace HT := Lib.hid (HT.out.next bL)
  replace B := Lib.hid (thn B.out bL)
  clear bL hz
  generalize w8.alloc _ = w9 at *
  have hc := meetF_any (some ⟨gx7, 0, none⟩) 2 2 [(3, 9), (-5, 0)] (some ⟨gx7 + 1, 0, none⟩) 2 2 [(0, 3), (0, 9)] w9 HT.out (inRs (by decide)) (inRs (by decide)) Sx7.out Sx8.out (by decide)
  rw [show meetF [(3, 9), (-5, 0)] [(0, 3), (0, 9)] = [(3, 3), (0, 0)] by decide] at hc
  refine hc.mono ?_
  clear hc
  rintro e w10 ⟨Ax9, cx9, rfl, sx9, b5⟩
  have Sx9 := Lib.hid sx9
  clear sx9
  replace Ss := Lib.hid (Ss.out.next b5)
  replace Sx1 := Lib.hid (Sx1.out.next b5)
  replace Sx2 := Lib.hid (Sx2.out.next b5)
  replace Sx3 := Lib.hid (Sx3.out.next b5)
  replace Sx4 := Lib.hid (Sx4.out.next b5)
  replace Sx5 := Lib.hid (Sx5.out.next b5)
  replace Sx6 := Lib.hid (Sx6.out.next b5)
  replace Sx7 := Lib.hid (Sx7.out.next b5)
  replace Sx8 := Lib.hid (Sx8.out.next b5)
  replace HT := Lib.hid (HT.out.next b5)
  replace B := Lib.hid (thn B.out b5)
  clear b5
  go_wp2_with fail
  have hc := sameF_any Ax2 2 cx2 [(3, 9), (-5, 0)] (some ⟨gx7, 0, none⟩) 2 2 [(3, 9), (-5, 0)] w10  Sx2.out Sx7.out
  rw [show sameF [(3, 9), (-5, 0)] [(3, 9), (-5, 0)] = true by decide] at hc
  refine hc.mono ?_
  clear hc
  rintro e w11 ⟨rfl, b5⟩
  replace Ss := Lib.hid (Ss.out.next b5)
  replace Sx1 := Lib.hid (Sx1.out.next b5)
  replace Sx2 := Lib.hid (Sx2.out.next b5)
  replace Sx3 := Lib.hid (Sx3.out.next b5)
  replace Sx4 := Lib.hid (Sx4.out.next b5)
  replace Sx5 := Lib.hid (Sx5.out.next b5)
  replace Sx6 := Lib.hid (Sx6.out.next b5)
  replace Sx7 := Lib.hid (Sx7.out.next b5)
  replace Sx8 := Lib.hid (Sx8.out.next b5)
  replace Sx9 := Lib.hid (Sx9.out.next b5)
  replace HT := Lib.hid (HT.out.next b5)
  replace B := Lib.hid (thn B.out b5)
  clear b5
  go_wp2_with fail
  have Sy1 : Hid (Si (w11.alloc (.cells #[.int .i32 4, .int .i32 0] 21)) (w11.alloc (.cells #[.int .i32 4, .int .i32 0] 21)).heap.size (some ⟨w11.heap.size, 0, none⟩) 2 2 [4, 0]) := (Sv.lit w11 _ _ _ 2 rfl (by decide)).more (by simp)
  have bL := below_lit w11 (.cells #[.int .i32 4, .int .i32 0] 21)
  replace Ss := Lib.hid (Ss.out.next bL)
  replace Sx1 := Lib.hid (Sx1.out.next bL)
  replace Sx2 := Lib.hid (Sx2.out.next bL)
  replace Sx3 := Lib.hid (Sx3.out.next bL)
  replace Sx4 := Lib.hid (Sx4.out.next bL)
  replace Sx5 := Lib.hid (Sx5.out.next bL)
  replace Sx6 := Lib.hid (Sx6.out.next bL)
  replace Sx7 := Lib.hid (Sx7.out.next bL)
  replace Sx8 := Lib.hid (Sx8.out.next bL)
  replace Sx9 := Lib.hid (Sx9.out.next bL)
  replace HT := Lib.hid (HT.out.next bL)
  replace B := Lib.hid (thn B.out bL)
  clear bL
  generalize hgy1 : w11.heap.size = gy1 at *
  generalize w11.alloc _ = w12 at *
  clear hgy1
  have hc := matchF_any (some ⟨gx7, 0, none⟩) 2 2 [(3, 9), (-5, 0)] (some ⟨gy1, 0, none⟩) 2 2 [4, 0] w12 (inRs (by decide)) Sx7.out Sy1.out
  rw [show matchF [(3, 9), (-5, 0)] [4, 0] = true by decide] at hc
  refine hc.mono ?_
  clear hc
  rintro e w13 ⟨rfl, b5⟩
  replace Ss := Lib.hid (Ss.out.next b5)
  replace Sx1 := Lib.hid (Sx1.out.next b5)
  replace Sx2 := Lib.hid (Sx2.out.next b5)
  replace Sx3 := Lib.hid (Sx3.out.next b5)
  replace Sx4 := Lib.hid (Sx4.out.next b5)
  replace Sx5 := Lib.hid (Sx5.out.next b5)
  replace Sx6 := Lib.hid (Sx6.out.next b5)
  replace Sx7 := Lib.hid (Sx7.out.next b5)
  replace Sx8 := Lib.hid (Sx8.out.next b5)
  replace Sx9 := Lib.hid (Sx9.out.next b5)
  replace Sy1 := Lib.hid (Sy1.out.next b5)
  replace HT := Lib.hid (HT.out.next b5)
  replace B := Lib.hid (thn B.out b5)
  clear b5
  go_wp2_with fail
  have Sy2 : Hid (Si (w13.alloc (.cells #[.int .i32 4, .int .i32 1] 21)) (w13.alloc (.cells #[.int .i32 4, .int .i32 1] 21)).heap.size (some ⟨w13.heap.size, 0, none⟩) 2 2 [4, 1]) := (Sv.lit w13 _ _ _ 2 rfl (by decide)).more (by simp)
  have bL := below_lit w13 (.cells #[.int .i32 4, .int .i32 1] 21)
  replace Ss := Lib.hid (Ss.out.next bL)
  replace Sx1 := Lib.hid (Sx1.out.next bL)
  replace Sx2 := Lib.hid (Sx2.out.next bL)
  replace Sx3 := Lib.hid (Sx3.out.next bL)
  replace Sx4 := Lib.hid (Sx4.out.next bL)
  replace Sx5 := Lib.hid (Sx5.out.next bL)
  replace Sx6 := Lib.hid (Sx6.out.next bL)
  replace Sx7 := Lib.hid (Sx7.out.next bL)
  replace Sx8 := Lib.hid (Sx8.out.next bL)
  replace Sx9 := Lib.hid (Sx9.out.next bL)
  replace Sy1 := Lib.hid (Sy1.out.next bL)
  replace HT := Lib.hid (HT.out.next bL)
  replace B := Lib.hid (thn B.out bL)
  clear bL
  generalize hgy2 : w13.heap.size = gy2 at *
  generalize w13.alloc _ = w14 at *
  clear hgy2
  have hc := matchF_any (some ⟨gx7, 0, none⟩) 2 2 [(3, 9), (-5, 0)] (some ⟨gy2, 0, none⟩) 2 2 [4, 1] w14 (inRs (by decide)) Sx7.out Sy2.out
  rw [show matchF [(3, 9), (-5, 0)] [4, 1] = false by decide] at hc
  refine hc.mono ?_
  clear hc
  rintro e w15 ⟨rfl, b5⟩
  replace Ss := Lib.hid (Ss.out.next b5)
  replace Sx1 := Lib.hid (Sx1.out.next b5)
  replace Sx2 := Lib.hid (Sx2.out.next b5)
  replace Sx3 := Lib.hid (Sx3.out.next b5)
  replace Sx4 := Lib.hid (Sx4.out.next b5)
  replace Sx5 := Lib.hid (Sx5.out.next b5)
  replace Sx6 := Lib.hid (Sx6.out.next b5)
  replace Sx7 := Lib.hid (Sx7.out.next b5)
  replace Sx8 := Lib.hid (Sx8.out.next b5)
  replace Sx9 := Lib.hid (Sx9.out.next b5)
  replace Sy1 := Lib.hid (Sy1.out.next b5)
  replace Sy2 := Lib.hid (Sy2.out.next b5)
  replace HT := Lib.hid (HT.out.next b5)
  replace B := Lib.hid (thn B.out b5)
  clear b5
  go_wp2_with fail
  have Sy3 : Hid (Si (w15.alloc (.cells #[.int .i32 4] 21)) (w15.alloc (.cells #[.int .i32 4] 21)).heap.size (some ⟨w15.heap.size, 0, none⟩) 1 1 [4]) := (Sv.lit w15 _ _ _ 1 rfl (by decide)).more (by simp)
  have bL := below_lit w15 (.cells #[.int .i32 4] 21)
  replace Ss := Lib.hid (Ss.out.next bL)
  replace Sx1 := Lib.hid (Sx1.out.next bL)
  replace Sx2 := Lib.hid (Sx2.out.next bL)
  replace Sx3 := Lib.hid (Sx3.out.next bL)
  replace Sx4 := Lib.hid (Sx4.out.next bL)
  replace Sx5 := Lib.hid (Sx5.out.next bL)
  replace Sx6 := Lib.hid (Sx6.out.next bL)
  replace Sx7 := Lib.hid (Sx7.out.next bL)
  replace Sx8 := Lib.hid (Sx8.out.next bL)
  replace Sx9 := Lib.hid (Sx9.out.next bL)
  replace Sy1 := Lib.hid (Sy1.out.next bL)
  replace Sy2 := Lib.hid (Sy2.out.next bL)
  replace HT := Lib.hid (HT.out.next bL)
  replace B := Lib.hid (thn B.out bL)
  clear bL
  generalize hgy3 : w15.heap.size = gy3 at *
  generalize w15.alloc _ = w16 at *
  clear hgy3
  have hc := matchF_any (some ⟨gx7, 0, none⟩) 2 2 [(3, 9), (-5, 0)] (some ⟨gy3, 0, none⟩) 1 1 [4] w16 (inRs (by decide)) Sx7.out Sy3.out
  rw [show matchF [(3, 9), (-5, 0)] [4] = false by decide] at hc
  refine hc.mono ?_
  clear hc
  rintro e w17 ⟨rfl, b5⟩
  replace Ss := Lib.hid (Ss.out.next b5)
  replace Sx1 := Lib.hid (Sx1.out.next b5)
  replace Sx2 := Lib.hid (Sx2.out.next b5)
  replace Sx3 := Lib.hid (Sx3.out.next b5)
  replace Sx4 := Lib.hid (Sx4.out.next b5)
  replace Sx5 := Lib.hid (Sx5.out.next b5)
  replace Sx6 := Lib.hid (Sx6.out.next b5)
  replace Sx7 := Lib.hid (Sx7.out.next b5)
  replace Sx8 := Lib.hid (Sx8.out.next b5)
  replace Sx9 := Lib.hid (Sx9.out.next b5)
  replace Sy1 := Lib.hid (Sy1.out.next b5)
  replace Sy2 := Lib.hid (Sy2.out.next b5)
  replace Sy3 := Lib.hid (Sy3.out.next b5)
  replace HT := Lib.hid (HT.out.next b5)
  replace B := Lib.hid (thn B.out b5)
  clear b5
  go_wp2_with fail
  have Sy4 : Hid (Sp (w17.alloc (.cells #[.int .i32 3, .int .i32 3, .int .i32 0, .int .i32 0] 42)) (w17.alloc (.cells #[.int .i32 3, .int .i32 3, .int .i32 0, .int .i32 0] 42)).heap.size (some ⟨w17.heap.size, 0, none⟩) 2 2 [(3, 3), (0, 0)]) := (Sn.lit w17 _ _ _ 2 2 rfl (by decide)).more (by simp)
  have bL := below_lit w17 (.cells #[.int .i32 3, .int .i32 3, .int .i32 0, .int .i32 0] 42)
  replace Ss := Lib.hid (Ss.out.next bL)
  replace Sx1 := Lib.hid (Sx1.out.next bL)
  replace Sx2 := Lib.hid (Sx2.out.next bL)
  replace Sx3 := Lib.hid (Sx3.out.next bL)
  replace Sx4 := Lib.hid (Sx4.out.next bL)
  replace Sx5 := Lib.hid (Sx5.out.next bL)
  replace Sx6 := Lib.hid (Sx6.out.next bL)
  replace Sx7 := Lib.hid (Sx7.out.next bL)
  replace Sx8 := Lib.hid (Sx8.out.next bL)
  replace Sx9 := Lib.hid (Sx9.out.next bL)
  replace Sy1 := Lib.hid (Sy1.out.next bL)
  replace Sy2 := Lib.hid (Sy2.out.next bL)
  replace Sy3 := Lib.hid (Sy3.out.next bL)
  replace HT := Lib.hid (HT.out.next bL)
  replace B := Lib.hid (thn B.out bL)
  clear bL
  generalize hgy4 : w17.heap.size = gy4 at *
  generalize w17.alloc _ = w18 at *
  clear hgy4
  have hc := sameF_any Ax9 2 cx9 [(3, 3), (0, 0)] (some ⟨gy4, 0, none⟩) 2 2 [(3, 3), (0, 0)] w18  Sx9.out Sy4.out
  rw [show sameF [(3, 3), (0, 0)] [(3, 3), (0, 0)] = true by decide] at hc
  refine hc.mono ?_
  clear hc
  rintro e w19 ⟨rfl, b5⟩
  replace Ss := Lib.hid (Ss.out.next b5)
  replace Sx1 := Lib.hid (Sx1.out.next b5)
  replace Sx2 := Lib.hid (Sx2.out.next b5)
  replace Sx3 := Lib.hid (Sx3.out.next b5)
  replace Sx4 := Lib.hid (Sx4.out.next b5)
  replace Sx5 := Lib.hid (Sx5.out.next b5)
  replace Sx6 := Lib.hid (Sx6.out.next b5)
  replace Sx7 := Lib.hid (Sx7.out.next b5)
  replace Sx8 := Lib.hid (Sx8.out.next b5)
  replace Sx9 := Lib.hid (Sx9.out.next b5)
  replace Sy1 := Lib.hid (Sy1.out.next b5)
  replace Sy2 := Lib.hid (Sy2.out.next b5)
  replace Sy3 := Lib.hid (Sy3.out.next b5)
  replace Sy4 := Lib.hid (Sy4.out.next b5)
  replace HT := Lib.hid (HT.out.next b5)
  replace B := Lib.hid (thn B.out b5)
  clear b5
  go_wp2_with fail
  have hc := rightF_any As 2 cs [(0, 9), (-5, 5)] (some ⟨gx7, 0, none⟩) 2 2 [(3, 9), (-5, 0)] w19 HT.out (inRs (by decide)) (inRs (by decide)) Ss.out Sx7.out
  rw [show rightF [(0, 9), (-5, 5)] [(3, 9), (-5, 0)] = true by decide] at hc
  refine hc.mono ?_
  clear hc
  rintro e w20 ⟨rfl, b5⟩
  replace Ss := Lib.hid (Ss.out.next b5)
  replace Sx1 := Lib.hid (Sx1.out.next b5)
  replace Sx2 := Lib.hid (Sx2.out.next b5)
  replace Sx3 := Lib.hid (Sx3.out.next b5)
  replace Sx4 := Lib.hid (Sx4.out.next b5)
  replace Sx5 := Lib.hid (Sx5.out.next b5)
  replace Sx6 := Lib.hid (Sx6.out.next b5)
  replace Sx7 := Lib.hid (Sx7.out.next b5)
  replace Sx8 := Lib.hid (Sx8.out.next b5)
  replace Sx9 := Lib.hid (Sx9.out.next b5)
  replace Sy1 := Lib.hid (Sy1.out.next b5)
  replace Sy2 := Lib.hid (Sy2.out.next b5)
  replace Sy3 := Lib.hid (Sy3.out.next b5)
  replace Sy4 := Lib.hid (Sy4.out.next b5)
  replace HT := Lib.hid (HT.out.next b5)
  replace B := Lib.hid (thn B.out b5)
  clear b5
  go_wp2_with fail
  have hc := matchF_any none 0 0 [] none 0 0 [] w20 (inRs (by decide)) (sp_zero _ _ _) (Sv.nil rfl)
  rw [show matchF [] [] = false by decide] at hc
  refine hc.mono ?_
  clear hc
  rintro e w21 ⟨rfl, b5⟩
  replace B := Lib.hid (thn B.out b5)
  clear b5
  go_wp2
  go_ret
  exact ⟨rfl, B.out⟩
end Go.Proofs.YtdgobdfggdmnpaaDoor