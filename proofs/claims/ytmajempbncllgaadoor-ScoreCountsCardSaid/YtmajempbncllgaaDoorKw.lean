/- Layer 6: the chapter's examples. -/
import Derived.Test.YtmajempbncllgaaDoorKk
import Derived.Test.YtmajempbncllgaaDoorKl
import Derived.Test.YtmajempbncllgaaDoorFd
import Derived.Test.YtmajempbncllgaaDoorFw
namespace Go.Proofs.YtmajempbncllgaaDoor
open Go.RowKit
set_option linter.unusedVariables false
theorem two_any (w : World) : Calls Tryd.prog 24 #[] w (GaveF twoL w) := by
  go_enter Tryd.func24, Tryd.ntmps24
  go_wp2
  go_ret
  exact ⟨_, _, rfl, (Sn.lit w _ _ _ 2 2 rfl (by decide)).more (by simp), below_lit _ _⟩
theorem awake_any (w : World) (hT : Tab w) : Calls Tryd.prog 9 #[] w fun e w' => e = .returned (.bool true) ∧ Below w.heap.size w w' := by
  have HT := Lib.hid hT
  have B := Lib.hid (Below.refl w.heap.size w)
  clear hT
  have Sz : Hid (Sp w w.heap.size none 0 0 []) := sp_zero _ _ _
  go_enter Tryd.func9, Tryd.ntmps9
  go_wp2_with fail
  have Sa : Hid (Sp (w.alloc (.cells #[.int .i32 0, .int .i32 9, .int .i32 0, .int .i32 4] 36)) (w.alloc (.cells #[.int .i32 0, .int .i32 9, .int .i32 0, .int .i32 4] 36)).heap.size (some ⟨w.heap.size, 0, none⟩) 2 2 [(0, 9), (0, 4)]) := (Sn.lit w _ _ _ 2 2 rfl (by decide)).more (by simp)
  have bL := below_lit w (.cells #[.int .i32 0, .int .i32 9, .int .i32 0, .int .i32 4] 36)
  replace Sz := Lib.hid (Sz.out.next bL)
  replace HT := Lib.hid (HT.out.next bL)
  replace B := Lib.hid (thn B.out bL)
  clear bL
  have hz := World.size_alloc w (.cells #[.int .i32 0, .int .i32 9, .int .i32 0, .int .i32 4] 36)
  generalize hga : w.heap.size = ga at Sa hz ⊢
  generalize w.alloc _ = w1 at *
  clear hga
  have Sb : Hid (Sp (w1.alloc (.cells #[.int .i32 5, .int .i32 20, .int .i32 0, .int .i32 0] 36)) (w1.alloc (.cells #[.int .i32 5, .int .i32 20, .int .i32 0, .int .i32 0] 36)).heap.size (some ⟨ga + 1, 0, none⟩) 2 2 [(5, 20), (0, 0)]) := (Sn.lit_at w1 _ _ _ 2 2 (ga + 1) hz rfl (by decide)).more (by simp [hz])
  have bL := below_lit w1 (.cells #[.int .i32 5, .int .i32 20, .int .i32 0, .int .i32 0] 36)
  replace Sz := Lib.hid (Sz.out.next bL)
  replace Sa := Lib.hid (Sa.out.next bL)
  replace HT := Lib.hid (HT.out.next bL)
  replace B := Lib.hid (thn B.out bL)
  clear bL hz
  generalize w1.alloc _ = w2 at *
  have hc := over_any (some ⟨ga, 0, none⟩) 2 2 [(0, 9), (0, 4)] (some ⟨ga + 1, 0, none⟩) 2 2 [(5, 20), (0, 0)] w2 HT.out (inRs (by decide)) (inRs (by decide)) Sa.out Sb.out (by decide)
  rw [show overF [(0, 9), (0, 4)] [(5, 20), (0, 0)] = 5 by decide +kernel] at hc
  refine hc.mono ?_
  clear hc
  rintro e w3 ⟨rfl, b5⟩
  replace Sz := Lib.hid (Sz.out.next b5)
  replace Sa := Lib.hid (Sa.out.next b5)
  replace Sb := Lib.hid (Sb.out.next b5)
  replace HT := Lib.hid (HT.out.next b5)
  replace B := Lib.hid (thn B.out b5)
  clear b5
  go_wp2_with fail
  refine (two_any w3).mono ?_
  rintro e w4 ⟨As, cs, rfl, ss, b5⟩
  have Ss : Hid (Sp _ _ As 2 cs [(0, 9), (-5, 5)]) := ss
  clear ss
  dsimp only [twoL, List.length_cons, List.length_nil, Nat.zero_add, Nat.reduceAdd]
  replace Sz := Lib.hid (Sz.out.next b5)
  replace Sa := Lib.hid (Sa.out.next b5)
  replace Sb := Lib.hid (Sb.out.next b5)
  replace HT := Lib.hid (HT.out.next b5)
  replace B := Lib.hid (thn B.out b5)
  clear b5
  go_wp2_with fail
  have Sf : Hid (Sp (w4.alloc (.cells #[.int .i32 3, .int .i32 9, .int .i32 (-5), .int .i32 0] 36)) (w4.alloc (.cells #[.int .i32 3, .int .i32 9, .int .i32 (-5), .int .i32 0] 36)).heap.size (some ⟨w4.heap.size, 0, none⟩) 2 2 [(3, 9), (-5, 0)]) := (Sn.lit w4 _ _ _ 2 2 rfl (by decide)).more (by simp)
  have bL := below_lit w4 (.cells #[.int .i32 3, .int .i32 9, .int .i32 (-5), .int .i32 0] 36)
  replace Sz := Lib.hid (Sz.out.next bL)
  replace Sa := Lib.hid (Sa.out.next bL)
  replace Sb := Lib.hid (Sb.out.next bL)
  replace Ss := Lib.hid (Ss.out.next bL)
  replace HT := Lib.hid (HT.out.next bL)
  replace B := Lib.hid (thn B.out bL)
  clear bL
  generalize hgf : w4.heap.size = gf at *
  generalize w4.alloc _ = w5 at *
  clear hgf
  have hc := key_any As 2 cs [(0, 9), (-5, 5)] (some ⟨gf, 0, none⟩) 2 2 [(3, 9), (-5, 0)] w5 HT.out (inRs (by decide)) (inRs (by decide)) (by decide +kernel) (by decide) Ss.out Sf.out
  rw [show keyF [(0, 9), (-5, 5)] [(3, 9), (-5, 0)] = 8 by decide +kernel] at hc
  refine hc.mono ?_
  clear hc
  rintro e w6 ⟨rfl, b5⟩
  replace Sz := Lib.hid (Sz.out.next b5)
  replace Sa := Lib.hid (Sa.out.next b5)
  replace Sb := Lib.hid (Sb.out.next b5)
  replace Ss := Lib.hid (Ss.out.next b5)
  replace Sf := Lib.hid (Sf.out.next b5)
  replace HT := Lib.hid (HT.out.next b5)
  replace B := Lib.hid (thn B.out b5)
  clear b5
  go_wp2_with fail
  refine (two_any w6).mono ?_
  rintro e w7 ⟨At, ct, rfl, st, b5⟩
  have St : Hid (Sp _ _ At 2 ct [(0, 9), (-5, 5)]) := st
  clear st
  dsimp only [twoL, List.length_cons, List.length_nil, Nat.zero_add, Nat.reduceAdd]
  replace Sz := Lib.hid (Sz.out.next b5)
  replace Sa := Lib.hid (Sa.out.next b5)
  replace Sb := Lib.hid (Sb.out.next b5)
  replace Ss := Lib.hid (Ss.out.next b5)
  replace Sf := Lib.hid (Sf.out.next b5)
  replace HT := Lib.hid (HT.out.next b5)
  replace B := Lib.hid (thn B.out b5)
  clear b5
  go_wp2_with fail
  have hc := key_any At 2 ct [(0, 9), (-5, 5)] none 0 0 [] w7 HT.out (inRs (by decide)) (inRs (by decide)) (by decide +kernel) (by decide) St.out Sz.out
  rw [show keyF [(0, 9), (-5, 5)] [] = 0 by decide +kernel] at hc
  refine hc.mono ?_
  clear hc
  rintro e w8 ⟨rfl, b5⟩
  replace Sz := Lib.hid (Sz.out.next b5)
  replace Sa := Lib.hid (Sa.out.next b5)
  replace Sb := Lib.hid (Sb.out.next b5)
  replace Ss := Lib.hid (Ss.out.next b5)
  replace Sf := Lib.hid (Sf.out.next b5)
  replace St := Lib.hid (St.out.next b5)
  replace HT := Lib.hid (HT.out.next b5)
  replace B := Lib.hid (thn B.out b5)
  clear b5
  go_wp2_with fail
  have hc := over_any (some ⟨ga, 0, none⟩) 2 2 [(0, 9), (0, 4)] none 0 0 [] w8 HT.out (inRs (by decide)) (inRs (by decide)) Sa.out Sz.out (by decide)
  rw [show overF [(0, 9), (0, 4)] [] = 0 by decide +kernel] at hc
  refine hc.mono ?_
  clear hc
  rintro e w9 ⟨rfl, b5⟩
  replace Sz := Lib.hid (Sz.out.next b5)
  replace Sa := Lib.hid (Sa.out.next b5)
  replace Sb := Lib.hid (Sb.out.next b5)
  replace Ss := Lib.hid (Ss.out.next b5)
  replace Sf := Lib.hid (Sf.out.next b5)
  replace St := Lib.hid (St.out.next b5)
  replace HT := Lib.hid (HT.out.next b5)
  replace B := Lib.hid (thn B.out b5)
  clear b5
  go_wp2
  go_ret
  exact ⟨rfl, B.out⟩
end Go.Proofs.YtmajempbncllgaaDoor
