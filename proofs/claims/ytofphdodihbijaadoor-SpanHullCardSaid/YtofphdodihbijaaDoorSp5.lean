/- Layer 4: spans: the chapter's examples. -/
import Derived.Test.YtofphdodihbijaaDoorSp4
namespace Go.Proofs.YtofphdodihbijaaDoor
open Go.RowKit
set_option linter.unusedVariables false
theorem neq_bool (a b : Bool) (w : World) : (binOp .neq 4 (.bool a) (.bool b)).run Tryd.prog w = .ok (.bool (!(a == b))) w := by
  simp only [binOp]
  simp [Op.equal, Op.maxDepth, go_sem]
theorem meet_of {p q r : Int × Int} {m : Bool} {w : World} (hT : Tab w) (hp : inR p) (hq : inR q) (h : meetP p q = r) (hm : meetB p q = m) : Calls Tryd.prog 8 #[(.agg #[.int .i32 p.1, .int .i32 p.2]), (.agg #[.int .i32 q.1, .int .i32 q.2])] w fun e w' => e = .returned (.tuple #[(.agg #[.int .i32 r.1, .int .i32 r.2]), .bool m]) ∧ Below w.heap.size w w' := by
  subst h hm; exact meet_any p q w hT hp hq
theorem covers_of {p q : Int × Int} {b : Bool} {w : World} (hT : Tab w) (hp : inR p) (hq : inR q) (h : covB p q = b) : Calls Tryd.prog 14 #[(.agg #[.int .i32 p.1, .int .i32 p.2]), (.agg #[.int .i32 q.1, .int .i32 q.2])] w fun e w' => e = .returned (.bool b) ∧ Below w.heap.size w w' := by
  subst h; exact covers_any p q w hT hp hq
theorem hull_of {p q r : Int × Int} {w : World} (hT : Tab w) (hp : inR p) (hq : inR q) (h : hullP p q = r) : Calls Tryd.prog 16 #[(.agg #[.int .i32 p.1, .int .i32 p.2]), (.agg #[.int .i32 q.1, .int .i32 q.2])] w fun e w' => e = .returned (.agg #[.int .i32 r.1, .int .i32 r.2]) ∧ Below w.heap.size w w' := by
  subst h; exact hull_any p q w hT hp hq
theorem len_of {p : Int × Int} {n : Int} {w : World} (hT : Tab w) (hp : inR p) (h : lenP p = n) : Calls Tryd.prog 12 #[(.agg #[.int .i32 p.1, .int .i32 p.2])] w fun e w' => e = .returned (.int .u32 n) ∧ Below w.heap.size w w' := by
  subst h; exact len_any p w hT hp
theorem refMeet_of {p q r : Int × Int} {m : Bool} {w : World} (h : meetP p q = r) (hm : meetB p q = m) : Calls Tryd.prog 9 #[(.agg #[.int .i32 p.1, .int .i32 p.2]), (.agg #[.int .i32 q.1, .int .i32 q.2])] w fun e w' => e = .returned (.tuple #[(.agg #[.int .i32 r.1, .int .i32 r.2]), .bool m]) ∧ Below w.heap.size w w' := by
  subst h hm; exact refMeet_any p q w
theorem refCovers_of {p q : Int × Int} {b : Bool} {w : World} (h : covB p q = b) : Calls Tryd.prog 15 #[(.agg #[.int .i32 p.1, .int .i32 p.2]), (.agg #[.int .i32 q.1, .int .i32 q.2])] w fun e w' => e = .returned (.bool b) ∧ Below w.heap.size w w' := by
  subst h; exact refCovers_any p q w
theorem refHull_of {p q r : Int × Int} {w : World} (h : hullP p q = r) : Calls Tryd.prog 17 #[(.agg #[.int .i32 p.1, .int .i32 p.2]), (.agg #[.int .i32 q.1, .int .i32 q.2])] w fun e w' => e = .returned (.agg #[.int .i32 r.1, .int .i32 r.2]) ∧ Below w.heap.size w w' := by
  subst h; exact refHull_any p q w
theorem refLen_of {p : Int × Int} {n : Int} {w : World} (hp : inR p) (h : lenP p = n) : Calls Tryd.prog 13 #[(.agg #[.int .i32 p.1, .int .i32 p.2])] w fun e w' => e = .returned (.int .u32 n) ∧ Below w.heap.size w w' := by
  subst h; exact refLen_any p w hp
set_option maxRecDepth 100000 in
set_option maxHeartbeats 4000000 in
theorem awake_any (w : World) (hT : Tab w) : Calls Tryd.prog 18 #[] w fun e w' => e = .returned (.bool true) ∧ Below w.heap.size w w' := by
  go_enter Tryd.func18, Tryd.ntmps18
  go_wp2_with fail
  refine (sp_any 1 5 w).mono ?_
  rintro e w1 ⟨rfl, b1⟩
  go_wp2_with fail
  refine (sp_any 4 9 w1).mono ?_
  rintro e w2 ⟨rfl, b2'⟩
  have b2 := thn b1 b2'
  clear b1 b2'
  go_wp2_with fail
  refine (meet_of (p := (1, 5)) (q := (4, 9)) (r := (4, 5)) (m := true) (hT.next b2) (by unfold inR; decide) (by unfold inR; decide) (by decide) (by decide)).mono ?_
  rintro e w3 ⟨rfl, b3'⟩
  have b3 := thn b2 b3'
  clear b2 b3'
  go_wp2_with fail
  have K1 : Hid (Blk (w3.alloc (.cells #[.int .i32 4, .int .i32 5] 23)) w3.heap.size (4, 5)) := Blk.lit w3 4 5
  have b4 := thn b3 (below_lit w3 (.cells #[.int .i32 4, .int .i32 5] 23))
  generalize w3.alloc _ = W4 at *
  generalize w3.heap.size = g1 at *
  clear b3
  refine (sp_any 1 3 W4).mono ?_
  rintro e w5 ⟨rfl, b5'⟩
  have b5 := thn b4 b5'
  have K1 := Lib.hid (K1.out.next b5')
  clear b4 b5'
  go_wp2_with fail
  refine (sp_any 4 9 w5).mono ?_
  rintro e w6 ⟨rfl, b6'⟩
  have b6 := thn b5 b6'
  have K1 := Lib.hid (K1.out.next b6')
  clear b5 b6'
  go_wp2_with fail
  refine (meet_of (p := (1, 3)) (q := (4, 9)) (r := (0, 0)) (m := false) (hT.next b6) (by unfold inR; decide) (by unfold inR; decide) (by decide) (by decide)).mono ?_
  rintro e w7 ⟨rfl, b7'⟩
  have b7 := thn b6 b7'
  have K1 := Lib.hid (K1.out.next b7')
  clear b6 b7'
  go_wp2
  have bb := thn b7 (below_lit w7 (.cells #[.int .i32 0, .int .i32 0] 23))
  have HT := Lib.hid (hT.next bb)
  have K1 := Lib.hid (K1.out.old (.cells #[.int .i32 0, .int .i32 0] 23))
  generalize w7.alloc _ = W at *
  clear b7 hT
  refine wp_region_typed_end 49 [(17, .val (.bool true)), (18, .val (.bool true)), (19, .val (.agg #[.int .i32 4, .int .i32 5])), (20, .val (.agg #[.int .i32 4, .int .i32 5])), (21, .val (.bool true)), (22, .val (.bool true)), (23, .val (.bool true)), (24, .val (.bool false)), (25, .val (.bool true)), (26, .val (.bool true)), (27, .val (.bool true)), (28, .val (.agg #[.int .i32 1, .int .i32 9])), (29, .val (.agg #[.int .i32 2, .int .i32 3])), (30, .val (.bool true)), (31, .val (.bool true)), (32, .val (.bool true)), (33, .val (.agg #[.int .i32 2, .int .i32 3])), (34, .val (.agg #[.int .i32 1, .int .i32 9])), (35, .val (.bool false)), (36, .val (.bool true)), (37, .val (.bool true)), (38, .val (.bool true)), (39, .val (.agg #[.int .i32 5, .int .i32 5])), (40, .val (.agg #[.int .i32 7, .int .i32 6])), (41, .val (.bool true)), (42, .val (.bool true)), (43, .val (.bool true)), (44, .val (.agg #[.int .i32 1, .int .i32 2])), (45, .val (.agg #[.int .i32 8, .int .i32 9])), (46, .val (.agg #[.int .i32 1, .int .i32 9])), (47, .val (.agg #[.int .i32 1, .int .i32 9])), (48, .val (.bool true)), (49, .val (.bool true)), (50, .val (.bool true)), (51, .val (.agg #[.int .i32 3, .int .i32 3])), (52, .val (.int .u32 1)), (53, .val (.bool true)), (54, .val (.bool true)), (55, .val (.bool true)), (56, .val (.agg #[.int .i32 5, .int .i32 4])), (57, .val (.int .u32 0)), (58, .val (.bool true)), (59, .val (.bool true)), (60, .val (.bool true)), (61, .val (.agg #[.int .i32 (-2147483648), .int .i32 2147483647])), (62, .val (.int .u32 4294967295)), (63, .val (.bool true)), (64, .val (.bool true)), (0, .val (.bool true))]
    [[], [17], [18], [18], [18, 19, 20], [18, 21], [22], [23], [23, 24], [23, 25], [26], [27], [27], [27, 28, 29], [27, 30], [31], [32], [32], [32, 33, 34], [32, 35], [32, 36], [37], [38], [38], [38, 39, 40], [38, 41], [42], [43], [43], [43, 44, 45], [43], [43, 46, 47], [43, 48], [49], [50], [50, 51], [50, 52], [50, 53], [54], [55], [55, 56], [55, 57], [55, 58], [59], [60], [60, 61], [60, 62], [60, 63], [64]] (by kernel_rfl) (by kernel_rfl) ?_ ?_
  rotate_left
  · intro w5 a hb hB
    have h0 : a.tmps.getD 0 undef = .bool true := hB.new 0 (of_decide_eq_true (by kernel_rfl))
    have hd : a.defers = [] := hB.defers
    clear hB
    simp only [List.drop_succ_cons, List.drop_zero]
    refine wpList_nil ?_
    go_wp2
    exact bodyPost_ret (v := .bool true) ((results_tmp Tryd.results18 a.tmps _ _).trans (by rw [h0])) hd ⟨rfl, bb.trans (hb.mono bb.size)⟩
  simp only [List.take_succ_cons, List.take_zero]
  refine ⟨?g0, ?g1, ?g2, ?g3, ?g4, ?g5, ?g6, ?g7, ?g8, ?g9, ?g10, ?g11, ?g12, ?g13, ?g14, ?g15, ?g16, ?g17, ?g18, ?g19, ?g20, ?g21, ?g22, ?g23, ?g24, ?g25, ?g26, ?g27, ?g28, ?g29, ?g30, ?g31, ?g32, ?g33, ?g34, ?g35, ?g36, ?g37, ?g38, ?g39, ?g40, ?g41, ?g42, ?g43, ?g44, ?g45, ?g46, ?g47, ?g48, trivial⟩
  case g2 =>
    intro w5 hb
    repeat refine over_val rfl ?_
    refine over_nil ?_
    obtain ⟨c0, c1⟩ := (K1.out.next hb).cells
    (go_wp2; exact post_of (by rfl) (by rfl) (Below.refl _ _) (by rfl))
  case g3 =>
    intro w5 hb
    repeat refine over_val rfl ?_
    refine over_nil ?_
    (go_wp2_with (go_at_call 20; go_must (refine (sp_any 4 5 w5).mono ?_); rintro r w6 ⟨rfl, b6⟩); first | exact post_of (by rfl) (by rfl) (Below.refl _ _) (by rfl) | exact post_of (by rfl) (by rfl) b6 (by rfl))
  case g11 =>
    intro w5 hb
    repeat refine over_val rfl ?_
    refine over_nil ?_
    (go_wp2_with (go_at_call 20; go_must (refine (sp_any 1 9 w5).mono ?_); rintro r w6 ⟨rfl, b6⟩); first | exact post_of (by rfl) (by rfl) (Below.refl _ _) (by rfl) | exact post_of (by rfl) (by rfl) b6 (by rfl))
  case g12 =>
    intro w5 hb
    repeat refine over_val rfl ?_
    refine over_nil ?_
    (go_wp2_with (go_at_call 20; go_must (refine (sp_any 2 3 w5).mono ?_); rintro r w6 ⟨rfl, b6⟩); first | exact post_of (by rfl) (by rfl) (Below.refl _ _) (by rfl) | exact post_of (by rfl) (by rfl) b6 (by rfl))
  case g13 =>
    intro w5 hb
    repeat refine over_val rfl ?_
    refine over_nil ?_
    have hT5 := Lib.hid (HT.out.next hb)
    (go_wp2_with (go_at_call 14; go_must (refine (covers_of (p := (1, 9)) (q := (2, 3)) hT5.out (by unfold inR; decide) (by unfold inR; decide) (b := true) (by decide)).mono ?_); rintro r w6 ⟨rfl, b6⟩); first | exact post_of (by rfl) (by rfl) (Below.refl _ _) (by rfl) | exact post_of (by rfl) (by rfl) b6 (by rfl))
  case g16 =>
    intro w5 hb
    repeat refine over_val rfl ?_
    refine over_nil ?_
    (go_wp2_with (go_at_call 20; go_must (refine (sp_any 2 3 w5).mono ?_); rintro r w6 ⟨rfl, b6⟩); first | exact post_of (by rfl) (by rfl) (Below.refl _ _) (by rfl) | exact post_of (by rfl) (by rfl) b6 (by rfl))
  case g17 =>
    intro w5 hb
    repeat refine over_val rfl ?_
    refine over_nil ?_
    (go_wp2_with (go_at_call 20; go_must (refine (sp_any 1 9 w5).mono ?_); rintro r w6 ⟨rfl, b6⟩); first | exact post_of (by rfl) (by rfl) (Below.refl _ _) (by rfl) | exact post_of (by rfl) (by rfl) b6 (by rfl))
  case g18 =>
    intro w5 hb
    repeat refine over_val rfl ?_
    refine over_nil ?_
    have hT5 := Lib.hid (HT.out.next hb)
    (go_wp2_with (go_at_call 14; go_must (refine (covers_of (p := (2, 3)) (q := (1, 9)) hT5.out (by unfold inR; decide) (by unfold inR; decide) (b := false) (by decide)).mono ?_); rintro r w6 ⟨rfl, b6⟩); first | exact post_of (by rfl) (by rfl) (Below.refl _ _) (by rfl) | exact post_of (by rfl) (by rfl) b6 (by rfl))
  case g22 =>
    intro w5 hb
    repeat refine over_val rfl ?_
    refine over_nil ?_
    (go_wp2_with (go_at_call 20; go_must (refine (sp_any 5 5 w5).mono ?_); rintro r w6 ⟨rfl, b6⟩); first | exact post_of (by rfl) (by rfl) (Below.refl _ _) (by rfl) | exact post_of (by rfl) (by rfl) b6 (by rfl))
  case g23 =>
    intro w5 hb
    repeat refine over_val rfl ?_
    refine over_nil ?_
    (go_wp2_with (go_at_call 20; go_must (refine (sp_any 7 6 w5).mono ?_); rintro r w6 ⟨rfl, b6⟩); first | exact post_of (by rfl) (by rfl) (Below.refl _ _) (by rfl) | exact post_of (by rfl) (by rfl) b6 (by rfl))
  case g24 =>
    intro w5 hb
    repeat refine over_val rfl ?_
    refine over_nil ?_
    have hT5 := Lib.hid (HT.out.next hb)
    (go_wp2_with (go_at_call 14; go_must (refine (covers_of (p := (5, 5)) (q := (7, 6)) hT5.out (by unfold inR; decide) (by unfold inR; decide) (b := true) (by decide)).mono ?_); rintro r w6 ⟨rfl, b6⟩); first | exact post_of (by rfl) (by rfl) (Below.refl _ _) (by rfl) | exact post_of (by rfl) (by rfl) b6 (by rfl))
  case g27 =>
    intro w5 hb
    repeat refine over_val rfl ?_
    refine over_nil ?_
    (go_wp2_with (go_at_call 20; go_must (refine (sp_any 1 2 w5).mono ?_); rintro r w6 ⟨rfl, b6⟩); first | exact post_of (by rfl) (by rfl) (Below.refl _ _) (by rfl) | exact post_of (by rfl) (by rfl) b6 (by rfl))
  case g28 =>
    intro w5 hb
    repeat refine over_val rfl ?_
    refine over_nil ?_
    (go_wp2_with (go_at_call 20; go_must (refine (sp_any 8 9 w5).mono ?_); rintro r w6 ⟨rfl, b6⟩); first | exact post_of (by rfl) (by rfl) (Below.refl _ _) (by rfl) | exact post_of (by rfl) (by rfl) b6 (by rfl))
  case g29 =>
    intro w5 hb
    repeat refine over_val rfl ?_
    refine over_nil ?_
    have hT5 := Lib.hid (HT.out.next hb)
    (go_wp2_with (go_at_call 16; go_must (refine (hull_of (p := (1, 2)) (q := (8, 9)) (r := (1, 9)) hT5.out (by unfold inR; decide) (by unfold inR; decide) (by decide)).mono ?_); rintro r w6 ⟨rfl, b6⟩); first | exact post_of (by rfl) (by rfl) (Below.refl _ _) (by rfl) | exact post_of (by rfl) (by rfl) b6 (by rfl))
  case g30 =>
    intro w5 hb
    repeat refine over_val rfl ?_
    refine over_nil ?_
    (go_wp2_with (go_at_call 20; go_must (refine (sp_any 1 9 w5).mono ?_); rintro r w6 ⟨rfl, b6⟩); first | exact post_of (by rfl) (by rfl) (Below.refl _ _) (by rfl) | exact post_of (by rfl) (by rfl) b6 (by rfl))
  case g34 =>
    intro w5 hb
    repeat refine over_val rfl ?_
    refine over_nil ?_
    (go_wp2_with (go_at_call 20; go_must (refine (sp_any 3 3 w5).mono ?_); rintro r w6 ⟨rfl, b6⟩); first | exact post_of (by rfl) (by rfl) (Below.refl _ _) (by rfl) | exact post_of (by rfl) (by rfl) b6 (by rfl))
  case g35 =>
    intro w5 hb
    repeat refine over_val rfl ?_
    refine over_nil ?_
    have hT5 := Lib.hid (HT.out.next hb)
    (go_wp2_with (go_at_call 12; go_must (refine (len_of (p := (3, 3)) (n := 1) hT5.out (by unfold inR; decide) (by decide)).mono ?_); rintro r w6 ⟨rfl, b6⟩); first | exact post_of (by rfl) (by rfl) (Below.refl _ _) (by rfl) | exact post_of (by rfl) (by rfl) b6 (by rfl))
  case g39 =>
    intro w5 hb
    repeat refine over_val rfl ?_
    refine over_nil ?_
    (go_wp2_with (go_at_call 20; go_must (refine (sp_any 5 4 w5).mono ?_); rintro r w6 ⟨rfl, b6⟩); first | exact post_of (by rfl) (by rfl) (Below.refl _ _) (by rfl) | exact post_of (by rfl) (by rfl) b6 (by rfl))
  case g40 =>
    intro w5 hb
    repeat refine over_val rfl ?_
    refine over_nil ?_
    have hT5 := Lib.hid (HT.out.next hb)
    (go_wp2_with (go_at_call 12; go_must (refine (len_of (p := (5, 4)) (n := 0) hT5.out (by unfold inR; decide) (by decide)).mono ?_); rintro r w6 ⟨rfl, b6⟩); first | exact post_of (by rfl) (by rfl) (Below.refl _ _) (by rfl) | exact post_of (by rfl) (by rfl) b6 (by rfl))
  case g44 =>
    intro w5 hb
    repeat refine over_val rfl ?_
    refine over_nil ?_
    (go_wp2_with (go_at_call 20; go_must (refine (sp_any (-2147483648) 2147483647 w5).mono ?_); rintro r w6 ⟨rfl, b6⟩); first | exact post_of (by rfl) (by rfl) (Below.refl _ _) (by rfl) | exact post_of (by rfl) (by rfl) b6 (by rfl))
  case g45 =>
    intro w5 hb
    repeat refine over_val rfl ?_
    refine over_nil ?_
    have hT5 := Lib.hid (HT.out.next hb)
    (go_wp2_with (go_at_call 12; go_must (refine (len_of (p := (-2147483648, 2147483647)) (n := 4294967295) hT5.out (by unfold inR; decide) (by decide)).mono ?_); rintro r w6 ⟨rfl, b6⟩); first | exact post_of (by rfl) (by rfl) (Below.refl _ _) (by rfl) | exact post_of (by rfl) (by rfl) b6 (by rfl))
  all_goals
    intro w5 hb
    repeat refine over_val rfl ?_
    refine over_nil ?_
    go_wp2
    exact post_of (by rfl) (by rfl) (Below.refl _ _) (by rfl)
end Go.Proofs.YtofphdodihbijaaDoor
