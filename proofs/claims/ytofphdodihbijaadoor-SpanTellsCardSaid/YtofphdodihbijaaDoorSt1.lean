/- Layer 4: the walk of SpanTells. -/
import Derived.Test.YtofphdodihbijaaDoorSp5
import Derived.Deep.Cut
import Derived.Test.YtofphdodihbijaaDoorReg6
namespace Go.Proofs.YtofphdodihbijaaDoor
open Go.RowKit
set_option linter.unusedVariables false
set_option maxRecDepth 100000 in
set_option maxHeartbeats 4000000 in
theorem stells_walk (a b : Int × Int) (v : Int) (w : World) (hT : Tab w) (ia : inR a) (ib : inR b) :
    Calls Tryd.prog 3 #[(.agg #[.int .i32 a.1, .int .i32 a.2]), (.agg #[.int .i32 b.1, .int .i32 b.2]), .int .i32 v] w fun e w' => e = .returned (.bool true) ∧ Below w.heap.size w w' := by
  obtain ⟨r, Hr⟩ : ∃ r, Hid (meetP a b = r) := ⟨_, rfl⟩
  obtain ⟨m, Hm⟩ : ∃ r, Hid (meetB a b = r) := ⟨_, rfl⟩
  obtain ⟨h, Hh⟩ : ∃ r, Hid (hasB a v = r) := ⟨_, rfl⟩
  obtain ⟨n, Hn⟩ : ∃ r, Hid (lenP a = r) := ⟨_, rfl⟩
  obtain ⟨c, Hc⟩ : ∃ r, Hid (covB a b = r) := ⟨_, rfl⟩
  obtain ⟨u, Hu⟩ : ∃ r, Hid (hullP a b = r) := ⟨_, rfl⟩
  have ia := Lib.hid ia
  have ib := Lib.hid ib
  have bw : Below w.heap.size w ((w.alloc (.cells #[.int .i32 a.1, .int .i32 a.2] 23)).alloc (.cells #[.int .i32 b.1, .int .i32 b.2] 23)) := (thn (below_lit w (.cells #[.int .i32 a.1, .int .i32 a.2] 23)) (below_lit _ (.cells #[.int .i32 b.1, .int .i32 b.2] 23)))
  have Ka : Hid (Blk ((w.alloc (.cells #[.int .i32 a.1, .int .i32 a.2] 23)).alloc (.cells #[.int .i32 b.1, .int .i32 b.2] 23)) (w.heap.size) a) := by
    have := (Blk.lit w a.1 a.2).old (.cells #[.int .i32 b.1, .int .i32 b.2] 23)
    unfold Hid
    simpa using this
  have Kb : Hid (Blk ((w.alloc (.cells #[.int .i32 a.1, .int .i32 a.2] 23)).alloc (.cells #[.int .i32 b.1, .int .i32 b.2] 23)) (w.heap.size + 1) b) := by
    have := Blk.lit (w.alloc (.cells #[.int .i32 a.1, .int .i32 a.2] 23)) b.1 b.2
    unfold Hid
    simpa using this
  have HT : Hid (Tab ((w.alloc (.cells #[.int .i32 a.1, .int .i32 a.2] 23)).alloc (.cells #[.int .i32 b.1, .int .i32 b.2] 23))) := hT.next bw
  clear hT
  go_enter Tryd.func3, Tryd.ntmps3
  go_wp2_with fail
  generalize (w.alloc _).alloc _ = W at *
  generalize w.heap.size + 1 = gb at Kb ⊢
  generalize w.heap.size = ga at Ka ⊢
  refine (meet_of HT.out ia.out ib.out Hr.out Hm.out).mono ?_
  rintro e w1 ⟨rfl, b1⟩
  have B1 := thn b1 (below_lit w1 (.cells #[.int .i32 r.1, .int .i32 r.2] 23))
  have bw := bw.trans (B1.mono bw.size)
  have Ka := Lib.hid (Ka.out.next B1)
  have Kb := Lib.hid (Kb.out.next B1)
  have HT := Lib.hid (HT.out.next B1)
  have Kx : Hid (Blk (w1.alloc (.cells #[.int .i32 r.1, .int .i32 r.2] 23)) w1.heap.size r) := Blk.lit w1 r.1 r.2
  clear b1 B1
  go_upto_region 2 with fail
  generalize w1.alloc _ = W1 at *
  generalize w1.heap.size = gx at Kx ⊢
  obtain ⟨c0, c1⟩ := Ka.out.cells
  obtain ⟨c2, c3⟩ := Kb.out.cells
  go_wp2_with fail
  clear c0 c1 c2 c3
  refine (refMeet_of Hr.out Hm.out).mono ?_
  rintro e w2 ⟨rfl, b1⟩
  have B1 := thn b1 (below_lit w2 (.cells #[.int .i32 r.1, .int .i32 r.2] 23))
  have bw := bw.trans (B1.mono bw.size)
  have Ka := Lib.hid (Ka.out.next B1)
  have Kb := Lib.hid (Kb.out.next B1)
  have Kx := Lib.hid (Kx.out.next B1)
  have HT := Lib.hid (HT.out.next B1)
  have Ky : Hid (Blk (w2.alloc (.cells #[.int .i32 r.1, .int .i32 r.2] 23)) w2.heap.size r) := Blk.lit w2 r.1 r.2
  clear b1 B1
  go_upto_region 3 with fail
  generalize w2.alloc _ = W2 at *
  generalize w2.heap.size = gy at Ky ⊢
  refine wp_region_vals_end 46 [(23, (.agg #[.int .i32 a.1, .int .i32 a.2])), (24, (.int .i32 v)), (25, (.bool h)), (26, (.agg #[.int .i32 a.1, .int .i32 a.2])), (27, (.int .i32 v)), (28, (.bool h)), (29, (.bool true)), (30, (.bool true)), (31, (.agg #[.int .i32 a.1, .int .i32 a.2])), (32, (.int .u32 n)), (33, (.agg #[.int .i32 a.1, .int .i32 a.2])), (34, (.int .u32 n)), (35, (.bool true)), (36, (.bool true)), (37, (.bool true)), (38, (.agg #[.int .i32 r.1, .int .i32 r.2])), (39, (.agg #[.int .i32 r.1, .int .i32 r.2])), (40, (.bool true)), (41, (.bool true)), (42, (.bool true)), (43, (.bool m)), (44, (.bool m)), (45, (.bool true)), (46, (.bool true)), (47, (.bool true)), (48, (.agg #[.int .i32 a.1, .int .i32 a.2])), (49, (.agg #[.int .i32 b.1, .int .i32 b.2])), (50, (.bool c)), (51, (.agg #[.int .i32 a.1, .int .i32 a.2])), (52, (.agg #[.int .i32 b.1, .int .i32 b.2])), (53, (.bool c)), (54, (.bool true)), (55, (.bool true)), (56, (.bool true)), (57, (.agg #[.int .i32 a.1, .int .i32 a.2])), (58, (.agg #[.int .i32 b.1, .int .i32 b.2])), (59, (.agg #[.int .i32 u.1, .int .i32 u.2])), (60, (.agg #[.int .i32 a.1, .int .i32 a.2])), (61, (.agg #[.int .i32 b.1, .int .i32 b.2])), (62, (.agg #[.int .i32 u.1, .int .i32 u.2])), (63, (.bool true)), (64, (.bool true)), (65, (.bool true)), (66, (.bool true)), (67, (.bool true)), (6, (.bool true))]
    [[], [], [23, 24], [], [], [26, 27], [25, 28], [29], [30], [30, 31], [30], [30, 33], [30, 32, 34], [30, 35], [36], [37], [37], [37, 38, 39], [37, 40], [41], [42], [42], [42, 43, 44], [42, 45], [46], [47], [47], [47, 48, 49], [47], [47], [47, 51, 52], [47, 50, 53], [47, 54], [55], [56], [56], [56, 57, 58], [56], [56], [56, 60, 61], [56, 59, 62], [56, 63], [64], [65], [65, 66], [67]] (by kernel_rfl) (by kernel_rfl) ?_ ?_
  rotate_left
  · intro w5 a hb hB
    have h0 : a.tmps.getD 6 undef = .bool true := hB.new 6 (of_decide_eq_true (by kernel_rfl))
    have hd : a.defers = [] := hB.defers
    clear hB
    simp only [List.drop_succ_cons, List.drop_zero]
    refine wpList_nil ?_
    go_wp2
    exact bodyPost_ret (v := .bool true) ((results_tmp Tryd.results3 a.tmps _ _).trans (by rw [h0])) hd ⟨rfl, bw.trans (hb.mono bw.size)⟩
  simp only [List.take_succ_cons, List.take_zero]
  
  refine ⟨?r3g0, ?r3g1, ?r3g2, ?r3g3, ?r3g4, ?r3g5, ?r3g6, ?r3g7, ?r3g8, ?r3g9, ?r3g10, ?r3g11, ?r3g12, ?r3g13, ?r3g14, ?r3g15, ?r3g16, ?r3g17, ?r3g18, ?r3g19, ?r3g20, ?r3g21, ?r3g22, ?r3g23, ?r3g24, ?r3g25, ?r3g26, ?r3g27, ?r3g28, ?r3g29, ?r3g30, ?r3g31, ?r3g32, ?r3g33, ?r3g34, ?r3g35, ?r3g36, ?r3g37, ?r3g38, ?r3g39, ?r3g40, ?r3g41, ?r3g42, ?r3g43, ?r3g44, ?r3g45, trivial⟩
  case r3g0 =>
    intro w5 hb
    refine over_nil ?_
    obtain ⟨c0, c1⟩ := (Ka.out.next hb).cells
    (go_wp2; all_goals (first | exact post_of (by rfl) (by rfl) (Below.refl _ _) (by rfl) | (exfalso; simp_all; done)))
  case r3g1 =>
    intro w5 hb
    refine over_nil ?_
    exact post_run (.int .i32 v) rfl (by kernel_rfl) (by kernel_rfl) (by kernel_rfl) (by kernel_rfl) (by kernel_rfl)
  case r3g2 =>
    intro w5 hb
    refine over_vals (ds := [23, 24]) [(.agg #[.int .i32 a.1, .int .i32 a.2]), (.int .i32 v)] (by kernel_rfl) ?_
    simp only [putAll, put_lit, List.set_cons_succ, List.set_cons_zero]
    (go_wp2_with (go_at_call 10; go_must (refine (has_of Hh.out).mono ?_); rintro r w6 ⟨rfl, b6⟩); all_goals (first | exact post_of (by rfl) (by rfl) (Below.refl _ _) (by rfl) | exact post_of (by rfl) (by rfl) b6 (by rfl) | (exfalso; simp_all; done)))
  case r3g3 =>
    intro w5 hb
    refine over_nil ?_
    obtain ⟨c0, c1⟩ := (Ka.out.next hb).cells
    (go_wp2; all_goals (first | exact post_of (by rfl) (by rfl) (Below.refl _ _) (by rfl) | (exfalso; simp_all; done)))
  case r3g4 =>
    intro w5 hb
    refine over_nil ?_
    exact post_run (.int .i32 v) rfl (by kernel_rfl) (by kernel_rfl) (by kernel_rfl) (by kernel_rfl) (by kernel_rfl)
  case r3g5 =>
    intro w5 hb
    refine over_vals (ds := [26, 27]) [(.agg #[.int .i32 a.1, .int .i32 a.2]), (.int .i32 v)] (by kernel_rfl) ?_
    simp only [putAll, put_lit, List.set_cons_succ, List.set_cons_zero]
    (go_wp2_with (go_at_call 11; go_must (refine (refHas_of Hh.out).mono ?_); rintro r w6 ⟨rfl, b6⟩); all_goals (first | exact post_of (by rfl) (by rfl) (Below.refl _ _) (by rfl) | exact post_of (by rfl) (by rfl) b6 (by rfl) | (exfalso; simp_all; done)))
  case r3g6 =>
    intro w5 hb
    refine over_vals (ds := [25, 28]) [(.bool h), (.bool h)] (by kernel_rfl) ?_
    simp only [putAll, put_lit, List.set_cons_succ, List.set_cons_zero]
    cases h
    · try dsimp only [cond]
      (go_wp2; all_goals (first | exact post_of (by rfl) (by rfl) (Below.refl _ _) (by rfl) | (exfalso; simp_all; done)))
    · try dsimp only [cond]
      (go_wp2; all_goals (first | exact post_of (by rfl) (by rfl) (Below.refl _ _) (by rfl) | (exfalso; simp_all; done)))
  case r3g7 =>
    intro w5 hb
    refine over_vals (ds := [29]) [(.bool true)] (by kernel_rfl) ?_
    exact post_run (.bool true) rfl (by kernel_rfl) (by kernel_rfl) (by kernel_rfl) (by kernel_rfl) (by kernel_rfl)
  case r3g8 =>
    intro w5 hb
    refine over_vals (ds := [30]) [(.bool true)] (by kernel_rfl) ?_
    obtain ⟨c0, c1⟩ := (Ka.out.next hb).cells
    simp only [putAll, put_lit, List.set_cons_succ, List.set_cons_zero]
    (go_wp2; all_goals (first | exact post_of (by rfl) (by rfl) (Below.refl _ _) (by rfl) | (exfalso; simp_all; done)))
  case r3g9 =>
    intro w5 hb
    refine over_vals (ds := [30, 31]) [(.bool true), (.agg #[.int .i32 a.1, .int .i32 a.2])] (by kernel_rfl) ?_
    have hT5 := Lib.hid (HT.out.next hb)
    simp only [putAll, put_lit, List.set_cons_succ, List.set_cons_zero]
    (go_wp2_with (go_at_call 12; go_must (refine (len_of hT5.out ia.out Hn.out).mono ?_); rintro r w6 ⟨rfl, b6⟩); all_goals (first | exact post_of (by rfl) (by rfl) (Below.refl _ _) (by rfl) | exact post_of (by rfl) (by rfl) b6 (by rfl) | (exfalso; simp_all; done)))
  case r3g10 =>
    intro w5 hb
    refine over_vals (ds := [30]) [(.bool true)] (by kernel_rfl) ?_
    obtain ⟨c0, c1⟩ := (Ka.out.next hb).cells
    simp only [putAll, put_lit, List.set_cons_succ, List.set_cons_zero]
    (go_wp2; all_goals (first | exact post_of (by rfl) (by rfl) (Below.refl _ _) (by rfl) | (exfalso; simp_all; done)))
  case r3g11 =>
    intro w5 hb
    refine over_vals (ds := [30, 33]) [(.bool true), (.agg #[.int .i32 a.1, .int .i32 a.2])] (by kernel_rfl) ?_
    simp only [putAll, put_lit, List.set_cons_succ, List.set_cons_zero]
    (go_wp2_with (go_at_call 13; go_must (refine (refLen_of ia.out Hn.out).mono ?_); rintro r w6 ⟨rfl, b6⟩); all_goals (first | exact post_of (by rfl) (by rfl) (Below.refl _ _) (by rfl) | exact post_of (by rfl) (by rfl) b6 (by rfl) | (exfalso; simp_all; done)))
  case r3g12 =>
    intro w5 hb
    refine over_vals (ds := [30, 32, 34]) [(.bool true), (.int .u32 n), (.int .u32 n)] (by kernel_rfl) ?_
    simp only [putAll, put_lit, List.set_cons_succ, List.set_cons_zero]
    (go_wp2; all_goals (first | exact post_of (by rfl) (by rfl) (Below.refl _ _) (by rfl) | (exfalso; simp_all; done)))
  case r3g13 =>
    intro w5 hb
    refine over_vals (ds := [30, 35]) [(.bool true), (.bool true)] (by kernel_rfl) ?_
    exact post_run (.bool true) rfl (by kernel_rfl) (by kernel_rfl) (by kernel_rfl) (by kernel_rfl) (by kernel_rfl)
  case r3g14 =>
    intro w5 hb
    refine over_vals (ds := [36]) [(.bool true)] (by kernel_rfl) ?_
    exact post_run (.bool true) rfl (by kernel_rfl) (by kernel_rfl) (by kernel_rfl) (by kernel_rfl) (by kernel_rfl)
  case r3g15 =>
    intro w5 hb
    refine over_vals (ds := [37]) [(.bool true)] (by kernel_rfl) ?_
    obtain ⟨c0, c1⟩ := (Kx.out.next hb).cells
    simp only [putAll, put_lit, List.set_cons_succ, List.set_cons_zero]
    (go_wp2; all_goals (first | exact post_of (by rfl) (by rfl) (Below.refl _ _) (by rfl) | (exfalso; simp_all; done)))
  case r3g16 =>
    intro w5 hb
    refine over_vals (ds := [37]) [(.bool true)] (by kernel_rfl) ?_
    obtain ⟨c0, c1⟩ := (Ky.out.next hb).cells
    simp only [putAll, put_lit, List.set_cons_succ, List.set_cons_zero]
    (go_wp2; all_goals (first | exact post_of (by rfl) (by rfl) (Below.refl _ _) (by rfl) | (exfalso; simp_all; done)))
  case r3g17 =>
    intro w5 hb
    refine over_vals (ds := [37, 38, 39]) [(.bool true), (.agg #[.int .i32 r.1, .int .i32 r.2]), (.agg #[.int .i32 r.1, .int .i32 r.2])] (by kernel_rfl) ?_
    simp only [putAll, put_lit, List.set_cons_succ, List.set_cons_zero]
    (go_wp2; all_goals (first | exact post_of (by rfl) (by rfl) (Below.refl _ _) (by rfl) | (exfalso; simp_all; done)))
  case r3g18 =>
    intro w5 hb
    refine over_vals (ds := [37, 40]) [(.bool true), (.bool true)] (by kernel_rfl) ?_
    exact post_run (.bool true) rfl (by kernel_rfl) (by kernel_rfl) (by kernel_rfl) (by kernel_rfl) (by kernel_rfl)
  case r3g19 =>
    intro w5 hb
    refine over_vals (ds := [41]) [(.bool true)] (by kernel_rfl) ?_
    exact post_run (.bool true) rfl (by kernel_rfl) (by kernel_rfl) (by kernel_rfl) (by kernel_rfl) (by kernel_rfl)
  case r3g20 =>
    intro w5 hb
    refine over_vals (ds := [42]) [(.bool true)] (by kernel_rfl) ?_
    exact post_run (.bool m) rfl (by kernel_rfl) (by kernel_rfl) (by kernel_rfl) (by kernel_rfl) (by kernel_rfl)
  case r3g21 =>
    intro w5 hb
    refine over_vals (ds := [42]) [(.bool true)] (by kernel_rfl) ?_
    exact post_run (.bool m) rfl (by kernel_rfl) (by kernel_rfl) (by kernel_rfl) (by kernel_rfl) (by kernel_rfl)
  case r3g22 =>
    intro w5 hb
    refine over_vals (ds := [42, 43, 44]) [(.bool true), (.bool m), (.bool m)] (by kernel_rfl) ?_
    simp only [putAll, put_lit, List.set_cons_succ, List.set_cons_zero]
    cases m
    · try dsimp only [cond]
      (go_wp2; all_goals (first | exact post_of (by rfl) (by rfl) (Below.refl _ _) (by rfl) | (exfalso; simp_all; done)))
    · try dsimp only [cond]
      (go_wp2; all_goals (first | exact post_of (by rfl) (by rfl) (Below.refl _ _) (by rfl) | (exfalso; simp_all; done)))
  case r3g23 =>
    intro w5 hb
    refine over_vals (ds := [42, 45]) [(.bool true), (.bool true)] (by kernel_rfl) ?_
    exact post_run (.bool true) rfl (by kernel_rfl) (by kernel_rfl) (by kernel_rfl) (by kernel_rfl) (by kernel_rfl)
  case r3g24 =>
    intro w5 hb
    refine over_vals (ds := [46]) [(.bool true)] (by kernel_rfl) ?_
    exact post_run (.bool true) rfl (by kernel_rfl) (by kernel_rfl) (by kernel_rfl) (by kernel_rfl) (by kernel_rfl)
  case r3g25 =>
    intro w5 hb
    refine over_vals (ds := [47]) [(.bool true)] (by kernel_rfl) ?_
    obtain ⟨c0, c1⟩ := (Ka.out.next hb).cells
    simp only [putAll, put_lit, List.set_cons_succ, List.set_cons_zero]
    (go_wp2; all_goals (first | exact post_of (by rfl) (by rfl) (Below.refl _ _) (by rfl) | (exfalso; simp_all; done)))
  case r3g26 =>
    intro w5 hb
    refine over_vals (ds := [47]) [(.bool true)] (by kernel_rfl) ?_
    obtain ⟨c0, c1⟩ := (Kb.out.next hb).cells
    simp only [putAll, put_lit, List.set_cons_succ, List.set_cons_zero]
    (go_wp2; all_goals (first | exact post_of (by rfl) (by rfl) (Below.refl _ _) (by rfl) | (exfalso; simp_all; done)))
  case r3g27 =>
    intro w5 hb
    refine over_vals (ds := [47, 48, 49]) [(.bool true), (.agg #[.int .i32 a.1, .int .i32 a.2]), (.agg #[.int .i32 b.1, .int .i32 b.2])] (by kernel_rfl) ?_
    have hT5 := Lib.hid (HT.out.next hb)
    simp only [putAll, put_lit, List.set_cons_succ, List.set_cons_zero]
    (go_wp2_with (go_at_call 14; go_must (refine (covers_of hT5.out ia.out ib.out Hc.out).mono ?_); rintro r w6 ⟨rfl, b6⟩); all_goals (first | exact post_of (by rfl) (by rfl) (Below.refl _ _) (by rfl) | exact post_of (by rfl) (by rfl) b6 (by rfl) | (exfalso; simp_all; done)))
  case r3g28 =>
    intro w5 hb
    refine over_vals (ds := [47]) [(.bool true)] (by kernel_rfl) ?_
    obtain ⟨c0, c1⟩ := (Ka.out.next hb).cells
    simp only [putAll, put_lit, List.set_cons_succ, List.set_cons_zero]
    (go_wp2; all_goals (first | exact post_of (by rfl) (by rfl) (Below.refl _ _) (by rfl) | (exfalso; simp_all; done)))
  case r3g29 =>
    intro w5 hb
    refine over_vals (ds := [47]) [(.bool true)] (by kernel_rfl) ?_
    obtain ⟨c0, c1⟩ := (Kb.out.next hb).cells
    simp only [putAll, put_lit, List.set_cons_succ, List.set_cons_zero]
    (go_wp2; all_goals (first | exact post_of (by rfl) (by rfl) (Below.refl _ _) (by rfl) | (exfalso; simp_all; done)))
  case r3g30 =>
    intro w5 hb
    refine over_vals (ds := [47, 51, 52]) [(.bool true), (.agg #[.int .i32 a.1, .int .i32 a.2]), (.agg #[.int .i32 b.1, .int .i32 b.2])] (by kernel_rfl) ?_
    simp only [putAll, put_lit, List.set_cons_succ, List.set_cons_zero]
    (go_wp2_with (go_at_call 15; go_must (refine (refCovers_of Hc.out).mono ?_); rintro r w6 ⟨rfl, b6⟩); all_goals (first | exact post_of (by rfl) (by rfl) (Below.refl _ _) (by rfl) | exact post_of (by rfl) (by rfl) b6 (by rfl) | (exfalso; simp_all; done)))
  case r3g31 =>
    intro w5 hb
    refine over_vals (ds := [47, 50, 53]) [(.bool true), (.bool c), (.bool c)] (by kernel_rfl) ?_
    simp only [putAll, put_lit, List.set_cons_succ, List.set_cons_zero]
    cases c
    · try dsimp only [cond]
      (go_wp2; all_goals (first | exact post_of (by rfl) (by rfl) (Below.refl _ _) (by rfl) | (exfalso; simp_all; done)))
    · try dsimp only [cond]
      (go_wp2; all_goals (first | exact post_of (by rfl) (by rfl) (Below.refl _ _) (by rfl) | (exfalso; simp_all; done)))
  case r3g32 =>
    intro w5 hb
    refine over_vals (ds := [47, 54]) [(.bool true), (.bool true)] (by kernel_rfl) ?_
    exact post_run (.bool true) rfl (by kernel_rfl) (by kernel_rfl) (by kernel_rfl) (by kernel_rfl) (by kernel_rfl)
  case r3g33 =>
    intro w5 hb
    refine over_vals (ds := [55]) [(.bool true)] (by kernel_rfl) ?_
    exact post_run (.bool true) rfl (by kernel_rfl) (by kernel_rfl) (by kernel_rfl) (by kernel_rfl) (by kernel_rfl)
  case r3g34 =>
    intro w5 hb
    refine over_vals (ds := [56]) [(.bool true)] (by kernel_rfl) ?_
    obtain ⟨c0, c1⟩ := (Ka.out.next hb).cells
    simp only [putAll, put_lit, List.set_cons_succ, List.set_cons_zero]
    (go_wp2; all_goals (first | exact post_of (by rfl) (by rfl) (Below.refl _ _) (by rfl) | (exfalso; simp_all; done)))
  case r3g35 =>
    intro w5 hb
    refine over_vals (ds := [56]) [(.bool true)] (by kernel_rfl) ?_
    obtain ⟨c0, c1⟩ := (Kb.out.next hb).cells
    simp only [putAll, put_lit, List.set_cons_succ, List.set_cons_zero]
    (go_wp2; all_goals (first | exact post_of (by rfl) (by rfl) (Below.refl _ _) (by rfl) | (exfalso; simp_all; done)))
  case r3g36 =>
    intro w5 hb
    refine over_vals (ds := [56, 57, 58]) [(.bool true), (.agg #[.int .i32 a.1, .int .i32 a.2]), (.agg #[.int .i32 b.1, .int .i32 b.2])] (by kernel_rfl) ?_
    have hT5 := Lib.hid (HT.out.next hb)
    simp only [putAll, put_lit, List.set_cons_succ, List.set_cons_zero]
    (go_wp2_with (go_at_call 16; go_must (refine (hull_of hT5.out ia.out ib.out Hu.out).mono ?_); rintro r w6 ⟨rfl, b6⟩); all_goals (first | exact post_of (by rfl) (by rfl) (Below.refl _ _) (by rfl) | exact post_of (by rfl) (by rfl) b6 (by rfl) | (exfalso; simp_all; done)))
  case r3g37 =>
    intro w5 hb
    refine over_vals (ds := [56]) [(.bool true)] (by kernel_rfl) ?_
    obtain ⟨c0, c1⟩ := (Ka.out.next hb).cells
    simp only [putAll, put_lit, List.set_cons_succ, List.set_cons_zero]
    (go_wp2; all_goals (first | exact post_of (by rfl) (by rfl) (Below.refl _ _) (by rfl) | (exfalso; simp_all; done)))
  case r3g38 =>
    intro w5 hb
    refine over_vals (ds := [56]) [(.bool true)] (by kernel_rfl) ?_
    obtain ⟨c0, c1⟩ := (Kb.out.next hb).cells
    simp only [putAll, put_lit, List.set_cons_succ, List.set_cons_zero]
    (go_wp2; all_goals (first | exact post_of (by rfl) (by rfl) (Below.refl _ _) (by rfl) | (exfalso; simp_all; done)))
  case r3g39 =>
    intro w5 hb
    refine over_vals (ds := [56, 60, 61]) [(.bool true), (.agg #[.int .i32 a.1, .int .i32 a.2]), (.agg #[.int .i32 b.1, .int .i32 b.2])] (by kernel_rfl) ?_
    simp only [putAll, put_lit, List.set_cons_succ, List.set_cons_zero]
    (go_wp2_with (go_at_call 17; go_must (refine (refHull_of Hu.out).mono ?_); rintro r w6 ⟨rfl, b6⟩); all_goals (first | exact post_of (by rfl) (by rfl) (Below.refl _ _) (by rfl) | exact post_of (by rfl) (by rfl) b6 (by rfl) | (exfalso; simp_all; done)))
  case r3g40 =>
    intro w5 hb
    refine over_vals (ds := [56, 59, 62]) [(.bool true), (.agg #[.int .i32 u.1, .int .i32 u.2]), (.agg #[.int .i32 u.1, .int .i32 u.2])] (by kernel_rfl) ?_
    simp only [putAll, put_lit, List.set_cons_succ, List.set_cons_zero]
    (go_wp2; all_goals (first | exact post_of (by rfl) (by rfl) (Below.refl _ _) (by rfl) | (exfalso; simp_all; done)))
  case r3g41 =>
    intro w5 hb
    refine over_vals (ds := [56, 63]) [(.bool true), (.bool true)] (by kernel_rfl) ?_
    exact post_run (.bool true) rfl (by kernel_rfl) (by kernel_rfl) (by kernel_rfl) (by kernel_rfl) (by kernel_rfl)
  case r3g42 =>
    intro w5 hb
    refine over_vals (ds := [64]) [(.bool true)] (by kernel_rfl) ?_
    exact post_run (.bool true) rfl (by kernel_rfl) (by kernel_rfl) (by kernel_rfl) (by kernel_rfl) (by kernel_rfl)
  case r3g43 =>
    intro w5 hb
    refine over_vals (ds := [65]) [(.bool true)] (by kernel_rfl) ?_
    have hT5 := Lib.hid (HT.out.next hb)
    simp only [putAll, put_lit, List.set_cons_succ, List.set_cons_zero]
    (go_wp2_with (go_at_call 18; go_must (refine (awake_any _ hT5.out).mono ?_); rintro r w6 ⟨rfl, b6⟩); all_goals (first | exact post_of (by rfl) (by rfl) (Below.refl _ _) (by rfl) | exact post_of (by rfl) (by rfl) b6 (by rfl) | (exfalso; simp_all; done)))
  case r3g44 =>
    intro w5 hb
    refine over_vals (ds := [65, 66]) [(.bool true), (.bool true)] (by kernel_rfl) ?_
    exact post_run (.bool true) rfl (by kernel_rfl) (by kernel_rfl) (by kernel_rfl) (by kernel_rfl) (by kernel_rfl)
  case r3g45 =>
    intro w5 hb
    refine over_vals (ds := [67]) [(.bool true)] (by kernel_rfl) ?_
    exact post_run (.bool true) rfl (by kernel_rfl) (by kernel_rfl) (by kernel_rfl) (by kernel_rfl) (by kernel_rfl)

end Go.Proofs.YtofphdodihbijaaDoor
