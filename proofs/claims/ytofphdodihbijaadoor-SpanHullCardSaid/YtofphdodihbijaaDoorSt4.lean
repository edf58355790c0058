/- Layer 4: the walk of SpanHull. -/
import Derived.Test.YtofphdodihbijaaDoorSt0b
import Derived.Test.YtofphdodihbijaaDoorSte
import Derived.Deep.Cut
namespace Go.Proofs.YtofphdodihbijaaDoor
open Go.RowKit
set_option linter.unusedVariables false
set_option maxRecDepth 100000 in
set_option maxHeartbeats 8000000 in
theorem shull_none (a b c : Int × Int) (w : World) (hT : Tab w) (ia : inR a) (ib : inR b) (ic : inR c) (he : a.2 < a.1 ∧ b.2 < b.1) :
    Calls Tryd.prog 6 #[(.agg #[.int .i32 a.1, .int .i32 a.2]), (.agg #[.int .i32 b.1, .int .i32 b.2]), (.agg #[.int .i32 c.1, .int .i32 c.2])] w fun e w' => e = .returned (.bool true) ∧ Below w.heap.size w w' := by
  obtain ⟨u, Hu⟩ : ∃ uu, Hid (hullP a b = uu) := ⟨_, rfl⟩
  have Hu' : Hid (hullP b a = u) := (hullP_comm a b).trans Hu.out
  have HV1 : Hid (covB u a = true) := by unfold Hid; rw [← Hu.out]; exact hull_cov a b
  have HV2 : Hid (covB u b = true) := by unfold Hid; rw [← Hu'.out]; exact hull_cov b a
  have iu : Hid (inR u) := by unfold Hid; rw [← Hu.out]; exact inR_hull ia ib
  have HU0 : Hid (u = (0, 0)) := by unfold Hid; rw [← Hu.out]; exact hull_none he
  have Hn1 : Hid (lenP a = 0) := len_zero he.1
  have Hn2 : Hid (lenP b = 0) := len_zero he.2
  clear he
  have ia := Lib.hid ia
  have ib := Lib.hid ib
  have ic := Lib.hid ic
  have bw : Below w.heap.size w (((w.alloc (.cells #[.int .i32 a.1, .int .i32 a.2] 23)).alloc (.cells #[.int .i32 b.1, .int .i32 b.2] 23)).alloc (.cells #[.int .i32 c.1, .int .i32 c.2] 23)) := (thn (thn (below_lit w (.cells #[.int .i32 a.1, .int .i32 a.2] 23)) (below_lit _ (.cells #[.int .i32 b.1, .int .i32 b.2] 23))) (below_lit _ (.cells #[.int .i32 c.1, .int .i32 c.2] 23)))
  have Ka : Hid (Blk (((w.alloc (.cells #[.int .i32 a.1, .int .i32 a.2] 23)).alloc (.cells #[.int .i32 b.1, .int .i32 b.2] 23)).alloc (.cells #[.int .i32 c.1, .int .i32 c.2] 23)) (w.heap.size) a) := by
    have := ((Blk.lit w a.1 a.2).old (.cells #[.int .i32 b.1, .int .i32 b.2] 23)).old (.cells #[.int .i32 c.1, .int .i32 c.2] 23)
    unfold Hid
    simpa using this
  have Kb : Hid (Blk (((w.alloc (.cells #[.int .i32 a.1, .int .i32 a.2] 23)).alloc (.cells #[.int .i32 b.1, .int .i32 b.2] 23)).alloc (.cells #[.int .i32 c.1, .int .i32 c.2] 23)) (w.heap.size + 1) b) := by
    have := (Blk.lit (w.alloc (.cells #[.int .i32 a.1, .int .i32 a.2] 23)) b.1 b.2).old (.cells #[.int .i32 c.1, .int .i32 c.2] 23)
    unfold Hid
    simpa using this
  have Kc : Hid (Blk (((w.alloc (.cells #[.int .i32 a.1, .int .i32 a.2] 23)).alloc (.cells #[.int .i32 b.1, .int .i32 b.2] 23)).alloc (.cells #[.int .i32 c.1, .int .i32 c.2] 23)) (w.heap.size + 1 + 1) c) := by
    have := Blk.lit ((w.alloc (.cells #[.int .i32 a.1, .int .i32 a.2] 23)).alloc (.cells #[.int .i32 b.1, .int .i32 b.2] 23)) c.1 c.2
    unfold Hid
    simpa using this
  have HT : Hid (Tab (((w.alloc (.cells #[.int .i32 a.1, .int .i32 a.2] 23)).alloc (.cells #[.int .i32 b.1, .int .i32 b.2] 23)).alloc (.cells #[.int .i32 c.1, .int .i32 c.2] 23))) := hT.next bw
  clear hT
  go_enter Tryd.func6, Tryd.ntmps6
  go_wp2_with fail
  generalize ((w.alloc _).alloc _).alloc _ = W at *
  generalize w.heap.size + 1 + 1 = gc at Kc ⊢
  generalize w.heap.size + 1 = gb at Kb ⊢
  generalize w.heap.size = ga at Ka ⊢
  refine (hull_of HT.out ia.out ib.out Hu.out).mono ?_
  rintro e w1 ⟨rfl, b1⟩
  have B1 := thn b1 (below_lit w1 (.cells #[.int .i32 u.1, .int .i32 u.2] 23))
  have bw := bw.trans (B1.mono bw.size)
  have Ka := Lib.hid (Ka.out.next B1)
  have Kb := Lib.hid (Kb.out.next B1)
  have Kc := Lib.hid (Kc.out.next B1)
  have HT := Lib.hid (HT.out.next B1)
  have Kx : Hid (Blk (w1.alloc (.cells #[.int .i32 u.1, .int .i32 u.2] 23)) w1.heap.size u) := Blk.lit w1 u.1 u.2
  clear b1 B1
  go_upto_region 2 with fail
  generalize w1.alloc _ = W1 at *
  generalize w1.heap.size = gx at Kx ⊢
  refine wp_region_vals 27 [(11, (.agg #[.int .i32 u.1, .int .i32 u.2])), (12, (.agg #[.int .i32 b.1, .int .i32 b.2])), (13, (.agg #[.int .i32 a.1, .int .i32 a.2])), (14, (.agg #[.int .i32 u.1, .int .i32 u.2])), (15, (.bool false)), (16, (.bool false)), (17, undef), (18, undef), (19, undef), (20, undef), (21, undef), (22, undef), (23, undef), (24, undef), (25, (.bool false)), (26, (.bool false)), (27, (.agg #[.int .i32 u.1, .int .i32 u.2])), (28, (.agg #[.int .i32 a.1, .int .i32 a.2])), (29, (.bool true)), (30, (.bool false)), (31, (.bool false)), (32, (.bool false)), (33, (.agg #[.int .i32 u.1, .int .i32 u.2])), (34, (.agg #[.int .i32 b.1, .int .i32 b.2])), (35, (.bool true)), (36, (.bool false)), (37, (.bool false))]
    [[], [], [], [12, 13], [11, 14], [15], [16], [16, 17], [16, 18], [16, 19], [20], [20, 21], [20, 22], [16, 20, 23], [16, 24], [25], [26], [26], [26, 27, 28], [26, 29], [26, 30], [31], [32], [32], [32, 33, 34], [32, 35], [32, 36]] (by kernel_rfl) (by kernel_rfl) (by kernel_rfl) (by kernel_rfl) ?_ ?_
  · simp only [List.take_succ_cons, List.take_zero]
    refine ⟨?r2g0, ?r2g1, ?r2g2, ?r2g3, ?r2g4, ?r2g5, ?r2g6, ?r2g7, ?r2g8, ?r2g9, ?r2g10, ?r2g11, ?r2g12, ?r2g13, ?r2g14, ?r2g15, ?r2g16, ?r2g17, ?r2g18, ?r2g19, ?r2g20, ?r2g21, ?r2g22, ?r2g23, ?r2g24, ?r2g25, ?r2g26, trivial⟩
    case r2g0 =>
      intro w5 hb
      refine over_nil ?_
      obtain ⟨c0, c1⟩ := (Kx.out.next hb).cells
      (go_wp2; all_goals (first | exact post_of (by rfl) (by rfl) (Below.refl _ _) (by rfl) | (exfalso; simp_all; done)))
    case r2g1 =>
      intro w5 hb
      refine over_nil ?_
      obtain ⟨c0, c1⟩ := (Kb.out.next hb).cells
      (go_wp2; all_goals (first | exact post_of (by rfl) (by rfl) (Below.refl _ _) (by rfl) | (exfalso; simp_all; done)))
    case r2g2 =>
      intro w5 hb
      refine over_nil ?_
      obtain ⟨c0, c1⟩ := (Ka.out.next hb).cells
      (go_wp2; all_goals (first | exact post_of (by rfl) (by rfl) (Below.refl _ _) (by rfl) | (exfalso; simp_all; done)))
    case r2g3 =>
      intro w5 hb
      refine over_vals (ds := [12, 13]) [(.agg #[.int .i32 b.1, .int .i32 b.2]), (.agg #[.int .i32 a.1, .int .i32 a.2])] (by kernel_rfl) ?_
      have hT5 := Lib.hid (HT.out.next hb)
      simp only [putAll, put_lit, List.set_cons_succ, List.set_cons_zero]
      (go_wp2_with (go_at_call 16; go_must (refine (hull_of hT5.out ib.out ia.out Hu'.out).mono ?_); rintro r w6 ⟨rfl, b6⟩); all_goals (first | exact post_of (by rfl) (by rfl) (Below.refl _ _) (by rfl) | exact post_of (by rfl) (by rfl) b6 (by rfl) | (exfalso; simp_all; done)))
    case r2g4 =>
      intro w5 hb
      refine over_vals (ds := [11, 14]) [(.agg #[.int .i32 u.1, .int .i32 u.2]), (.agg #[.int .i32 u.1, .int .i32 u.2])] (by kernel_rfl) ?_
      simp only [putAll, put_lit, List.set_cons_succ, List.set_cons_zero]
      (go_wp2; all_goals (first | exact post_of (by rfl) (by rfl) (Below.refl _ _) (by rfl) | (exfalso; simp_all; done)))
    case r2g5 =>
      intro w5 hb
      refine over_vals (ds := [15]) [(.bool false)] (by kernel_rfl) ?_
      exact post_run (.bool false) rfl (by kernel_rfl) (by kernel_rfl) (by kernel_rfl) (by kernel_rfl) (by kernel_rfl)
    case r2g6 =>
      intro w5 hb
      refine over_vals (ds := [16]) [(.bool false)] (by kernel_rfl) ?_
      exact post_skip rfl (by kernel_rfl) (by kernel_rfl) (by kernel_rfl) (by kernel_rfl)
    case r2g7 =>
      intro w5 hb
      refine over_vals (ds := [16, 17]) [(.bool false), undef] (by kernel_rfl) ?_
      exact post_skip rfl (by kernel_rfl) (by kernel_rfl) (by kernel_rfl) (by kernel_rfl)
    case r2g8 =>
      intro w5 hb
      refine over_vals (ds := [16, 18]) [(.bool false), undef] (by kernel_rfl) ?_
      exact post_skip rfl (by kernel_rfl) (by kernel_rfl) (by kernel_rfl) (by kernel_rfl)
    case r2g9 =>
      intro w5 hb
      refine over_vals (ds := [16, 19]) [(.bool false), undef] (by kernel_rfl) ?_
      exact post_skip rfl (by kernel_rfl) (by kernel_rfl) (by kernel_rfl) (by kernel_rfl)
    case r2g10 =>
      intro w5 hb
      refine over_vals (ds := [20]) [undef] (by kernel_rfl) ?_
      exact post_skip rfl (by kernel_rfl) (by kernel_rfl) (by kernel_rfl) (by kernel_rfl)
    case r2g11 =>
      intro w5 hb
      refine over_vals (ds := [20, 21]) [undef, undef] (by kernel_rfl) ?_
      exact post_skip rfl (by kernel_rfl) (by kernel_rfl) (by kernel_rfl) (by kernel_rfl)
    case r2g12 =>
      intro w5 hb
      refine over_vals (ds := [20, 22]) [undef, undef] (by kernel_rfl) ?_
      exact post_skip rfl (by kernel_rfl) (by kernel_rfl) (by kernel_rfl) (by kernel_rfl)
    case r2g13 =>
      intro w5 hb
      refine over_vals (ds := [16, 20, 23]) [(.bool false), undef, undef] (by kernel_rfl) ?_
      exact post_skip rfl (by kernel_rfl) (by kernel_rfl) (by kernel_rfl) (by kernel_rfl)
    case r2g14 =>
      intro w5 hb
      refine over_vals (ds := [16, 24]) [(.bool false), undef] (by kernel_rfl) ?_
      exact post_run (.bool false) rfl (by kernel_rfl) (by kernel_rfl) (by kernel_rfl) (by kernel_rfl) (by kernel_rfl)
    case r2g15 =>
      intro w5 hb
      refine over_vals (ds := [25]) [(.bool false)] (by kernel_rfl) ?_
      exact post_run (.bool false) rfl (by kernel_rfl) (by kernel_rfl) (by kernel_rfl) (by kernel_rfl) (by kernel_rfl)
    case r2g16 =>
      intro w5 hb
      refine over_vals (ds := [26]) [(.bool false)] (by kernel_rfl) ?_
      obtain ⟨c0, c1⟩ := (Kx.out.next hb).cells
      simp only [putAll, put_lit, List.set_cons_succ, List.set_cons_zero]
      (go_wp2; all_goals (first | exact post_of (by rfl) (by rfl) (Below.refl _ _) (by rfl) | (exfalso; simp_all; done)))
    case r2g17 =>
      intro w5 hb
      refine over_vals (ds := [26]) [(.bool false)] (by kernel_rfl) ?_
      obtain ⟨c0, c1⟩ := (Ka.out.next hb).cells
      simp only [putAll, put_lit, List.set_cons_succ, List.set_cons_zero]
      (go_wp2; all_goals (first | exact post_of (by rfl) (by rfl) (Below.refl _ _) (by rfl) | (exfalso; simp_all; done)))
    case r2g18 =>
      intro w5 hb
      refine over_vals (ds := [26, 27, 28]) [(.bool false), (.agg #[.int .i32 u.1, .int .i32 u.2]), (.agg #[.int .i32 a.1, .int .i32 a.2])] (by kernel_rfl) ?_
      have hT5 := Lib.hid (HT.out.next hb)
      simp only [putAll, put_lit, List.set_cons_succ, List.set_cons_zero]
      (go_wp2_with (go_at_call 14; go_must (refine (covers_of hT5.out iu.out ia.out HV1.out).mono ?_); rintro r w6 ⟨rfl, b6⟩); all_goals (first | exact post_of (by rfl) (by rfl) (Below.refl _ _) (by rfl) | exact post_of (by rfl) (by rfl) b6 (by rfl) | (exfalso; simp_all; done)))
    case r2g19 =>
      intro w5 hb
      refine over_vals (ds := [26, 29]) [(.bool false), (.bool true)] (by kernel_rfl) ?_
      exact post_run (.bool false) rfl (by kernel_rfl) (by kernel_rfl) (by kernel_rfl) (by kernel_rfl) (by kernel_rfl)
    case r2g20 =>
      intro w5 hb
      refine over_vals (ds := [26, 30]) [(.bool false), (.bool false)] (by kernel_rfl) ?_
      exact post_run (.bool false) rfl (by kernel_rfl) (by kernel_rfl) (by kernel_rfl) (by kernel_rfl) (by kernel_rfl)
    case r2g21 =>
      intro w5 hb
      refine over_vals (ds := [31]) [(.bool false)] (by kernel_rfl) ?_
      exact post_run (.bool false) rfl (by kernel_rfl) (by kernel_rfl) (by kernel_rfl) (by kernel_rfl) (by kernel_rfl)
    case r2g22 =>
      intro w5 hb
      refine over_vals (ds := [32]) [(.bool false)] (by kernel_rfl) ?_
      obtain ⟨c0, c1⟩ := (Kx.out.next hb).cells
      simp only [putAll, put_lit, List.set_cons_succ, List.set_cons_zero]
      (go_wp2; all_goals (first | exact post_of (by rfl) (by rfl) (Below.refl _ _) (by rfl) | (exfalso; simp_all; done)))
    case r2g23 =>
      intro w5 hb
      refine over_vals (ds := [32]) [(.bool false)] (by kernel_rfl) ?_
      obtain ⟨c0, c1⟩ := (Kb.out.next hb).cells
      simp only [putAll, put_lit, List.set_cons_succ, List.set_cons_zero]
      (go_wp2; all_goals (first | exact post_of (by rfl) (by rfl) (Below.refl _ _) (by rfl) | (exfalso; simp_all; done)))
    case r2g24 =>
      intro w5 hb
      refine over_vals (ds := [32, 33, 34]) [(.bool false), (.agg #[.int .i32 u.1, .int .i32 u.2]), (.agg #[.int .i32 b.1, .int .i32 b.2])] (by kernel_rfl) ?_
      have hT5 := Lib.hid (HT.out.next hb)
      simp only [putAll, put_lit, List.set_cons_succ, List.set_cons_zero]
      (go_wp2_with (go_at_call 14; go_must (refine (covers_of hT5.out iu.out ib.out HV2.out).mono ?_); rintro r w6 ⟨rfl, b6⟩); all_goals (first | exact post_of (by rfl) (by rfl) (Below.refl _ _) (by rfl) | exact post_of (by rfl) (by rfl) b6 (by rfl) | (exfalso; simp_all; done)))
    case r2g25 =>
      intro w5 hb
      refine over_vals (ds := [32, 35]) [(.bool false), (.bool true)] (by kernel_rfl) ?_
      exact post_run (.bool false) rfl (by kernel_rfl) (by kernel_rfl) (by kernel_rfl) (by kernel_rfl) (by kernel_rfl)
    case r2g26 =>
      intro w5 hb
      refine over_vals (ds := [32, 36]) [(.bool false), (.bool false)] (by kernel_rfl) ?_
      exact post_run (.bool false) rfl (by kernel_rfl) (by kernel_rfl) (by kernel_rfl) (by kernel_rfl) (by kernel_rfl)
  intro w2 b1
  simp only [List.drop_succ_cons, List.drop_zero]
  simp only [List.map_cons, List.map_nil, putAll, put_lit, List.set_cons_succ, List.set_cons_zero]
  have bw := bw.trans (b1.mono bw.size)
  have Ka := Lib.hid (Ka.out.next b1)
  have Kb := Lib.hid (Kb.out.next b1)
  have Kc := Lib.hid (Kc.out.next b1)
  have Kx := Lib.hid (Kx.out.next b1)
  have HT := Lib.hid (HT.out.next b1)
  clear b1
  obtain rfl : u = (0, 0) := HU0.out
  clear HU0
  go_upto_region 4 with fail
  obtain ⟨c0, c1⟩ := Ka.out.cells
  obtain ⟨c2, c3⟩ := Kb.out.cells
  go_wp2_with fail
  clear c0 c1 c2 c3
  refine (len_of HT.out ia.out Hn1.out).mono ?_
  rintro e w3 ⟨rfl, b1⟩
  have bw := bw.trans (b1.mono bw.size)
  have Ka := Lib.hid (Ka.out.next b1)
  have Kb := Lib.hid (Kb.out.next b1)
  have Kc := Lib.hid (Kc.out.next b1)
  have Kx := Lib.hid (Kx.out.next b1)
  have HT := Lib.hid (HT.out.next b1)
  clear b1
  obtain ⟨c0, c1⟩ := Ka.out.cells
  obtain ⟨c2, c3⟩ := Kb.out.cells
  obtain ⟨c4, c5⟩ := Kx.out.cells
  go_wp2_with fail
  clear c0 c1 c2 c3 c4 c5
  refine (len_of HT.out ib.out Hn2.out).mono ?_
  rintro e w4 ⟨rfl, b1⟩
  have bw := bw.trans (b1.mono bw.size)
  have Ka := Lib.hid (Ka.out.next b1)
  have Kb := Lib.hid (Kb.out.next b1)
  have Kc := Lib.hid (Kc.out.next b1)
  have Kx := Lib.hid (Kx.out.next b1)
  have HT := Lib.hid (HT.out.next b1)
  clear b1
  obtain ⟨c0, c1⟩ := Ka.out.cells
  obtain ⟨c2, c3⟩ := Kb.out.cells
  obtain ⟨c4, c5⟩ := Kx.out.cells
  go_wp2_with fail
  clear c0 c1 c2 c3 c4 c5
  refine (awake_any _ HT.out).mono ?_
  rintro e w5 ⟨rfl, b1⟩
  go_wp2
  go_ret
  exact ⟨rfl, thn bw b1⟩
set_option maxRecDepth 100000 in
set_option maxHeartbeats 8000000 in
theorem shull_some (a b c : Int × Int) (w : World) (hT : Tab w) (ia : inR a) (ib : inR b) (ic : inR c) (he : ¬ (a.2 < a.1 ∧ b.2 < b.1)) :
    Calls Tryd.prog 6 #[(.agg #[.int .i32 a.1, .int .i32 a.2]), (.agg #[.int .i32 b.1, .int .i32 b.2]), (.agg #[.int .i32 c.1, .int .i32 c.2])] w fun e w' => e = .returned (.bool true) ∧ Below w.heap.size w w' := by
  obtain ⟨u, Hu⟩ : ∃ uu, Hid (hullP a b = uu) := ⟨_, rfl⟩
  have Hu' : Hid (hullP b a = u) := (hullP_comm a b).trans Hu.out
  have HV1 : Hid (covB u a = true) := by unfold Hid; rw [← Hu.out]; exact hull_cov a b
  have HV2 : Hid (covB u b = true) := by unfold Hid; rw [← Hu'.out]; exact hull_cov b a
  have iu : Hid (inR u) := by unfold Hid; rw [← Hu.out]; exact inR_hull ia ib
  obtain ⟨n1, Hn1⟩ : ∃ uu, Hid (lenP a = uu) := ⟨_, rfl⟩
  obtain ⟨n2, Hn2⟩ : ∃ uu, Hid (lenP b = uu) := ⟨_, rfl⟩
  obtain ⟨z1, Hz1⟩ : ∃ uu, Hid (decide (n1 = (0 : Int)) = uu) := ⟨_, rfl⟩
  obtain ⟨z2, Hz2⟩ : ∃ uu, Hid (decide (n2 = (0 : Int)) = uu) := ⟨_, rfl⟩
  obtain ⟨y1, Hy1⟩ : ∃ uu, Hid (covB c a = uu) := ⟨_, rfl⟩
  obtain ⟨y2, Hy2⟩ : ∃ uu, Hid (covB c b = uu) := ⟨_, rfl⟩
  obtain ⟨d, HD2⟩ : ∃ uu, Hid ((y1 && y2) = uu) := ⟨_, rfl⟩
  obtain ⟨k1, Hk1⟩ : ∃ uu, Hid (decide (u.1 = a.1) = uu) := ⟨_, rfl⟩
  obtain ⟨k2, Hk2⟩ : ∃ uu, Hid (decide (u.1 = b.1) = uu) := ⟨_, rfl⟩
  obtain ⟨k3, Hk3⟩ : ∃ uu, Hid (decide (u.2 = a.2) = uu) := ⟨_, rfl⟩
  obtain ⟨k4, Hk4⟩ : ∃ uu, Hid (decide (u.2 = b.2) = uu) := ⟨_, rfl⟩
  have HD1 : Hid ((z1 && z2) = false) := by
    unfold Hid
    rw [← Bool.not_eq_true, ← Hz1.out, ← Hz2.out, ← Hn1.out, ← Hn2.out]
    simp only [Bool.and_eq_true, decide_eq_true_eq, len_zero_iff]
    exact he
  have HC : Hid (d = true → covB c u = true) := by
    unfold Hid
    intro hd
    rw [← HD2.out, Bool.and_eq_true, ← Hy1.out, ← Hy2.out] at hd
    rw [← Hu.out]
    exact hull_cov_of hd.1 hd.2 he
  have HD3 : Hid ((k1 || k2) = true) := by
    unfold Hid
    rw [Bool.or_eq_true, ← Hk1.out, ← Hk2.out, decide_eq_true_eq, decide_eq_true_eq, ← Hu.out]
    exact hull_from a b he
  have HD4 : Hid ((k3 || k4) = true) := by
    unfold Hid
    rw [Bool.or_eq_true, ← Hk3.out, ← Hk4.out, decide_eq_true_eq, decide_eq_true_eq, ← Hu.out]
    exact hull_to a b he
  clear he
  have ia := Lib.hid ia
  have ib := Lib.hid ib
  have ic := Lib.hid ic
  have bw : Below w.heap.size w (((w.alloc (.cells #[.int .i32 a.1, .int .i32 a.2] 23)).alloc (.cells #[.int .i32 b.1, .int .i32 b.2] 23)).alloc (.cells #[.int .i32 c.1, .int .i32 c.2] 23)) := (thn (thn (below_lit w (.cells #[.int .i32 a.1, .int .i32 a.2] 23)) (below_lit _ (.cells #[.int .i32 b.1, .int .i32 b.2] 23))) (below_lit _ (.cells #[.int .i32 c.1, .int .i32 c.2] 23)))
  have Ka : Hid (Blk (((w.alloc (.cells #[.int .i32 a.1, .int .i32 a.2] 23)).alloc (.cells #[.int .i32 b.1, .int .i32 b.2] 23)).alloc (.cells #[.int .i32 c.1, .int .i32 c.2] 23)) (w.heap.size) a) := by
    have := ((Blk.lit w a.1 a.2).old (.cells #[.int .i32 b.1, .int .i32 b.2] 23)).old (.cells #[.int .i32 c.1, .int .i32 c.2] 23)
    unfold Hid
    simpa using this
  have Kb : Hid (Blk (((w.alloc (.cells #[.int .i32 a.1, .int .i32 a.2] 23)).alloc (.cells #[.int .i32 b.1, .int .i32 b.2] 23)).alloc (.cells #[.int .i32 c.1, .int .i32 c.2] 23)) (w.heap.size + 1) b) := by
    have := (Blk.lit (w.alloc (.cells #[.int .i32 a.1, .int .i32 a.2] 23)) b.1 b.2).old (.cells #[.int .i32 c.1, .int .i32 c.2] 23)
    unfold Hid
    simpa using this
  have Kc : Hid (Blk (((w.alloc (.cells #[.int .i32 a.1, .int .i32 a.2] 23)).alloc (.cells #[.int .i32 b.1, .int .i32 b.2] 23)).alloc (.cells #[.int .i32 c.1, .int .i32 c.2] 23)) (w.heap.size + 1 + 1) c) := by
    have := Blk.lit ((w.alloc (.cells #[.int .i32 a.1, .int .i32 a.2] 23)).alloc (.cells #[.int .i32 b.1, .int .i32 b.2] 23)) c.1 c.2
    unfold Hid
    simpa using this
  have HT : Hid (Tab (((w.alloc (.cells #[.int .i32 a.1, .int .i32 a.2] 23)).alloc (.cells #[.int .i32 b.1, .int .i32 b.2] 23)).alloc (.cells #[.int .i32 c.1, .int .i32 c.2] 23))) := hT.next bw
  clear hT
  go_enter Tryd.func6, Tryd.ntmps6
  go_wp2_with fail
  generalize ((w.alloc _).alloc _).alloc _ = W at *
  generalize w.heap.size + 1 + 1 = gc at Kc ⊢
  generalize w.heap.size + 1 = gb at Kb ⊢
  generalize w.heap.size = ga at Ka ⊢
  refine (hull_of HT.out ia.out ib.out Hu.out).mono ?_
  rintro e w1 ⟨rfl, b1⟩
  have B1 := thn b1 (below_lit w1 (.cells #[.int .i32 u.1, .int .i32 u.2] 23))
  have bw := bw.trans (B1.mono bw.size)
  have Ka := Lib.hid (Ka.out.next B1)
  have Kb := Lib.hid (Kb.out.next B1)
  have Kc := Lib.hid (Kc.out.next B1)
  have HT := Lib.hid (HT.out.next B1)
  have Kx : Hid (Blk (w1.alloc (.cells #[.int .i32 u.1, .int .i32 u.2] 23)) w1.heap.size u) := Blk.lit w1 u.1 u.2
  clear b1 B1
  go_upto_region 2 with fail
  generalize w1.alloc _ = W1 at *
  generalize w1.heap.size = gx at Kx ⊢
  refine wp_region_vals 27 [(11, (.agg #[.int .i32 u.1, .int .i32 u.2])), (12, (.agg #[.int .i32 b.1, .int .i32 b.2])), (13, (.agg #[.int .i32 a.1, .int .i32 a.2])), (14, (.agg #[.int .i32 u.1, .int .i32 u.2])), (15, (.bool false)), (16, (.bool false)), (17, undef), (18, undef), (19, undef), (20, undef), (21, undef), (22, undef), (23, undef), (24, undef), (25, (.bool false)), (26, (.bool false)), (27, (.agg #[.int .i32 u.1, .int .i32 u.2])), (28, (.agg #[.int .i32 a.1, .int .i32 a.2])), (29, (.bool true)), (30, (.bool false)), (31, (.bool false)), (32, (.bool false)), (33, (.agg #[.int .i32 u.1, .int .i32 u.2])), (34, (.agg #[.int .i32 b.1, .int .i32 b.2])), (35, (.bool true)), (36, (.bool false)), (37, (.bool false))]
    [[], [], [], [12, 13], [11, 14], [15], [16], [16, 17], [16, 18], [16, 19], [20], [20, 21], [20, 22], [16, 20, 23], [16, 24], [25], [26], [26], [26, 27, 28], [26, 29], [26, 30], [31], [32], [32], [32, 33, 34], [32, 35], [32, 36]] (by kernel_rfl) (by kernel_rfl) (by kernel_rfl) (by kernel_rfl) ?_ ?_
  · simp only [List.take_succ_cons, List.take_zero]
    refine ⟨?r2g0, ?r2g1, ?r2g2, ?r2g3, ?r2g4, ?r2g5, ?r2g6, ?r2g7, ?r2g8, ?r2g9, ?r2g10, ?r2g11, ?r2g12, ?r2g13, ?r2g14, ?r2g15, ?r2g16, ?r2g17, ?r2g18, ?r2g19, ?r2g20, ?r2g21, ?r2g22, ?r2g23, ?r2g24, ?r2g25, ?r2g26, trivial⟩
    case r2g0 =>
      intro w5 hb
      refine over_nil ?_
      obtain ⟨c0, c1⟩ := (Kx.out.next hb).cells
      (go_wp2; all_goals (first | exact post_of (by rfl) (by rfl) (Below.refl _ _) (by rfl) | (exfalso; simp_all; done)))
    case r2g1 =>
      intro w5 hb
      refine over_nil ?_
      obtain ⟨c0, c1⟩ := (Kb.out.next hb).cells
      (go_wp2; all_goals (first | exact post_of (by rfl) (by rfl) (Below.refl _ _) (by rfl) | (exfalso; simp_all; done)))
    case r2g2 =>
      intro w5 hb
      refine over_nil ?_
      obtain ⟨c0, c1⟩ := (Ka.out.next hb).cells
      (go_wp2; all_goals (first | exact post_of (by rfl) (by rfl) (Below.refl _ _) (by rfl) | (exfalso; simp_all; done)))
    case r2g3 =>
      intro w5 hb
      refine over_vals (ds := [12, 13]) [(.agg #[.int .i32 b.1, .int .i32 b.2]), (.agg #[.int .i32 a.1, .int .i32 a.2])] (by kernel_rfl) ?_
      have hT5 := Lib.hid (HT.out.next hb)
      simp only [putAll, put_lit, List.set_cons_succ, List.set_cons_zero]
      (go_wp2_with (go_at_call 16; go_must (refine (hull_of hT5.out ib.out ia.out Hu'.out).mono ?_); rintro r w6 ⟨rfl, b6⟩); all_goals (first | exact post_of (by rfl) (by rfl) (Below.refl _ _) (by rfl) | exact post_of (by rfl) (by rfl) b6 (by rfl) | (exfalso; simp_all; done)))
    case r2g4 =>
      intro w5 hb
      refine over_vals (ds := [11, 14]) [(.agg #[.int .i32 u.1, .int .i32 u.2]), (.agg #[.int .i32 u.1, .int .i32 u.2])] (by kernel_rfl) ?_
      simp only [putAll, put_lit, List.set_cons_succ, List.set_cons_zero]
      (go_wp2; all_goals (first | exact post_of (by rfl) (by rfl) (Below.refl _ _) (by rfl) | (exfalso; simp_all; done)))
    case r2g5 =>
      intro w5 hb
      refine over_vals (ds := [15]) [(.bool false)] (by kernel_rfl) ?_
      exact post_run (.bool false) rfl (by kernel_rfl) (by kernel_rfl) (by kernel_rfl) (by kernel_rfl) (by kernel_rfl)
    case r2g6 =>
      intro w5 hb
      refine over_vals (ds := [16]) [(.bool false)] (by kernel_rfl) ?_
      exact post_skip rfl (by kernel_rfl) (by kernel_rfl) (by kernel_rfl) (by kernel_rfl)
    case r2g7 =>
      intro w5 hb
      refine over_vals (ds := [16, 17]) [(.bool false), undef] (by kernel_rfl) ?_
      exact post_skip rfl (by kernel_rfl) (by kernel_rfl) (by kernel_rfl) (by kernel_rfl)
    case r2g8 =>
      intro w5 hb
      refine over_vals (ds := [16, 18]) [(.bool false), undef] (by kernel_rfl) ?_
      exact post_skip rfl (by kernel_rfl) (by kernel_rfl) (by kernel_rfl) (by kernel_rfl)
    case r2g9 =>
      intro w5 hb
      refine over_vals (ds := [16, 19]) [(.bool false), undef] (by kernel_rfl) ?_
      exact post_skip rfl (by kernel_rfl) (by kernel_rfl) (by kernel_rfl) (by kernel_rfl)
    case r2g10 =>
      intro w5 hb
      refine over_vals (ds := [20]) [undef] (by kernel_rfl) ?_
      exact post_skip rfl (by kernel_rfl) (by kernel_rfl) (by kernel_rfl) (by kernel_rfl)
    case r2g11 =>
      intro w5 hb
      refine over_vals (ds := [20, 21]) [undef, undef] (by kernel_rfl) ?_
      exact post_skip rfl (by kernel_rfl) (by kernel_rfl) (by kernel_rfl) (by kernel_rfl)
    case r2g12 =>
      intro w5 hb
      refine over_vals (ds := [20, 22]) [undef, undef] (by kernel_rfl) ?_
      exact post_skip rfl (by kernel_rfl) (by kernel_rfl) (by kernel_rfl) (by kernel_rfl)
    case r2g13 =>
      intro w5 hb
      refine over_vals (ds := [16, 20, 23]) [(.bool false), undef, undef] (by kernel_rfl) ?_
      exact post_skip rfl (by kernel_rfl) (by kernel_rfl) (by kernel_rfl) (by kernel_rfl)
    case r2g14 =>
      intro w5 hb
      refine over_vals (ds := [16, 24]) [(.bool false), undef] (by kernel_rfl) ?_
      exact post_run (.bool false) rfl (by kernel_rfl) (by kernel_rfl) (by kernel_rfl) (by kernel_rfl) (by kernel_rfl)
    case r2g15 =>
      intro w5 hb
      refine over_vals (ds := [25]) [(.bool false)] (by kernel_rfl) ?_
      exact post_run (.bool false) rfl (by kernel_rfl) (by kernel_rfl) (by kernel_rfl) (by kernel_rfl) (by kernel_rfl)
    case r2g16 =>
      intro w5 hb
      refine over_vals (ds := [26]) [(.bool false)] (by kernel_rfl) ?_
      obtain ⟨c0, c1⟩ := (Kx.out.next hb).cells
      simp only [putAll, put_lit, List.set_cons_succ, List.set_cons_zero]
      (go_wp2; all_goals (first | exact post_of (by rfl) (by rfl) (Below.refl _ _) (by rfl) | (exfalso; simp_all; done)))
    case r2g17 =>
      intro w5 hb
      refine over_vals (ds := [26]) [(.bool false)] (by kernel_rfl) ?_
      obtain ⟨c0, c1⟩ := (Ka.out.next hb).cells
      simp only [putAll, put_lit, List.set_cons_succ, List.set_cons_zero]
      (go_wp2; all_goals (first | exact post_of (by rfl) (by rfl) (Below.refl _ _) (by rfl) | (exfalso; simp_all; done)))
    case r2g18 =>
      intro w5 hb
      refine over_vals (ds := [26, 27, 28]) [(.bool false), (.agg #[.int .i32 u.1, .int .i32 u.2]), (.agg #[.int .i32 a.1, .int .i32 a.2])] (by kernel_rfl) ?_
      have hT5 := Lib.hid (HT.out.next hb)
      simp only [putAll, put_lit, List.set_cons_succ, List.set_cons_zero]
      (go_wp2_with (go_at_call 14; go_must (refine (covers_of hT5.out iu.out ia.out HV1.out).mono ?_); rintro r w6 ⟨rfl, b6⟩); all_goals (first | exact post_of (by rfl) (by rfl) (Below.refl _ _) (by rfl) | exact post_of (by rfl) (by rfl) b6 (by rfl) | (exfalso; simp_all; done)))
    case r2g19 =>
      intro w5 hb
      refine over_vals (ds := [26, 29]) [(.bool false), (.bool true)] (by kernel_rfl) ?_
      exact post_run (.bool false) rfl (by kernel_rfl) (by kernel_rfl) (by kernel_rfl) (by kernel_rfl) (by kernel_rfl)
    case r2g20 =>
      intro w5 hb
      refine over_vals (ds := [26, 30]) [(.bool false), (.bool false)] (by kernel_rfl) ?_
      exact post_run (.bool false) rfl (by kernel_rfl) (by kernel_rfl) (by kernel_rfl) (by kernel_rfl) (by kernel_rfl)
    case r2g21 =>
      intro w5 hb
      refine over_vals (ds := [31]) [(.bool false)] (by kernel_rfl) ?_
      exact post_run (.bool false) rfl (by kernel_rfl) (by kernel_rfl) (by kernel_rfl) (by kernel_rfl) (by kernel_rfl)
    case r2g22 =>
      intro w5 hb
      refine over_vals (ds := [32]) [(.bool false)] (by kernel_rfl) ?_
      obtain ⟨c0, c1⟩ := (Kx.out.next hb).cells
      simp only [putAll, put_lit, List.set_cons_succ, List.set_cons_zero]
      (go_wp2; all_goals (first | exact post_of (by rfl) (by rfl) (Below.refl _ _) (by rfl) | (exfalso; simp_all; done)))
    case r2g23 =>
      intro w5 hb
      refine over_vals (ds := [32]) [(.bool false)] (by kernel_rfl) ?_
      obtain ⟨c0, c1⟩ := (Kb.out.next hb).cells
      simp only [putAll, put_lit, List.set_cons_succ, List.set_cons_zero]
      (go_wp2; all_goals (first | exact post_of (by rfl) (by rfl) (Below.refl _ _) (by rfl) | (exfalso; simp_all; done)))
    case r2g24 =>
      intro w5 hb
      refine over_vals (ds := [32, 33, 34]) [(.bool false), (.agg #[.int .i32 u.1, .int .i32 u.2]), (.agg #[.int .i32 b.1, .int .i32 b.2])] (by kernel_rfl) ?_
      have hT5 := Lib.hid (HT.out.next hb)
      simp only [putAll, put_lit, List.set_cons_succ, List.set_cons_zero]
      (go_wp2_with (go_at_call 14; go_must (refine (covers_of hT5.out iu.out ib.out HV2.out).mono ?_); rintro r w6 ⟨rfl, b6⟩); all_goals (first | exact post_of (by rfl) (by rfl) (Below.refl _ _) (by rfl) | exact post_of (by rfl) (by rfl) b6 (by rfl) | (exfalso; simp_all; done)))
    case r2g25 =>
      intro w5 hb
      refine over_vals (ds := [32, 35]) [(.bool false), (.bool true)] (by kernel_rfl) ?_
      exact post_run (.bool false) rfl (by kernel_rfl) (by kernel_rfl) (by kernel_rfl) (by kernel_rfl) (by kernel_rfl)
    case r2g26 =>
      intro w5 hb
      refine over_vals (ds := [32, 36]) [(.bool false), (.bool false)] (by kernel_rfl) ?_
      exact post_run (.bool false) rfl (by kernel_rfl) (by kernel_rfl) (by kernel_rfl) (by kernel_rfl) (by kernel_rfl)
  intro w2 b1
  simp only [List.drop_succ_cons, List.drop_zero]
  simp only [List.map_cons, List.map_nil, putAll, put_lit, List.set_cons_succ, List.set_cons_zero]
  have bw := bw.trans (b1.mono bw.size)
  have Ka := Lib.hid (Ka.out.next b1)
  have Kb := Lib.hid (Kb.out.next b1)
  have Kc := Lib.hid (Kc.out.next b1)
  have Kx := Lib.hid (Kx.out.next b1)
  have HT := Lib.hid (HT.out.next b1)
  clear b1
  go_upto_region 4 with fail
  refine wp_row_vals 8 [(38, (.agg #[.int .i32 a.1, .int .i32 a.2])), (39, (.int .u32 n1)), (40, (.bool z1)), (41, (.bool z1)), (42, (cond z1 (.agg #[.int .i32 b.1, .int .i32 b.2]) undef)), (43, (cond z1 (.int .u32 n2) undef)), (44, (cond z1 (.bool z2) undef)), (45, (.bool false))]
    [[], [38], [39], [40], [41], [41, 42], [41, 43], [41, 44]] (by kernel_rfl) (by kernel_rfl) (by kernel_rfl) ?_ ?_
  · simp only [List.take_succ_cons, List.take_zero]
    refine ⟨?r4g0, ?r4g1, ?r4g2, ?r4g3, ?r4g4, ?r4g5, ?r4g6, ?r4g7, trivial⟩
    case r4g0 =>
      intro w5 hb
      refine over_nil ?_
      obtain ⟨c0, c1⟩ := (Ka.out.next hb).cells
      (go_wp2; all_goals (first | exact post_of (by rfl) (by rfl) (Below.refl _ _) (by rfl) | (exfalso; simp_all; done)))
    case r4g1 =>
      intro w5 hb
      refine over_vals (ds := [38]) [(.agg #[.int .i32 a.1, .int .i32 a.2])] (by kernel_rfl) ?_
      have hT5 := Lib.hid (HT.out.next hb)
      simp only [putAll, put_lit, List.set_cons_succ, List.set_cons_zero]
      (go_wp2_with (go_at_call 12; go_must (refine (len_of hT5.out ia.out Hn1.out).mono ?_); rintro r w6 ⟨rfl, b6⟩); all_goals (first | exact post_of (by rfl) (by rfl) (Below.refl _ _) (by rfl) | exact post_of (by rfl) (by rfl) b6 (by rfl) | (exfalso; simp_all; done)))
    case r4g2 =>
      intro w5 hb
      refine over_vals (ds := [39]) [(.int .u32 n1)] (by kernel_rfl) ?_
      simp only [putAll, put_lit, List.set_cons_succ, List.set_cons_zero]
      cases z1
      · dsimp only [cond]
        ((have hl := beq_of Hz1.out); go_wp2; all_goals (first | exact post_of (by rfl) (by rfl) (Below.refl _ _) (by rfl) | (exfalso; simp_all; done)))
      · dsimp only [cond]
        ((have hl := beq_of Hz1.out); go_wp2; all_goals (first | exact post_of (by rfl) (by rfl) (Below.refl _ _) (by rfl) | (exfalso; simp_all; done)))
    case r4g3 =>
      intro w5 hb
      refine over_vals (ds := [40]) [(.bool z1)] (by kernel_rfl) ?_
      exact post_run (.bool z1) rfl (by kernel_rfl) (by kernel_rfl) (by kernel_rfl) (by kernel_rfl) (by kernel_rfl)
    case r4g4 =>
      intro w5 hb
      refine over_vals (ds := [41]) [(.bool z1)] (by kernel_rfl) ?_
      obtain ⟨c0, c1⟩ := (Kb.out.next hb).cells
      simp only [putAll, put_lit, List.set_cons_succ, List.set_cons_zero]
      cases z1
      · exact post_skip rfl (by kernel_rfl) (by kernel_rfl) (by kernel_rfl) (by kernel_rfl)
      · dsimp only [cond]
        (go_wp2; all_goals (first | exact post_of (by rfl) (by rfl) (Below.refl _ _) (by rfl) | (exfalso; simp_all; done)))
    case r4g5 =>
      intro w5 hb
      refine over_vals (ds := [41, 42]) [(.bool z1), (cond z1 (.agg #[.int .i32 b.1, .int .i32 b.2]) undef)] (by kernel_rfl) ?_
      have hT5 := Lib.hid (HT.out.next hb)
      simp only [putAll, put_lit, List.set_cons_succ, List.set_cons_zero]
      cases z1
      · exact post_skip rfl (by kernel_rfl) (by kernel_rfl) (by kernel_rfl) (by kernel_rfl)
      · dsimp only [cond]
        (go_wp2_with (go_at_call 12; go_must (refine (len_of hT5.out ib.out Hn2.out).mono ?_); rintro r w6 ⟨rfl, b6⟩); all_goals (first | exact post_of (by rfl) (by rfl) (Below.refl _ _) (by rfl) | exact post_of (by rfl) (by rfl) b6 (by rfl) | (exfalso; simp_all; done)))
    case r4g6 =>
      intro w5 hb
      refine over_vals (ds := [41, 43]) [(.bool z1), (cond z1 (.int .u32 n2) undef)] (by kernel_rfl) ?_
      simp only [putAll, put_lit, List.set_cons_succ, List.set_cons_zero]
      cases z1 <;> cases z2
      · exact post_skip rfl (by kernel_rfl) (by kernel_rfl) (by kernel_rfl) (by kernel_rfl)
      · exact post_skip rfl (by kernel_rfl) (by kernel_rfl) (by kernel_rfl) (by kernel_rfl)
      · dsimp only [cond]
        ((have hl := beq_of Hz2.out); go_wp2; all_goals (first | exact post_of (by rfl) (by rfl) (Below.refl _ _) (by rfl) | (exfalso; simp_all; done)))
      · dsimp only [cond]
        ((have hl := beq_of Hz2.out); go_wp2; all_goals (first | exact post_of (by rfl) (by rfl) (Below.refl _ _) (by rfl) | (exfalso; simp_all; done)))
    case r4g7 =>
      intro w5 hb
      refine over_vals (ds := [41, 44]) [(.bool z1), (cond z1 (.bool z2) undef)] (by kernel_rfl) ?_
      cases z1 <;> cases z2
      · exact post_run (.bool false) rfl (by kernel_rfl) (by kernel_rfl) (by kernel_rfl) (by kernel_rfl) (by kernel_rfl)
      · exact post_run (.bool false) rfl (by kernel_rfl) (by kernel_rfl) (by kernel_rfl) (by kernel_rfl) (by kernel_rfl)
      · exact post_run (.bool false) rfl (by kernel_rfl) (by kernel_rfl) (by kernel_rfl) (by kernel_rfl) (by kernel_rfl)
      · exact absurd HD1.out (by decide)
  intro w3 b1
  simp only [List.drop_succ_cons, List.drop_zero]
  simp only [List.map_cons, List.map_nil, putAll, put_lit, List.set_cons_succ, List.set_cons_zero]
  have bw := bw.trans (b1.mono bw.size)
  have Ka := Lib.hid (Ka.out.next b1)
  have Kb := Lib.hid (Kb.out.next b1)
  have Kc := Lib.hid (Kc.out.next b1)
  have Kx := Lib.hid (Kx.out.next b1)
  have HT := Lib.hid (HT.out.next b1)
  clear b1
  go_upto_region 6 with fail
  refine wp_row_vals 14 [(52, (.agg #[.int .i32 c.1, .int .i32 c.2])), (53, (.agg #[.int .i32 a.1, .int .i32 a.2])), (54, (.bool y1)), (55, (.bool y1)), (56, (cond y1 (.agg #[.int .i32 c.1, .int .i32 c.2]) undef)), (57, (cond y1 (.agg #[.int .i32 b.1, .int .i32 b.2]) undef)), (58, (cond y1 (.bool y2) undef)), (59, (.bool d)), (60, (.bool d)), (61, (cond d (.agg #[.int .i32 c.1, .int .i32 c.2]) undef)), (62, (cond d (.agg #[.int .i32 u.1, .int .i32 u.2]) undef)), (63, (cond d (.bool true) undef)), (64, (cond d (.bool false) undef)), (65, (.bool false))]
    [[], [], [52, 53], [54], [55], [55], [55, 56, 57], [55, 58], [59], [60], [60], [60, 61, 62], [60, 63], [60, 64]] (by kernel_rfl) (by kernel_rfl) (by kernel_rfl) ?_ ?_
  · simp only [List.take_succ_cons, List.take_zero]
    refine ⟨?r6g0, ?r6g1, ?r6g2, ?r6g3, ?r6g4, ?r6g5, ?r6g6, ?r6g7, ?r6g8, ?r6g9, ?r6g10, ?r6g11, ?r6g12, ?r6g13, trivial⟩
    case r6g0 =>
      intro w5 hb
      refine over_nil ?_
      obtain ⟨c0, c1⟩ := (Kc.out.next hb).cells
      (go_wp2; all_goals (first | exact post_of (by rfl) (by rfl) (Below.refl _ _) (by rfl) | (exfalso; simp_all; done)))
    case r6g1 =>
      intro w5 hb
      refine over_nil ?_
      obtain ⟨c0, c1⟩ := (Ka.out.next hb).cells
      (go_wp2; all_goals (first | exact post_of (by rfl) (by rfl) (Below.refl _ _) (by rfl) | (exfalso; simp_all; done)))
    case r6g2 =>
      intro w5 hb
      refine over_vals (ds := [52, 53]) [(.agg #[.int .i32 c.1, .int .i32 c.2]), (.agg #[.int .i32 a.1, .int .i32 a.2])] (by kernel_rfl) ?_
      have hT5 := Lib.hid (HT.out.next hb)
      simp only [putAll, put_lit, List.set_cons_succ, List.set_cons_zero]
      (go_wp2_with (go_at_call 14; go_must (refine (covers_of hT5.out ic.out ia.out Hy1.out).mono ?_); rintro r w6 ⟨rfl, b6⟩); all_goals (first | exact post_of (by rfl) (by rfl) (Below.refl _ _) (by rfl) | exact post_of (by rfl) (by rfl) b6 (by rfl) | (exfalso; simp_all; done)))
    case r6g3 =>
      intro w5 hb
      refine over_vals (ds := [54]) [(.bool y1)] (by kernel_rfl) ?_
      exact post_run (.bool y1) rfl (by kernel_rfl) (by kernel_rfl) (by kernel_rfl) (by kernel_rfl) (by kernel_rfl)
    case r6g4 =>
      intro w5 hb
      refine over_vals (ds := [55]) [(.bool y1)] (by kernel_rfl) ?_
      obtain ⟨c0, c1⟩ := (Kc.out.next hb).cells
      simp only [putAll, put_lit, List.set_cons_succ, List.set_cons_zero]
      cases y1
      · exact post_skip rfl (by kernel_rfl) (by kernel_rfl) (by kernel_rfl) (by kernel_rfl)
      · dsimp only [cond]
        (go_wp2; all_goals (first | exact post_of (by rfl) (by rfl) (Below.refl _ _) (by rfl) | (exfalso; simp_all; done)))
    case r6g5 =>
      intro w5 hb
      refine over_vals (ds := [55]) [(.bool y1)] (by kernel_rfl) ?_
      obtain ⟨c0, c1⟩ := (Kb.out.next hb).cells
      simp only [putAll, put_lit, List.set_cons_succ, List.set_cons_zero]
      cases y1
      · exact post_skip rfl (by kernel_rfl) (by kernel_rfl) (by kernel_rfl) (by kernel_rfl)
      · dsimp only [cond]
        (go_wp2; all_goals (first | exact post_of (by rfl) (by rfl) (Below.refl _ _) (by rfl) | (exfalso; simp_all; done)))
    case r6g6 =>
      intro w5 hb
      refine over_vals (ds := [55, 56, 57]) [(.bool y1), (cond y1 (.agg #[.int .i32 c.1, .int .i32 c.2]) undef), (cond y1 (.agg #[.int .i32 b.1, .int .i32 b.2]) undef)] (by kernel_rfl) ?_
      have hT5 := Lib.hid (HT.out.next hb)
      simp only [putAll, put_lit, List.set_cons_succ, List.set_cons_zero]
      cases y1
      · exact post_skip rfl (by kernel_rfl) (by kernel_rfl) (by kernel_rfl) (by kernel_rfl)
      · dsimp only [cond]
        (go_wp2_with (go_at_call 14; go_must (refine (covers_of hT5.out ic.out ib.out Hy2.out).mono ?_); rintro r w6 ⟨rfl, b6⟩); all_goals (first | exact post_of (by rfl) (by rfl) (Below.refl _ _) (by rfl) | exact post_of (by rfl) (by rfl) b6 (by rfl) | (exfalso; simp_all; done)))
    case r6g7 =>
      intro w5 hb
      refine over_vals (ds := [55, 58]) [(.bool y1), (cond y1 (.bool y2) undef)] (by kernel_rfl) ?_
      cases y1 <;> cases y2
      · (obtain rfl : _ = d := HD2.out); exact post_run (.bool false) rfl (by kernel_rfl) (by kernel_rfl) (by kernel_rfl) (by kernel_rfl) (by kernel_rfl)
      · (obtain rfl : _ = d := HD2.out); exact post_run (.bool false) rfl (by kernel_rfl) (by kernel_rfl) (by kernel_rfl) (by kernel_rfl) (by kernel_rfl)
      · (obtain rfl : _ = d := HD2.out); exact post_run (.bool false) rfl (by kernel_rfl) (by kernel_rfl) (by kernel_rfl) (by kernel_rfl) (by kernel_rfl)
      · (obtain rfl : _ = d := HD2.out); exact post_run (.bool true) rfl (by kernel_rfl) (by kernel_rfl) (by kernel_rfl) (by kernel_rfl) (by kernel_rfl)
    case r6g8 =>
      intro w5 hb
      refine over_vals (ds := [59]) [(.bool d)] (by kernel_rfl) ?_
      exact post_run (.bool d) rfl (by kernel_rfl) (by kernel_rfl) (by kernel_rfl) (by kernel_rfl) (by kernel_rfl)
    case r6g9 =>
      intro w5 hb
      refine over_vals (ds := [60]) [(.bool d)] (by kernel_rfl) ?_
      obtain ⟨c0, c1⟩ := (Kc.out.next hb).cells
      simp only [putAll, put_lit, List.set_cons_succ, List.set_cons_zero]
      cases d
      · exact post_skip rfl (by kernel_rfl) (by kernel_rfl) (by kernel_rfl) (by kernel_rfl)
      · dsimp only [cond]
        (go_wp2; all_goals (first | exact post_of (by rfl) (by rfl) (Below.refl _ _) (by rfl) | (exfalso; simp_all; done)))
    case r6g10 =>
      intro w5 hb
      refine over_vals (ds := [60]) [(.bool d)] (by kernel_rfl) ?_
      obtain ⟨c0, c1⟩ := (Kx.out.next hb).cells
      simp only [putAll, put_lit, List.set_cons_succ, List.set_cons_zero]
      cases d
      · exact post_skip rfl (by kernel_rfl) (by kernel_rfl) (by kernel_rfl) (by kernel_rfl)
      · dsimp only [cond]
        (go_wp2; all_goals (first | exact post_of (by rfl) (by rfl) (Below.refl _ _) (by rfl) | (exfalso; simp_all; done)))
    case r6g11 =>
      intro w5 hb
      refine over_vals (ds := [60, 61, 62]) [(.bool d), (cond d (.agg #[.int .i32 c.1, .int .i32 c.2]) undef), (cond d (.agg #[.int .i32 u.1, .int .i32 u.2]) undef)] (by kernel_rfl) ?_
      have hT5 := Lib.hid (HT.out.next hb)
      simp only [putAll, put_lit, List.set_cons_succ, List.set_cons_zero]
      cases d
      · exact post_skip rfl (by kernel_rfl) (by kernel_rfl) (by kernel_rfl) (by kernel_rfl)
      · dsimp only [cond]
        (go_wp2_with (go_at_call 14; go_must (refine (covers_of hT5.out ic.out iu.out (HC.out rfl)).mono ?_); rintro r w6 ⟨rfl, b6⟩); all_goals (first | exact post_of (by rfl) (by rfl) (Below.refl _ _) (by rfl) | exact post_of (by rfl) (by rfl) b6 (by rfl) | (exfalso; simp_all; done)))
    case r6g12 =>
      intro w5 hb
      refine over_vals (ds := [60, 63]) [(.bool d), (cond d (.bool true) undef)] (by kernel_rfl) ?_
      cases d
      · exact post_skip rfl (by kernel_rfl) (by kernel_rfl) (by kernel_rfl) (by kernel_rfl)
      · exact post_run (.bool false) rfl (by kernel_rfl) (by kernel_rfl) (by kernel_rfl) (by kernel_rfl) (by kernel_rfl)
    case r6g13 =>
      intro w5 hb
      refine over_vals (ds := [60, 64]) [(.bool d), (cond d (.bool false) undef)] (by kernel_rfl) ?_
      cases d
      · exact post_run (.bool false) rfl (by kernel_rfl) (by kernel_rfl) (by kernel_rfl) (by kernel_rfl) (by kernel_rfl)
      · exact post_run (.bool false) rfl (by kernel_rfl) (by kernel_rfl) (by kernel_rfl) (by kernel_rfl) (by kernel_rfl)
  intro w4 b1
  simp only [List.drop_succ_cons, List.drop_zero]
  simp only [List.map_cons, List.map_nil, putAll, put_lit, List.set_cons_succ, List.set_cons_zero]
  have bw := bw.trans (b1.mono bw.size)
  have Ka := Lib.hid (Ka.out.next b1)
  have Kb := Lib.hid (Kb.out.next b1)
  have Kc := Lib.hid (Kc.out.next b1)
  have Kx := Lib.hid (Kx.out.next b1)
  have HT := Lib.hid (HT.out.next b1)
  clear b1
  go_upto_region 8 with fail
  refine wp_row_vals_end 30 [(66, (.pointer (some ⟨gx, 0, none⟩))), (67, (.int .i32 u.1)), (68, (.pointer (some ⟨ga, 0, none⟩))), (69, (.int .i32 a.1)), (70, (.bool k1)), (71, (.bool k1)), (72, (cond (!k1) (.pointer (some ⟨gx, 0, none⟩)) undef)), (73, (cond (!k1) (.int .i32 u.1) undef)), (74, (cond (!k1) (.pointer (some ⟨gb, 0, none⟩)) undef)), (75, (cond (!k1) (.int .i32 b.1) undef)), (76, (cond (!k1) (.bool k2) undef)), (77, (.bool true)), (78, (.bool true)), (79, (.pointer (some ⟨gx, 1, none⟩))), (80, (.int .i32 u.2)), (81, (.pointer (some ⟨ga, 1, none⟩))), (82, (.int .i32 a.2)), (83, (.bool k3)), (84, (.bool k3)), (85, (cond (!k3) (.pointer (some ⟨gx, 1, none⟩)) undef)), (86, (cond (!k3) (.int .i32 u.2) undef)), (87, (cond (!k3) (.pointer (some ⟨gb, 1, none⟩)) undef)), (88, (cond (!k3) (.int .i32 b.2) undef)), (89, (cond (!k3) (.bool k4) undef)), (90, (.bool true)), (91, (.bool true)), (92, (.bool true)), (93, (.bool true)), (94, (.bool true)), (6, (.bool true))]
    [[], [66], [], [68], [67, 69], [70], [71], [71, 72], [71], [71, 74], [71, 73, 75], [71, 76], [77], [78], [78, 79], [78], [78, 81], [78, 80, 82], [78, 83], [84], [84, 85], [84], [84, 87], [84, 86, 88], [78, 84, 89], [78, 90], [91], [92], [92, 93], [94]] (by kernel_rfl) ?_ ?_
  rotate_left
  · intro w5 a hb hB
    have h0 : a.tmps.getD 6 undef = .bool true := hB.new 6 (of_decide_eq_true (by kernel_rfl))
    have hd : a.defers = [] := hB.defers
    clear hB
    simp only [List.drop_succ_cons, List.drop_zero]
    refine wpList_nil ?_
    go_wp2
    exact bodyPost_ret (v := .bool true) ((results_tmp Tryd.results6 a.tmps _ _).trans (by rw [h0])) hd ⟨rfl, bw.trans (hb.mono bw.size)⟩
  simp only [List.take_succ_cons, List.take_zero]
  
  refine ⟨?r8g0, ?r8g1, ?r8g2, ?r8g3, ?r8g4, ?r8g5, ?r8g6, ?r8g7, ?r8g8, ?r8g9, ?r8g10, ?r8g11, ?r8g12, ?r8g13, ?r8g14, ?r8g15, ?r8g16, ?r8g17, ?r8g18, ?r8g19, ?r8g20, ?r8g21, ?r8g22, ?r8g23, ?r8g24, ?r8g25, ?r8g26, ?r8g27, ?r8g28, ?r8g29, trivial⟩
  case r8g0 =>
    intro w5 hb
    refine over_nil ?_
    (go_wp2; all_goals (first | exact post_of (by rfl) (by rfl) (Below.refl _ _) (by rfl) | (exfalso; simp_all; done)))
  case r8g1 =>
    intro w5 hb
    refine over_vals (ds := [66]) [(.pointer (some ⟨gx, 0, none⟩))] (by kernel_rfl) ?_
    obtain ⟨c0, c1⟩ := (Kx.out.next hb).cells
    simp only [putAll, put_lit, List.set_cons_succ, List.set_cons_zero]
    (go_wp2; all_goals (first | exact post_of (by rfl) (by rfl) (Below.refl _ _) (by rfl) | (exfalso; simp_all; done)))
  case r8g2 =>
    intro w5 hb
    refine over_nil ?_
    (go_wp2; all_goals (first | exact post_of (by rfl) (by rfl) (Below.refl _ _) (by rfl) | (exfalso; simp_all; done)))
  case r8g3 =>
    intro w5 hb
    refine over_vals (ds := [68]) [(.pointer (some ⟨ga, 0, none⟩))] (by kernel_rfl) ?_
    obtain ⟨c0, c1⟩ := (Ka.out.next hb).cells
    simp only [putAll, put_lit, List.set_cons_succ, List.set_cons_zero]
    (go_wp2; all_goals (first | exact post_of (by rfl) (by rfl) (Below.refl _ _) (by rfl) | (exfalso; simp_all; done)))
  case r8g4 =>
    intro w5 hb
    refine over_vals (ds := [67, 69]) [(.int .i32 u.1), (.int .i32 a.1)] (by kernel_rfl) ?_
    simp only [putAll, put_lit, List.set_cons_succ, List.set_cons_zero]
    cases k1
    · dsimp only [cond]
      ((have hl := beq_of Hk1.out); go_wp2; all_goals (first | exact post_of (by rfl) (by rfl) (Below.refl _ _) (by rfl) | (exfalso; simp_all; done)))
    · dsimp only [cond]
      ((have hl := beq_of Hk1.out); go_wp2; all_goals (first | exact post_of (by rfl) (by rfl) (Below.refl _ _) (by rfl) | (exfalso; simp_all; done)))
  case r8g5 =>
    intro w5 hb
    refine over_vals (ds := [70]) [(.bool k1)] (by kernel_rfl) ?_
    exact post_run (.bool k1) rfl (by kernel_rfl) (by kernel_rfl) (by kernel_rfl) (by kernel_rfl) (by kernel_rfl)
  case r8g6 =>
    intro w5 hb
    refine over_vals (ds := [71]) [(.bool k1)] (by kernel_rfl) ?_
    simp only [putAll, put_lit, List.set_cons_succ, List.set_cons_zero]
    cases k1
    · dsimp only [cond]
      (go_wp2; all_goals (first | exact post_of (by rfl) (by rfl) (Below.refl _ _) (by rfl) | (exfalso; simp_all; done)))
    · exact post_skip rfl (by kernel_rfl) (by kernel_rfl) (by kernel_rfl) (by kernel_rfl)
  case r8g7 =>
    intro w5 hb
    refine over_vals (ds := [71, 72]) [(.bool k1), (cond (!k1) (.pointer (some ⟨gx, 0, none⟩)) undef)] (by kernel_rfl) ?_
    obtain ⟨c0, c1⟩ := (Kx.out.next hb).cells
    simp only [putAll, put_lit, List.set_cons_succ, List.set_cons_zero]
    cases k1
    · dsimp only [cond]
      (go_wp2; all_goals (first | exact post_of (by rfl) (by rfl) (Below.refl _ _) (by rfl) | (exfalso; simp_all; done)))
    · exact post_skip rfl (by kernel_rfl) (by kernel_rfl) (by kernel_rfl) (by kernel_rfl)
  case r8g8 =>
    intro w5 hb
    refine over_vals (ds := [71]) [(.bool k1)] (by kernel_rfl) ?_
    simp only [putAll, put_lit, List.set_cons_succ, List.set_cons_zero]
    cases k1
    · dsimp only [cond]
      (go_wp2; all_goals (first | exact post_of (by rfl) (by rfl) (Below.refl _ _) (by rfl) | (exfalso; simp_all; done)))
    · exact post_skip rfl (by kernel_rfl) (by kernel_rfl) (by kernel_rfl) (by kernel_rfl)
  case r8g9 =>
    intro w5 hb
    refine over_vals (ds := [71, 74]) [(.bool k1), (cond (!k1) (.pointer (some ⟨gb, 0, none⟩)) undef)] (by kernel_rfl) ?_
    obtain ⟨c0, c1⟩ := (Kb.out.next hb).cells
    simp only [putAll, put_lit, List.set_cons_succ, List.set_cons_zero]
    cases k1
    · dsimp only [cond]
      (go_wp2; all_goals (first | exact post_of (by rfl) (by rfl) (Below.refl _ _) (by rfl) | (exfalso; simp_all; done)))
    · exact post_skip rfl (by kernel_rfl) (by kernel_rfl) (by kernel_rfl) (by kernel_rfl)
  case r8g10 =>
    intro w5 hb
    refine over_vals (ds := [71, 73, 75]) [(.bool k1), (cond (!k1) (.int .i32 u.1) undef), (cond (!k1) (.int .i32 b.1) undef)] (by kernel_rfl) ?_
    simp only [putAll, put_lit, List.set_cons_succ, List.set_cons_zero]
    cases k1 <;> cases k2
    · dsimp only [cond]
      ((have hl := beq_of Hk2.out); go_wp2; all_goals (first | exact post_of (by rfl) (by rfl) (Below.refl _ _) (by rfl) | (exfalso; simp_all; done)))
    · dsimp only [cond]
      ((have hl := beq_of Hk2.out); go_wp2; all_goals (first | exact post_of (by rfl) (by rfl) (Below.refl _ _) (by rfl) | (exfalso; simp_all; done)))
    · exact post_skip rfl (by kernel_rfl) (by kernel_rfl) (by kernel_rfl) (by kernel_rfl)
    · exact post_skip rfl (by kernel_rfl) (by kernel_rfl) (by kernel_rfl) (by kernel_rfl)
  case r8g11 =>
    intro w5 hb
    refine over_vals (ds := [71, 76]) [(.bool k1), (cond (!k1) (.bool k2) undef)] (by kernel_rfl) ?_
    cases k1 <;> cases k2
    · exact absurd HD3.out (by decide)
    · exact post_run (.bool true) rfl (by kernel_rfl) (by kernel_rfl) (by kernel_rfl) (by kernel_rfl) (by kernel_rfl)
    · exact post_run (.bool true) rfl (by kernel_rfl) (by kernel_rfl) (by kernel_rfl) (by kernel_rfl) (by kernel_rfl)
    · exact post_run (.bool true) rfl (by kernel_rfl) (by kernel_rfl) (by kernel_rfl) (by kernel_rfl) (by kernel_rfl)
  case r8g12 =>
    intro w5 hb
    refine over_vals (ds := [77]) [(.bool true)] (by kernel_rfl) ?_
    exact post_run (.bool true) rfl (by kernel_rfl) (by kernel_rfl) (by kernel_rfl) (by kernel_rfl) (by kernel_rfl)
  case r8g13 =>
    intro w5 hb
    refine over_vals (ds := [78]) [(.bool true)] (by kernel_rfl) ?_
    simp only [putAll, put_lit, List.set_cons_succ, List.set_cons_zero]
    (go_wp2; all_goals (first | exact post_of (by rfl) (by rfl) (Below.refl _ _) (by rfl) | (exfalso; simp_all; done)))
  case r8g14 =>
    intro w5 hb
    refine over_vals (ds := [78, 79]) [(.bool true), (.pointer (some ⟨gx, 1, none⟩))] (by kernel_rfl) ?_
    obtain ⟨c0, c1⟩ := (Kx.out.next hb).cells
    simp only [putAll, put_lit, List.set_cons_succ, List.set_cons_zero]
    (go_wp2; all_goals (first | exact post_of (by rfl) (by rfl) (Below.refl _ _) (by rfl) | (exfalso; simp_all; done)))
  case r8g15 =>
    intro w5 hb
    refine over_vals (ds := [78]) [(.bool true)] (by kernel_rfl) ?_
    simp only [putAll, put_lit, List.set_cons_succ, List.set_cons_zero]
    (go_wp2; all_goals (first | exact post_of (by rfl) (by rfl) (Below.refl _ _) (by rfl) | (exfalso; simp_all; done)))
  case r8g16 =>
    intro w5 hb
    refine over_vals (ds := [78, 81]) [(.bool true), (.pointer (some ⟨ga, 1, none⟩))] (by kernel_rfl) ?_
    obtain ⟨c0, c1⟩ := (Ka.out.next hb).cells
    simp only [putAll, put_lit, List.set_cons_succ, List.set_cons_zero]
    (go_wp2; all_goals (first | exact post_of (by rfl) (by rfl) (Below.refl _ _) (by rfl) | (exfalso; simp_all; done)))
  case r8g17 =>
    intro w5 hb
    refine over_vals (ds := [78, 80, 82]) [(.bool true), (.int .i32 u.2), (.int .i32 a.2)] (by kernel_rfl) ?_
    simp only [putAll, put_lit, List.set_cons_succ, List.set_cons_zero]
    cases k3
    · dsimp only [cond]
      ((have hl := beq_of Hk3.out); go_wp2; all_goals (first | exact post_of (by rfl) (by rfl) (Below.refl _ _) (by rfl) | (exfalso; simp_all; done)))
    · dsimp only [cond]
      ((have hl := beq_of Hk3.out); go_wp2; all_goals (first | exact post_of (by rfl) (by rfl) (Below.refl _ _) (by rfl) | (exfalso; simp_all; done)))
  case r8g18 =>
    intro w5 hb
    refine over_vals (ds := [78, 83]) [(.bool true), (.bool k3)] (by kernel_rfl) ?_
    exact post_run (.bool k3) rfl (by kernel_rfl) (by kernel_rfl) (by kernel_rfl) (by kernel_rfl) (by kernel_rfl)
  case r8g19 =>
    intro w5 hb
    refine over_vals (ds := [84]) [(.bool k3)] (by kernel_rfl) ?_
    simp only [putAll, put_lit, List.set_cons_succ, List.set_cons_zero]
    cases k3
    · dsimp only [cond]
      (go_wp2; all_goals (first | exact post_of (by rfl) (by rfl) (Below.refl _ _) (by rfl) | (exfalso; simp_all; done)))
    · exact post_skip rfl (by kernel_rfl) (by kernel_rfl) (by kernel_rfl) (by kernel_rfl)
  case r8g20 =>
    intro w5 hb
    refine over_vals (ds := [84, 85]) [(.bool k3), (cond (!k3) (.pointer (some ⟨gx, 1, none⟩)) undef)] (by kernel_rfl) ?_
    obtain ⟨c0, c1⟩ := (Kx.out.next hb).cells
    simp only [putAll, put_lit, List.set_cons_succ, List.set_cons_zero]
    cases k3
    · dsimp only [cond]
      (go_wp2; all_goals (first | exact post_of (by rfl) (by rfl) (Below.refl _ _) (by rfl) | (exfalso; simp_all; done)))
    · exact post_skip rfl (by kernel_rfl) (by kernel_rfl) (by kernel_rfl) (by kernel_rfl)
  case r8g21 =>
    intro w5 hb
    refine over_vals (ds := [84]) [(.bool k3)] (by kernel_rfl) ?_
    simp only [putAll, put_lit, List.set_cons_succ, List.set_cons_zero]
    cases k3
    · dsimp only [cond]
      (go_wp2; all_goals (first | exact post_of (by rfl) (by rfl) (Below.refl _ _) (by rfl) | (exfalso; simp_all; done)))
    · exact post_skip rfl (by kernel_rfl) (by kernel_rfl) (by kernel_rfl) (by kernel_rfl)
  case r8g22 =>
    intro w5 hb
    refine over_vals (ds := [84, 87]) [(.bool k3), (cond (!k3) (.pointer (some ⟨gb, 1, none⟩)) undef)] (by kernel_rfl) ?_
    obtain ⟨c0, c1⟩ := (Kb.out.next hb).cells
    simp only [putAll, put_lit, List.set_cons_succ, List.set_cons_zero]
    cases k3
    · dsimp only [cond]
      (go_wp2; all_goals (first | exact post_of (by rfl) (by rfl) (Below.refl _ _) (by rfl) | (exfalso; simp_all; done)))
    · exact post_skip rfl (by kernel_rfl) (by kernel_rfl) (by kernel_rfl) (by kernel_rfl)
  case r8g23 =>
    intro w5 hb
    refine over_vals (ds := [84, 86, 88]) [(.bool k3), (cond (!k3) (.int .i32 u.2) undef), (cond (!k3) (.int .i32 b.2) undef)] (by kernel_rfl) ?_
    simp only [putAll, put_lit, List.set_cons_succ, List.set_cons_zero]
    cases k3 <;> cases k4
    · dsimp only [cond]
      ((have hl := beq_of Hk4.out); go_wp2; all_goals (first | exact post_of (by rfl) (by rfl) (Below.refl _ _) (by rfl) | (exfalso; simp_all; done)))
    · dsimp only [cond]
      ((have hl := beq_of Hk4.out); go_wp2; all_goals (first | exact post_of (by rfl) (by rfl) (Below.refl _ _) (by rfl) | (exfalso; simp_all; done)))
    · exact post_skip rfl (by kernel_rfl) (by kernel_rfl) (by kernel_rfl) (by kernel_rfl)
    · exact post_skip rfl (by kernel_rfl) (by kernel_rfl) (by kernel_rfl) (by kernel_rfl)
  case r8g24 =>
    intro w5 hb
    refine over_vals (ds := [78, 84, 89]) [(.bool true), (.bool k3), (cond (!k3) (.bool k4) undef)] (by kernel_rfl) ?_
    cases k3 <;> cases k4
    · exact absurd HD4.out (by decide)
    · exact post_run (.bool true) rfl (by kernel_rfl) (by kernel_rfl) (by kernel_rfl) (by kernel_rfl) (by kernel_rfl)
    · exact post_run (.bool true) rfl (by kernel_rfl) (by kernel_rfl) (by kernel_rfl) (by kernel_rfl) (by kernel_rfl)
    · exact post_run (.bool true) rfl (by kernel_rfl) (by kernel_rfl) (by kernel_rfl) (by kernel_rfl) (by kernel_rfl)
  case r8g25 =>
    intro w5 hb
    refine over_vals (ds := [78, 90]) [(.bool true), (.bool true)] (by kernel_rfl) ?_
    exact post_run (.bool true) rfl (by kernel_rfl) (by kernel_rfl) (by kernel_rfl) (by kernel_rfl) (by kernel_rfl)
  case r8g26 =>
    intro w5 hb
    refine over_vals (ds := [91]) [(.bool true)] (by kernel_rfl) ?_
    exact post_run (.bool true) rfl (by kernel_rfl) (by kernel_rfl) (by kernel_rfl) (by kernel_rfl) (by kernel_rfl)
  case r8g27 =>
    intro w5 hb
    refine over_vals (ds := [92]) [(.bool true)] (by kernel_rfl) ?_
    have hT5 := Lib.hid (HT.out.next hb)
    simp only [putAll, put_lit, List.set_cons_succ, List.set_cons_zero]
    (go_wp2_with (go_at_call 18; go_must (refine (awake_any _ hT5.out).mono ?_); rintro r w6 ⟨rfl, b6⟩); all_goals (first | exact post_of (by rfl) (by rfl) (Below.refl _ _) (by rfl) | exact post_of (by rfl) (by rfl) b6 (by rfl) | (exfalso; simp_all; done)))
  case r8g28 =>
    intro w5 hb
    refine over_vals (ds := [92, 93]) [(.bool true), (.bool true)] (by kernel_rfl) ?_
    exact post_run (.bool true) rfl (by kernel_rfl) (by kernel_rfl) (by kernel_rfl) (by kernel_rfl) (by kernel_rfl)
  case r8g29 =>
    intro w5 hb
    refine over_vals (ds := [94]) [(.bool true)] (by kernel_rfl) ?_
    exact post_run (.bool true) rfl (by kernel_rfl) (by kernel_rfl) (by kernel_rfl) (by kernel_rfl) (by kernel_rfl)
theorem shull_walk (a b c : Int × Int) (w : World) (hT : Tab w) (ia : inR a) (ib : inR b) (ic : inR c) :
    Calls Tryd.prog 6 #[(.agg #[.int .i32 a.1, .int .i32 a.2]), (.agg #[.int .i32 b.1, .int .i32 b.2]), (.agg #[.int .i32 c.1, .int .i32 c.2])] w fun e w' => e = .returned (.bool true) ∧ Below w.heap.size w w' := by
  by_cases he : a.2 < a.1 ∧ b.2 < b.1
  · exact shull_none a b c w hT ia ib ic he
  · exact shull_some a b c w hT ia ib ic he
end Go.Proofs.YtofphdodihbijaaDoor
