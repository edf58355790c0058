/- Layer 4: the walk of SpanCovers. -/
import Derived.Test.YtofphdodihbijaaDoorSt0
import Derived.Deep.Cut
namespace Go.Proofs.YtofphdodihbijaaDoor
open Go.RowKit
set_option linter.unusedVariables false
set_option maxRecDepth 100000 in
set_option maxHeartbeats 8000000 in
theorem scovers_walk (a b c : Int × Int) (v : Int) (w : World) (hT : Tab w) (ia : inR a) (ib : inR b) (ic : inR c) :
    Calls Tryd.prog 5 #[(.agg #[.int .i32 a.1, .int .i32 a.2]), (.agg #[.int .i32 b.1, .int .i32 b.2]), (.agg #[.int .i32 c.1, .int .i32 c.2]), .int .i32 v] w fun e w' => e = .returned (.bool true) ∧ Below w.heap.size w w' := by
  obtain ⟨y1, Hc1⟩ : ∃ uu, Hid (covB a b = uu) := ⟨_, rfl⟩
  obtain ⟨y2, Hc2⟩ : ∃ uu, Hid (covB b a = uu) := ⟨_, rfl⟩
  obtain ⟨y3, Hc3⟩ : ∃ uu, Hid (covB b c = uu) := ⟨_, rfl⟩
  obtain ⟨y4, Hc4⟩ : ∃ uu, Hid (covB a c = uu) := ⟨_, rfl⟩
  obtain ⟨h1, Hh1⟩ : ∃ uu, Hid (hasB b v = uu) := ⟨_, rfl⟩
  obtain ⟨h2, Hh2⟩ : ∃ uu, Hid (hasB a v = uu) := ⟨_, rfl⟩
  obtain ⟨n1, Hn1⟩ : ∃ uu, Hid (lenP a = uu) := ⟨_, rfl⟩
  obtain ⟨n2, Hn2⟩ : ∃ uu, Hid (lenP b = uu) := ⟨_, rfl⟩
  obtain ⟨l1, Hl1⟩ : ∃ uu, Hid (decide (0 < n1) = uu) := ⟨_, rfl⟩
  obtain ⟨l2, Hl2⟩ : ∃ uu, Hid (decide (0 < n2) = uu) := ⟨_, rfl⟩
  obtain ⟨k, HK⟩ : ∃ uu, Hid (decide (a.1 = b.1 ∧ a.2 = b.2) = uu) := ⟨_, rfl⟩
  obtain ⟨r, Hr⟩ : ∃ uu, Hid (meetP a b = uu) := ⟨_, rfl⟩
  obtain ⟨m, Hm⟩ : ∃ uu, Hid (meetB a b = uu) := ⟨_, rfl⟩
  obtain ⟨d0, HD0⟩ : ∃ uu, Hid ((y1 && h1) = uu) := ⟨_, rfl⟩
  obtain ⟨d1, HD2⟩ : ∃ uu, Hid ((y1 && y2) = uu) := ⟨_, rfl⟩
  obtain ⟨d2, HD3⟩ : ∃ uu, Hid ((d1 && (!k)) = uu) := ⟨_, rfl⟩
  obtain ⟨l, HD4⟩ : ∃ uu, Hid ((l1 || l2) = uu) := ⟨_, rfl⟩
  obtain ⟨d3, HD6⟩ : ∃ uu, Hid ((y1 && y3) = uu) := ⟨_, rfl⟩
  obtain ⟨g1, HG⟩ : ∃ uu, Hid (((!y4) || (!y3)) = uu) := ⟨_, rfl⟩
  have HD1 : Hid ((d0 && (!h2)) = false) := by
    unfold Hid
    rw [← HD0.out, ← Bool.not_eq_true, ← Hc1.out, ← Hh1.out, ← Hh2.out]
    simp only [Bool.and_eq_true, Bool.not_eq_true', cov_iff, has_iff, ← Bool.not_eq_true]
    omega
  have HD5 : Hid ((d2 && l) = false) := by
    unfold Hid
    rw [← HD4.out, ← HD3.out, ← HD2.out, ← Bool.not_eq_true, ← Hc1.out, ← Hc2.out, ← HK.out, ← Hl1.out, ← Hl2.out, ← Hn1.out, ← Hn2.out]
    simp only [Bool.and_eq_true, Bool.or_eq_true, Bool.not_eq_true', decide_eq_false_iff_not, decide_eq_true_eq, cov_iff, len_pos]
    omega
  have HD7 : Hid ((d3 && (!y4)) = false) := by
    unfold Hid
    rw [← HD6.out, ← Bool.not_eq_true, ← Hc1.out, ← Hc3.out, ← Hc4.out]
    simp only [Bool.and_eq_true, Bool.not_eq_true', cov_iff, ← Bool.not_eq_true]
    omega
  have HA : Hid (m = true → covB a r = true) := by
    unfold Hid
    intro hm
    rw [← Hr.out, cov_iff, meetP_yes (Hm.out.trans hm)]
    simp only
    omega
  have HB : Hid (m = true → covB b r = true) := by
    unfold Hid
    intro hm
    rw [← Hr.out, cov_iff, meetP_yes (Hm.out.trans hm)]
    simp only
    omega
  have HC : Hid (m = true → g1 = false → covB r c = true) := by
    unfold Hid
    intro hm hg
    rw [← HG.out, ← Hc4.out, ← Hc3.out] at hg
    simp only [Bool.or_eq_false_iff, Bool.not_eq_false', cov_iff] at hg
    rw [← Hr.out, cov_iff, meetP_yes (Hm.out.trans hm)]
    simp only
    omega
  have ir : Hid (inR r) := by unfold Hid; rw [← Hr.out]; exact inR_meet ia ib
  have ia := Lib.hid ia
  have ib := Lib.hid ib
  have ic := Lib.hid ic
  have bw : Below w.heap.size w (((w.alloc (.cells #[.int .i32 a.1, .int .i32 a.2] 23)).alloc (.cells #[.int .i32 b.1, .int .i32 b.2] 23)).alloc (.cells #[.int .i32 c.1, .int .i32 c.2] 23)) := (thn (thn (below_lit w (.cells #[.int .i32 a.1, .int .i32 a.2] 23)) (below_lit _ (.cells #[.int .i32 b.1, .int .i32 b.2] 23))) (below_lit _ (.cells #[.int .i32 c.1, .int .i32 c.2] 23)))
  have Ka : Hid (Blk (((w.alloc (.cells #[.int .i32 a.1, .int .i32 a.2] 23)).alloc (.cells #[.int .i32 b.1, .int .i32 b.2] 23)).alloc (.cells #[.int .i32 c.1, .int .i32 c.2] 23)) (w.heap.size) a) := by
    have := ((Blk.lit w a.1 a.2).old (.cells #[.int .i32 b.1, .int .i32 b.2] 23)).old (.cells #[.int .i32 c.1, .int .i32 c.2] 23)
    unfold Hid
    simpa using this
  have Kb : Hid (Blk (((w.alloc (.cells #[.int .i32 a.1, .int .i32 a.2] 23)).alloc (.cells #[.int .i32 b.1, .int .i32 b.2] 23)).alloc (.cells #[.int .i32 c.1, .int .i32 c.2] 23)) (w.heap.size + 1) b) := by
    have := (Blk.lit (w.alloc (.cells #[.int .i32 a.1, .int .i32 a.2] 23)) b.1 b.2).old (.cells #[.int .i32 c.1, .int .i32 c.2] 23)
    unfold Hid
    simpa using this
  have Kc : Hid (Blk (((w.alloc (.cells #[.int .i32 a.1, .int .i32 a.2] 23)).alloc (.cells #[.int .i32 b.1, .int .i32 b.2] 23)).alloc (.cells #[.int .i32 c.1, .int .i32 c.2] 23)) (w.heap.size + 1 + 1) c) := by
    have := Blk.lit ((w.alloc (.cells #[.int .i32 a.1, .int .i32 a.2] 23)).alloc (.cells #[.int .i32 b.1, .int .i32 b.2] 23)) c.1 c.2
    unfold Hid
    simpa using this
  have HT : Hid (Tab (((w.alloc (.cells #[.int .i32 a.1, .int .i32 a.2] 23)).alloc (.cells #[.int .i32 b.1, .int .i32 b.2] 23)).alloc (.cells #[.int .i32 c.1, .int .i32 c.2] 23))) := hT.next bw
  clear hT
  go_enter Tryd.func5, Tryd.ntmps5
  go_upto_region 1 with fail
  generalize ((w.alloc _).alloc _).alloc _ = W at *
  generalize w.heap.size + 1 + 1 = gc at Kc ⊢
  generalize w.heap.size + 1 = gb at Kb ⊢
  generalize w.heap.size = ga at Ka ⊢
  refine wp_row_vals 20 [(11, (.agg #[.int .i32 a.1, .int .i32 a.2])), (12, (.agg #[.int .i32 b.1, .int .i32 b.2])), (13, (.bool y1)), (14, (.bool y1)), (15, (cond y1 (.agg #[.int .i32 b.1, .int .i32 b.2]) undef)), (16, (cond y1 (.int .i32 v) undef)), (17, (cond y1 (.bool h1) undef)), (18, (.bool d0)), (19, (.bool d0)), (20, (cond d0 (.agg #[.int .i32 a.1, .int .i32 a.2]) undef)), (21, (cond d0 (.int .i32 v) undef)), (22, (cond d0 (.bool h2) undef)), (23, (cond d0 (.bool (!h2)) undef)), (24, (.bool false)), (25, (.bool false)), (26, (.agg #[.int .i32 a.1, .int .i32 a.2])), (27, (.agg #[.int .i32 a.1, .int .i32 a.2])), (28, (.bool true)), (29, (.bool false)), (30, (.bool false))]
    [[], [], [11, 12], [13], [14], [14], [14, 15, 16], [14, 17], [18], [19], [19], [19, 20, 21], [19, 22], [19, 23], [24], [25], [25], [25, 26, 27], [25, 28], [25, 29]] (by kernel_rfl) (by kernel_rfl) (by kernel_rfl) ?_ ?_
  · simp only [List.take_succ_cons, List.take_zero]
    refine ⟨?r1g0, ?r1g1, ?r1g2, ?r1g3, ?r1g4, ?r1g5, ?r1g6, ?r1g7, ?r1g8, ?r1g9, ?r1g10, ?r1g11, ?r1g12, ?r1g13, ?r1g14, ?r1g15, ?r1g16, ?r1g17, ?r1g18, ?r1g19, trivial⟩
    case r1g0 =>
      intro w5 hb
      refine over_nil ?_
      obtain ⟨c0, c1⟩ := (Ka.out.next hb).cells
      (go_wp2; all_goals (first | exact post_of (by rfl) (by rfl) (Below.refl _ _) (by rfl) | (exfalso; simp_all; done)))
    case r1g1 =>
      intro w5 hb
      refine over_nil ?_
      obtain ⟨c0, c1⟩ := (Kb.out.next hb).cells
      (go_wp2; all_goals (first | exact post_of (by rfl) (by rfl) (Below.refl _ _) (by rfl) | (exfalso; simp_all; done)))
    case r1g2 =>
      intro w5 hb
      refine over_vals (ds := [11, 12]) [(.agg #[.int .i32 a.1, .int .i32 a.2]), (.agg #[.int .i32 b.1, .int .i32 b.2])] (by kernel_rfl) ?_
      have hT5 := Lib.hid (HT.out.next hb)
      simp only [putAll, put_lit, List.set_cons_succ, List.set_cons_zero]
      (go_wp2_with (go_at_call 14; go_must (refine (covers_of hT5.out ia.out ib.out Hc1.out).mono ?_); rintro r w6 ⟨rfl, b6⟩); all_goals (first | exact post_of (by rfl) (by rfl) (Below.refl _ _) (by rfl) | exact post_of (by rfl) (by rfl) b6 (by rfl) | (exfalso; simp_all; done)))
    case r1g3 =>
      intro w5 hb
      refine over_vals (ds := [13]) [(.bool y1)] (by kernel_rfl) ?_
      exact post_run (.bool y1) rfl (by kernel_rfl) (by kernel_rfl) (by kernel_rfl) (by kernel_rfl) (by kernel_rfl)
    case r1g4 =>
      intro w5 hb
      refine over_vals (ds := [14]) [(.bool y1)] (by kernel_rfl) ?_
      obtain ⟨c0, c1⟩ := (Kb.out.next hb).cells
      simp only [putAll, put_lit, List.set_cons_succ, List.set_cons_zero]
      cases y1
      · exact post_skip rfl (by kernel_rfl) (by kernel_rfl) (by kernel_rfl) (by kernel_rfl)
      · dsimp only [cond]
        (go_wp2; all_goals (first | exact post_of (by rfl) (by rfl) (Below.refl _ _) (by rfl) | (exfalso; simp_all; done)))
    case r1g5 =>
      intro w5 hb
      refine over_vals (ds := [14]) [(.bool y1)] (by kernel_rfl) ?_
      cases y1
      · exact post_skip rfl (by kernel_rfl) (by kernel_rfl) (by kernel_rfl) (by kernel_rfl)
      · exact post_run (.int .i32 v) rfl (by kernel_rfl) (by kernel_rfl) (by kernel_rfl) (by kernel_rfl) (by kernel_rfl)
    case r1g6 =>
      intro w5 hb
      refine over_vals (ds := [14, 15, 16]) [(.bool y1), (cond y1 (.agg #[.int .i32 b.1, .int .i32 b.2]) undef), (cond y1 (.int .i32 v) undef)] (by kernel_rfl) ?_
      simp only [putAll, put_lit, List.set_cons_succ, List.set_cons_zero]
      cases y1
      · exact post_skip rfl (by kernel_rfl) (by kernel_rfl) (by kernel_rfl) (by kernel_rfl)
      · dsimp only [cond]
        (go_wp2_with (go_at_call 10; go_must (refine (has_of Hh1.out).mono ?_); rintro r w6 ⟨rfl, b6⟩); all_goals (first | exact post_of (by rfl) (by rfl) (Below.refl _ _) (by rfl) | exact post_of (by rfl) (by rfl) b6 (by rfl) | (exfalso; simp_all; done)))
    case r1g7 =>
      intro w5 hb
      refine over_vals (ds := [14, 17]) [(.bool y1), (cond y1 (.bool h1) undef)] (by kernel_rfl) ?_
      cases h1 <;> cases y1
      · (obtain rfl : _ = d0 := HD0.out); exact post_run (.bool false) rfl (by kernel_rfl) (by kernel_rfl) (by kernel_rfl) (by kernel_rfl) (by kernel_rfl)
      · (obtain rfl : _ = d0 := HD0.out); exact post_run (.bool false) rfl (by kernel_rfl) (by kernel_rfl) (by kernel_rfl) (by kernel_rfl) (by kernel_rfl)
      · (obtain rfl : _ = d0 := HD0.out); exact post_run (.bool false) rfl (by kernel_rfl) (by kernel_rfl) (by kernel_rfl) (by kernel_rfl) (by kernel_rfl)
      · (obtain rfl : _ = d0 := HD0.out); exact post_run (.bool true) rfl (by kernel_rfl) (by kernel_rfl) (by kernel_rfl) (by kernel_rfl) (by kernel_rfl)
    case r1g8 =>
      intro w5 hb
      refine over_vals (ds := [18]) [(.bool d0)] (by kernel_rfl) ?_
      exact post_run (.bool d0) rfl (by kernel_rfl) (by kernel_rfl) (by kernel_rfl) (by kernel_rfl) (by kernel_rfl)
    case r1g9 =>
      intro w5 hb
      refine over_vals (ds := [19]) [(.bool d0)] (by kernel_rfl) ?_
      obtain ⟨c0, c1⟩ := (Ka.out.next hb).cells
      simp only [putAll, put_lit, List.set_cons_succ, List.set_cons_zero]
      cases d0
      · exact post_skip rfl (by kernel_rfl) (by kernel_rfl) (by kernel_rfl) (by kernel_rfl)
      · dsimp only [cond]
        (go_wp2; all_goals (first | exact post_of (by rfl) (by rfl) (Below.refl _ _) (by rfl) | (exfalso; simp_all; done)))
    case r1g10 =>
      intro w5 hb
      refine over_vals (ds := [19]) [(.bool d0)] (by kernel_rfl) ?_
      cases d0
      · exact post_skip rfl (by kernel_rfl) (by kernel_rfl) (by kernel_rfl) (by kernel_rfl)
      · exact post_run (.int .i32 v) rfl (by kernel_rfl) (by kernel_rfl) (by kernel_rfl) (by kernel_rfl) (by kernel_rfl)
    case r1g11 =>
      intro w5 hb
      refine over_vals (ds := [19, 20, 21]) [(.bool d0), (cond d0 (.agg #[.int .i32 a.1, .int .i32 a.2]) undef), (cond d0 (.int .i32 v) undef)] (by kernel_rfl) ?_
      simp only [putAll, put_lit, List.set_cons_succ, List.set_cons_zero]
      cases d0
      · exact post_skip rfl (by kernel_rfl) (by kernel_rfl) (by kernel_rfl) (by kernel_rfl)
      · dsimp only [cond]
        (go_wp2_with (go_at_call 10; go_must (refine (has_of Hh2.out).mono ?_); rintro r w6 ⟨rfl, b6⟩); all_goals (first | exact post_of (by rfl) (by rfl) (Below.refl _ _) (by rfl) | exact post_of (by rfl) (by rfl) b6 (by rfl) | (exfalso; simp_all; done)))
    case r1g12 =>
      intro w5 hb
      refine over_vals (ds := [19, 22]) [(.bool d0), (cond d0 (.bool h2) undef)] (by kernel_rfl) ?_
      cases d0 <;> cases h2
      · exact post_skip rfl (by kernel_rfl) (by kernel_rfl) (by kernel_rfl) (by kernel_rfl)
      · exact post_skip rfl (by kernel_rfl) (by kernel_rfl) (by kernel_rfl) (by kernel_rfl)
      · exact post_run (.bool true) rfl (by kernel_rfl) (by kernel_rfl) (by kernel_rfl) (by kernel_rfl) (by kernel_rfl)
      · exact post_run (.bool false) rfl (by kernel_rfl) (by kernel_rfl) (by kernel_rfl) (by kernel_rfl) (by kernel_rfl)
    case r1g13 =>
      intro w5 hb
      refine over_vals (ds := [19, 23]) [(.bool d0), (cond d0 (.bool (!h2)) undef)] (by kernel_rfl) ?_
      cases d0 <;> cases h2
      · exact post_run (.bool false) rfl (by kernel_rfl) (by kernel_rfl) (by kernel_rfl) (by kernel_rfl) (by kernel_rfl)
      · exact post_run (.bool false) rfl (by kernel_rfl) (by kernel_rfl) (by kernel_rfl) (by kernel_rfl) (by kernel_rfl)
      · exact absurd HD1.out (by decide)
      · exact post_run (.bool false) rfl (by kernel_rfl) (by kernel_rfl) (by kernel_rfl) (by kernel_rfl) (by kernel_rfl)
    case r1g14 =>
      intro w5 hb
      refine over_vals (ds := [24]) [(.bool false)] (by kernel_rfl) ?_
      exact post_run (.bool false) rfl (by kernel_rfl) (by kernel_rfl) (by kernel_rfl) (by kernel_rfl) (by kernel_rfl)
    case r1g15 =>
      intro w5 hb
      refine over_vals (ds := [25]) [(.bool false)] (by kernel_rfl) ?_
      obtain ⟨c0, c1⟩ := (Ka.out.next hb).cells
      simp only [putAll, put_lit, List.set_cons_succ, List.set_cons_zero]
      (go_wp2; all_goals (first | exact post_of (by rfl) (by rfl) (Below.refl _ _) (by rfl) | (exfalso; simp_all; done)))
    case r1g16 =>
      intro w5 hb
      refine over_vals (ds := [25]) [(.bool false)] (by kernel_rfl) ?_
      obtain ⟨c0, c1⟩ := (Ka.out.next hb).cells
      simp only [putAll, put_lit, List.set_cons_succ, List.set_cons_zero]
      (go_wp2; all_goals (first | exact post_of (by rfl) (by rfl) (Below.refl _ _) (by rfl) | (exfalso; simp_all; done)))
    case r1g17 =>
      intro w5 hb
      refine over_vals (ds := [25, 26, 27]) [(.bool false), (.agg #[.int .i32 a.1, .int .i32 a.2]), (.agg #[.int .i32 a.1, .int .i32 a.2])] (by kernel_rfl) ?_
      have hT5 := Lib.hid (HT.out.next hb)
      simp only [putAll, put_lit, List.set_cons_succ, List.set_cons_zero]
      (go_wp2_with (go_at_call 14; go_must (refine (covers_of hT5.out ia.out ia.out (cov_self a)).mono ?_); rintro r w6 ⟨rfl, b6⟩); all_goals (first | exact post_of (by rfl) (by rfl) (Below.refl _ _) (by rfl) | exact post_of (by rfl) (by rfl) b6 (by rfl) | (exfalso; simp_all; done)))
    case r1g18 =>
      intro w5 hb
      refine over_vals (ds := [25, 28]) [(.bool false), (.bool true)] (by kernel_rfl) ?_
      exact post_run (.bool false) rfl (by kernel_rfl) (by kernel_rfl) (by kernel_rfl) (by kernel_rfl) (by kernel_rfl)
    case r1g19 =>
      intro w5 hb
      refine over_vals (ds := [25, 29]) [(.bool false), (.bool false)] (by kernel_rfl) ?_
      exact post_run (.bool false) rfl (by kernel_rfl) (by kernel_rfl) (by kernel_rfl) (by kernel_rfl) (by kernel_rfl)
  intro w1 b1
  simp only [List.drop_succ_cons, List.drop_zero]
  simp only [List.map_cons, List.map_nil, putAll, put_lit, List.set_cons_succ, List.set_cons_zero]
  have bw := bw.trans (b1.mono bw.size)
  have Ka := Lib.hid (Ka.out.next b1)
  have Kb := Lib.hid (Kb.out.next b1)
  have Kc := Lib.hid (Kc.out.next b1)
  have HT := Lib.hid (HT.out.next b1)
  clear b1
  go_upto_region 3 with fail
  refine wp_row_vals 23 [(31, (.agg #[.int .i32 a.1, .int .i32 a.2])), (32, (.agg #[.int .i32 b.1, .int .i32 b.2])), (33, (.bool y1)), (34, (.bool y1)), (35, (cond y1 (.agg #[.int .i32 b.1, .int .i32 b.2]) undef)), (36, (cond y1 (.agg #[.int .i32 a.1, .int .i32 a.2]) undef)), (37, (cond y1 (.bool y2) undef)), (38, (.bool d1)), (39, (.bool d1)), (40, (cond d1 (.agg #[.int .i32 a.1, .int .i32 a.2]) undef)), (41, (cond d1 (.agg #[.int .i32 b.1, .int .i32 b.2]) undef)), (42, (cond d1 (.bool (!k)) undef)), (43, (.bool d2)), (44, (.bool d2)), (45, (cond d2 (.agg #[.int .i32 a.1, .int .i32 a.2]) undef)), (46, (cond d2 (.int .u32 n1) undef)), (47, (cond d2 (.bool l1) undef)), (48, (cond d2 (.bool l1) undef)), (49, (cond (d2 && (!l1)) (.agg #[.int .i32 b.1, .int .i32 b.2]) undef)), (50, (cond (d2 && (!l1)) (.int .u32 n2) undef)), (51, (cond (d2 && (!l1)) (.bool l2) undef)), (52, (cond d2 (.bool l) undef)), (53, (.bool false))]
    [[], [], [31, 32], [33], [34], [34], [34, 35, 36], [34, 37], [38], [39], [39], [39, 40, 41], [39, 42], [43], [44], [44, 45], [44, 46], [44, 47], [48], [48, 49], [48, 50], [44, 48, 51], [44, 52]] (by kernel_rfl) (by kernel_rfl) (by kernel_rfl) ?_ ?_
  · simp only [List.take_succ_cons, List.take_zero]
    refine ⟨?r3g0, ?r3g1, ?r3g2, ?r3g3, ?r3g4, ?r3g5, ?r3g6, ?r3g7, ?r3g8, ?r3g9, ?r3g10, ?r3g11, ?r3g12, ?r3g13, ?r3g14, ?r3g15, ?r3g16, ?r3g17, ?r3g18, ?r3g19, ?r3g20, ?r3g21, ?r3g22, trivial⟩
    case r3g0 =>
      intro w5 hb
      refine over_nil ?_
      obtain ⟨c0, c1⟩ := (Ka.out.next hb).cells
      (go_wp2; all_goals (first | exact post_of (by rfl) (by rfl) (Below.refl _ _) (by rfl) | (exfalso; simp_all; done)))
    case r3g1 =>
      intro w5 hb
      refine over_nil ?_
      obtain ⟨c0, c1⟩ := (Kb.out.next hb).cells
      (go_wp2; all_goals (first | exact post_of (by rfl) (by rfl) (Below.refl _ _) (by rfl) | (exfalso; simp_all; done)))
    case r3g2 =>
      intro w5 hb
      refine over_vals (ds := [31, 32]) [(.agg #[.int .i32 a.1, .int .i32 a.2]), (.agg #[.int .i32 b.1, .int .i32 b.2])] (by kernel_rfl) ?_
      have hT5 := Lib.hid (HT.out.next hb)
      simp only [putAll, put_lit, List.set_cons_succ, List.set_cons_zero]
      (go_wp2_with (go_at_call 14; go_must (refine (covers_of hT5.out ia.out ib.out Hc1.out).mono ?_); rintro r w6 ⟨rfl, b6⟩); all_goals (first | exact post_of (by rfl) (by rfl) (Below.refl _ _) (by rfl) | exact post_of (by rfl) (by rfl) b6 (by rfl) | (exfalso; simp_all; done)))
    case r3g3 =>
      intro w5 hb
      refine over_vals (ds := [33]) [(.bool y1)] (by kernel_rfl) ?_
      exact post_run (.bool y1) rfl (by kernel_rfl) (by kernel_rfl) (by kernel_rfl) (by kernel_rfl) (by kernel_rfl)
    case r3g4 =>
      intro w5 hb
      refine over_vals (ds := [34]) [(.bool y1)] (by kernel_rfl) ?_
      obtain ⟨c0, c1⟩ := (Kb.out.next hb).cells
      simp only [putAll, put_lit, List.set_cons_succ, List.set_cons_zero]
      cases y1
      · exact post_skip rfl (by kernel_rfl) (by kernel_rfl) (by kernel_rfl) (by kernel_rfl)
      · dsimp only [cond]
        (go_wp2; all_goals (first | exact post_of (by rfl) (by rfl) (Below.refl _ _) (by rfl) | (exfalso; simp_all; done)))
    case r3g5 =>
      intro w5 hb
      refine over_vals (ds := [34]) [(.bool y1)] (by kernel_rfl) ?_
      obtain ⟨c0, c1⟩ := (Ka.out.next hb).cells
      simp only [putAll, put_lit, List.set_cons_succ, List.set_cons_zero]
      cases y1
      · exact post_skip rfl (by kernel_rfl) (by kernel_rfl) (by kernel_rfl) (by kernel_rfl)
      · dsimp only [cond]
        (go_wp2; all_goals (first | exact post_of (by rfl) (by rfl) (Below.refl _ _) (by rfl) | (exfalso; simp_all; done)))
    case r3g6 =>
      intro w5 hb
      refine over_vals (ds := [34, 35, 36]) [(.bool y1), (cond y1 (.agg #[.int .i32 b.1, .int .i32 b.2]) undef), (cond y1 (.agg #[.int .i32 a.1, .int .i32 a.2]) undef)] (by kernel_rfl) ?_
      have hT5 := Lib.hid (HT.out.next hb)
      simp only [putAll, put_lit, List.set_cons_succ, List.set_cons_zero]
      cases y1
      · exact post_skip rfl (by kernel_rfl) (by kernel_rfl) (by kernel_rfl) (by kernel_rfl)
      · dsimp only [cond]
        (go_wp2_with (go_at_call 14; go_must (refine (covers_of hT5.out ib.out ia.out Hc2.out).mono ?_); rintro r w6 ⟨rfl, b6⟩); all_goals (first | exact post_of (by rfl) (by rfl) (Below.refl _ _) (by rfl) | exact post_of (by rfl) (by rfl) b6 (by rfl) | (exfalso; simp_all; done)))
    case r3g7 =>
      intro w5 hb
      refine over_vals (ds := [34, 37]) [(.bool y1), (cond y1 (.bool y2) undef)] (by kernel_rfl) ?_
      cases y1 <;> cases y2
      · (obtain rfl : _ = d1 := HD2.out); exact post_run (.bool false) rfl (by kernel_rfl) (by kernel_rfl) (by kernel_rfl) (by kernel_rfl) (by kernel_rfl)
      · (obtain rfl : _ = d1 := HD2.out); exact post_run (.bool false) rfl (by kernel_rfl) (by kernel_rfl) (by kernel_rfl) (by kernel_rfl) (by kernel_rfl)
      · (obtain rfl : _ = d1 := HD2.out); exact post_run (.bool false) rfl (by kernel_rfl) (by kernel_rfl) (by kernel_rfl) (by kernel_rfl) (by kernel_rfl)
      · (obtain rfl : _ = d1 := HD2.out); exact post_run (.bool true) rfl (by kernel_rfl) (by kernel_rfl) (by kernel_rfl) (by kernel_rfl) (by kernel_rfl)
    case r3g8 =>
      intro w5 hb
      refine over_vals (ds := [38]) [(.bool d1)] (by kernel_rfl) ?_
      exact post_run (.bool d1) rfl (by kernel_rfl) (by kernel_rfl) (by kernel_rfl) (by kernel_rfl) (by kernel_rfl)
    case r3g9 =>
      intro w5 hb
      refine over_vals (ds := [39]) [(.bool d1)] (by kernel_rfl) ?_
      obtain ⟨c0, c1⟩ := (Ka.out.next hb).cells
      simp only [putAll, put_lit, List.set_cons_succ, List.set_cons_zero]
      cases d1
      · exact post_skip rfl (by kernel_rfl) (by kernel_rfl) (by kernel_rfl) (by kernel_rfl)
      · dsimp only [cond]
        (go_wp2; all_goals (first | exact post_of (by rfl) (by rfl) (Below.refl _ _) (by rfl) | (exfalso; simp_all; done)))
    case r3g10 =>
      intro w5 hb
      refine over_vals (ds := [39]) [(.bool d1)] (by kernel_rfl) ?_
      obtain ⟨c0, c1⟩ := (Kb.out.next hb).cells
      simp only [putAll, put_lit, List.set_cons_succ, List.set_cons_zero]
      cases d1
      · exact post_skip rfl (by kernel_rfl) (by kernel_rfl) (by kernel_rfl) (by kernel_rfl)
      · dsimp only [cond]
        (go_wp2; all_goals (first | exact post_of (by rfl) (by rfl) (Below.refl _ _) (by rfl) | (exfalso; simp_all; done)))
    case r3g11 =>
      intro w5 hb
      refine over_vals (ds := [39, 40, 41]) [(.bool d1), (cond d1 (.agg #[.int .i32 a.1, .int .i32 a.2]) undef), (cond d1 (.agg #[.int .i32 b.1, .int .i32 b.2]) undef)] (by kernel_rfl) ?_
      have heq : ∀ w' : World, (binOp .neq 23 (.agg #[.int .i32 a.1, .int .i32 a.2]) (.agg #[.int .i32 b.1, .int .i32 b.2])).run Tryd.prog w' = .ok (.bool (!k)) w' := fun w' => (neq_run a b w').trans (congrArg (fun b => Result.ok (Value.bool (!b)) w') HK.out)
      simp only [putAll, put_lit, List.set_cons_succ, List.set_cons_zero]
      cases d1
      · exact post_skip rfl (by kernel_rfl) (by kernel_rfl) (by kernel_rfl) (by kernel_rfl)
      · dsimp only [cond]
        (go_wp2; all_goals (first | exact post_of (by rfl) (by rfl) (Below.refl _ _) (by rfl) | (exfalso; simp_all; done)))
    case r3g12 =>
      intro w5 hb
      refine over_vals (ds := [39, 42]) [(.bool d1), (cond d1 (.bool (!k)) undef)] (by kernel_rfl) ?_
      cases d1 <;> cases k
      · (obtain rfl : _ = d2 := HD3.out); exact post_run (.bool false) rfl (by kernel_rfl) (by kernel_rfl) (by kernel_rfl) (by kernel_rfl) (by kernel_rfl)
      · (obtain rfl : _ = d2 := HD3.out); exact post_run (.bool false) rfl (by kernel_rfl) (by kernel_rfl) (by kernel_rfl) (by kernel_rfl) (by kernel_rfl)
      · (obtain rfl : _ = d2 := HD3.out); exact post_run (.bool true) rfl (by kernel_rfl) (by kernel_rfl) (by kernel_rfl) (by kernel_rfl) (by kernel_rfl)
      · (obtain rfl : _ = d2 := HD3.out); exact post_run (.bool false) rfl (by kernel_rfl) (by kernel_rfl) (by kernel_rfl) (by kernel_rfl) (by kernel_rfl)
    case r3g13 =>
      intro w5 hb
      refine over_vals (ds := [43]) [(.bool d2)] (by kernel_rfl) ?_
      exact post_run (.bool d2) rfl (by kernel_rfl) (by kernel_rfl) (by kernel_rfl) (by kernel_rfl) (by kernel_rfl)
    case r3g14 =>
      intro w5 hb
      refine over_vals (ds := [44]) [(.bool d2)] (by kernel_rfl) ?_
      obtain ⟨c0, c1⟩ := (Ka.out.next hb).cells
      simp only [putAll, put_lit, List.set_cons_succ, List.set_cons_zero]
      cases d2
      · exact post_skip rfl (by kernel_rfl) (by kernel_rfl) (by kernel_rfl) (by kernel_rfl)
      · dsimp only [cond]
        (go_wp2; all_goals (first | exact post_of (by rfl) (by rfl) (Below.refl _ _) (by rfl) | (exfalso; simp_all; done)))
    case r3g15 =>
      intro w5 hb
      refine over_vals (ds := [44, 45]) [(.bool d2), (cond d2 (.agg #[.int .i32 a.1, .int .i32 a.2]) undef)] (by kernel_rfl) ?_
      have hT5 := Lib.hid (HT.out.next hb)
      simp only [putAll, put_lit, List.set_cons_succ, List.set_cons_zero]
      cases d2
      · exact post_skip rfl (by kernel_rfl) (by kernel_rfl) (by kernel_rfl) (by kernel_rfl)
      · dsimp only [cond]
        (go_wp2_with (go_at_call 12; go_must (refine (len_of hT5.out ia.out Hn1.out).mono ?_); rintro r w6 ⟨rfl, b6⟩); all_goals (first | exact post_of (by rfl) (by rfl) (Below.refl _ _) (by rfl) | exact post_of (by rfl) (by rfl) b6 (by rfl) | (exfalso; simp_all; done)))
    case r3g16 =>
      intro w5 hb
      refine over_vals (ds := [44, 46]) [(.bool d2), (cond d2 (.int .u32 n1) undef)] (by kernel_rfl) ?_
      simp only [putAll, put_lit, List.set_cons_succ, List.set_cons_zero]
      cases d2 <;> cases l1
      · exact post_skip rfl (by kernel_rfl) (by kernel_rfl) (by kernel_rfl) (by kernel_rfl)
      · exact post_skip rfl (by kernel_rfl) (by kernel_rfl) (by kernel_rfl) (by kernel_rfl)
      · dsimp only [cond]
        ((first | have hl := of_decide_eq_true Hl1.out | have hl := of_decide_eq_false Hl1.out); go_wp2; all_goals (first | exact post_of (by rfl) (by rfl) (Below.refl _ _) (by rfl) | (exfalso; simp_all; done)))
      · dsimp only [cond]
        ((first | have hl := of_decide_eq_true Hl1.out | have hl := of_decide_eq_false Hl1.out); go_wp2; all_goals (first | exact post_of (by rfl) (by rfl) (Below.refl _ _) (by rfl) | (exfalso; simp_all; done)))
    case r3g17 =>
      intro w5 hb
      refine over_vals (ds := [44, 47]) [(.bool d2), (cond d2 (.bool l1) undef)] (by kernel_rfl) ?_
      cases d2
      · exact post_skip rfl (by kernel_rfl) (by kernel_rfl) (by kernel_rfl) (by kernel_rfl)
      · exact post_run (.bool l1) rfl (by kernel_rfl) (by kernel_rfl) (by kernel_rfl) (by kernel_rfl) (by kernel_rfl)
    case r3g18 =>
      intro w5 hb
      refine over_vals (ds := [48]) [(cond d2 (.bool l1) undef)] (by kernel_rfl) ?_
      obtain ⟨c0, c1⟩ := (Kb.out.next hb).cells
      simp only [putAll, put_lit, List.set_cons_succ, List.set_cons_zero]
      cases d2 <;> cases l1
      · exact post_skip rfl (by kernel_rfl) (by kernel_rfl) (by kernel_rfl) (by kernel_rfl)
      · exact post_skip rfl (by kernel_rfl) (by kernel_rfl) (by kernel_rfl) (by kernel_rfl)
      · dsimp only [cond]
        (go_wp2; all_goals (first | exact post_of (by rfl) (by rfl) (Below.refl _ _) (by rfl) | (exfalso; simp_all; done)))
      · exact post_skip rfl (by kernel_rfl) (by kernel_rfl) (by kernel_rfl) (by kernel_rfl)
    case r3g19 =>
      intro w5 hb
      refine over_vals (ds := [48, 49]) [(cond d2 (.bool l1) undef), (cond (d2 && (!l1)) (.agg #[.int .i32 b.1, .int .i32 b.2]) undef)] (by kernel_rfl) ?_
      have hT5 := Lib.hid (HT.out.next hb)
      simp only [putAll, put_lit, List.set_cons_succ, List.set_cons_zero]
      cases d2 <;> cases l1
      · exact post_skip rfl (by kernel_rfl) (by kernel_rfl) (by kernel_rfl) (by kernel_rfl)
      · exact post_skip rfl (by kernel_rfl) (by kernel_rfl) (by kernel_rfl) (by kernel_rfl)
      · dsimp only [cond]
        (go_wp2_with (go_at_call 12; go_must (refine (len_of hT5.out ib.out Hn2.out).mono ?_); rintro r w6 ⟨rfl, b6⟩); all_goals (first | exact post_of (by rfl) (by rfl) (Below.refl _ _) (by rfl) | exact post_of (by rfl) (by rfl) b6 (by rfl) | (exfalso; simp_all; done)))
      · exact post_skip rfl (by kernel_rfl) (by kernel_rfl) (by kernel_rfl) (by kernel_rfl)
    case r3g20 =>
      intro w5 hb
      refine over_vals (ds := [48, 50]) [(cond d2 (.bool l1) undef), (cond (d2 && (!l1)) (.int .u32 n2) undef)] (by kernel_rfl) ?_
      simp only [putAll, put_lit, List.set_cons_succ, List.set_cons_zero]
      cases d2 <;> cases l1 <;> cases l2
      · exact post_skip rfl (by kernel_rfl) (by kernel_rfl) (by kernel_rfl) (by kernel_rfl)
      · exact post_skip rfl (by kernel_rfl) (by kernel_rfl) (by kernel_rfl) (by kernel_rfl)
      · exact post_skip rfl (by kernel_rfl) (by kernel_rfl) (by kernel_rfl) (by kernel_rfl)
      · exact post_skip rfl (by kernel_rfl) (by kernel_rfl) (by kernel_rfl) (by kernel_rfl)
      · dsimp only [cond]
        ((first | have hl := of_decide_eq_true Hl2.out | have hl := of_decide_eq_false Hl2.out); go_wp2; all_goals (first | exact post_of (by rfl) (by rfl) (Below.refl _ _) (by rfl) | (exfalso; simp_all; done)))
      · dsimp only [cond]
        ((first | have hl := of_decide_eq_true Hl2.out | have hl := of_decide_eq_false Hl2.out); go_wp2; all_goals (first | exact post_of (by rfl) (by rfl) (Below.refl _ _) (by rfl) | (exfalso; simp_all; done)))
      · exact post_skip rfl (by kernel_rfl) (by kernel_rfl) (by kernel_rfl) (by kernel_rfl)
      · exact post_skip rfl (by kernel_rfl) (by kernel_rfl) (by kernel_rfl) (by kernel_rfl)
    case r3g21 =>
      intro w5 hb
      refine over_vals (ds := [44, 48, 51]) [(.bool d2), (cond d2 (.bool l1) undef), (cond (d2 && (!l1)) (.bool l2) undef)] (by kernel_rfl) ?_
      cases d2 <;> cases l1 <;> cases l2
      · exact post_skip rfl (by kernel_rfl) (by kernel_rfl) (by kernel_rfl) (by kernel_rfl)
      · exact post_skip rfl (by kernel_rfl) (by kernel_rfl) (by kernel_rfl) (by kernel_rfl)
      · exact post_skip rfl (by kernel_rfl) (by kernel_rfl) (by kernel_rfl) (by kernel_rfl)
      · exact post_skip rfl (by kernel_rfl) (by kernel_rfl) (by kernel_rfl) (by kernel_rfl)
      · (obtain rfl : _ = l := HD4.out); exact post_run (.bool false) rfl (by kernel_rfl) (by kernel_rfl) (by kernel_rfl) (by kernel_rfl) (by kernel_rfl)
      · (obtain rfl : _ = l := HD4.out); exact post_run (.bool true) rfl (by kernel_rfl) (by kernel_rfl) (by kernel_rfl) (by kernel_rfl) (by kernel_rfl)
      · (obtain rfl : _ = l := HD4.out); exact post_run (.bool true) rfl (by kernel_rfl) (by kernel_rfl) (by kernel_rfl) (by kernel_rfl) (by kernel_rfl)
      · (obtain rfl : _ = l := HD4.out); exact post_run (.bool true) rfl (by kernel_rfl) (by kernel_rfl) (by kernel_rfl) (by kernel_rfl) (by kernel_rfl)
    case r3g22 =>
      intro w5 hb
      refine over_vals (ds := [44, 52]) [(.bool d2), (cond d2 (.bool l) undef)] (by kernel_rfl) ?_
      cases d2 <;> cases l
      · exact post_run (.bool false) rfl (by kernel_rfl) (by kernel_rfl) (by kernel_rfl) (by kernel_rfl) (by kernel_rfl)
      · exact post_run (.bool false) rfl (by kernel_rfl) (by kernel_rfl) (by kernel_rfl) (by kernel_rfl) (by kernel_rfl)
      · exact post_run (.bool false) rfl (by kernel_rfl) (by kernel_rfl) (by kernel_rfl) (by kernel_rfl) (by kernel_rfl)
      · exact absurd HD5.out (by decide)
  intro w3 b1
  simp only [List.drop_succ_cons, List.drop_zero]
  simp only [List.map_cons, List.map_nil, putAll, put_lit, List.set_cons_succ, List.set_cons_zero]
  have bw := bw.trans (b1.mono bw.size)
  have Ka := Lib.hid (Ka.out.next b1)
  have Kb := Lib.hid (Kb.out.next b1)
  have Kc := Lib.hid (Kc.out.next b1)
  have HT := Lib.hid (HT.out.next b1)
  clear b1
  go_upto_region 5 with fail
  refine wp_row_vals 14 [(54, (.agg #[.int .i32 a.1, .int .i32 a.2])), (55, (.agg #[.int .i32 b.1, .int .i32 b.2])), (56, (.bool y1)), (57, (.bool y1)), (58, (cond y1 (.agg #[.int .i32 b.1, .int .i32 b.2]) undef)), (59, (cond y1 (.agg #[.int .i32 c.1, .int .i32 c.2]) undef)), (60, (cond y1 (.bool y3) undef)), (61, (.bool d3)), (62, (.bool d3)), (63, (cond d3 (.agg #[.int .i32 a.1, .int .i32 a.2]) undef)), (64, (cond d3 (.agg #[.int .i32 c.1, .int .i32 c.2]) undef)), (65, (cond d3 (.bool y4) undef)), (66, (cond d3 (.bool (!y4)) undef)), (67, (.bool false))]
    [[], [], [54, 55], [56], [57], [57], [57, 58, 59], [57, 60], [61], [62], [62], [62, 63, 64], [62, 65], [62, 66]] (by kernel_rfl) (by kernel_rfl) (by kernel_rfl) ?_ ?_
  · simp only [List.take_succ_cons, List.take_zero]
    refine ⟨?r5g0, ?r5g1, ?r5g2, ?r5g3, ?r5g4, ?r5g5, ?r5g6, ?r5g7, ?r5g8, ?r5g9, ?r5g10, ?r5g11, ?r5g12, ?r5g13, trivial⟩
    case r5g0 =>
      intro w5 hb
      refine over_nil ?_
      obtain ⟨c0, c1⟩ := (Ka.out.next hb).cells
      (go_wp2; all_goals (first | exact post_of (by rfl) (by rfl) (Below.refl _ _) (by rfl) | (exfalso; simp_all; done)))
    case r5g1 =>
      intro w5 hb
      refine over_nil ?_
      obtain ⟨c0, c1⟩ := (Kb.out.next hb).cells
      (go_wp2; all_goals (first | exact post_of (by rfl) (by rfl) (Below.refl _ _) (by rfl) | (exfalso; simp_all; done)))
    case r5g2 =>
      intro w5 hb
      refine over_vals (ds := [54, 55]) [(.agg #[.int .i32 a.1, .int .i32 a.2]), (.agg #[.int .i32 b.1, .int .i32 b.2])] (by kernel_rfl) ?_
      have hT5 := Lib.hid (HT.out.next hb)
      simp only [putAll, put_lit, List.set_cons_succ, List.set_cons_zero]
      (go_wp2_with (go_at_call 14; go_must (refine (covers_of hT5.out ia.out ib.out Hc1.out).mono ?_); rintro r w6 ⟨rfl, b6⟩); all_goals (first | exact post_of (by rfl) (by rfl) (Below.refl _ _) (by rfl) | exact post_of (by rfl) (by rfl) b6 (by rfl) | (exfalso; simp_all; done)))
    case r5g3 =>
      intro w5 hb
      refine over_vals (ds := [56]) [(.bool y1)] (by kernel_rfl) ?_
      exact post_run (.bool y1) rfl (by kernel_rfl) (by kernel_rfl) (by kernel_rfl) (by kernel_rfl) (by kernel_rfl)
    case r5g4 =>
      intro w5 hb
      refine over_vals (ds := [57]) [(.bool y1)] (by kernel_rfl) ?_
      obtain ⟨c0, c1⟩ := (Kb.out.next hb).cells
      simp only [putAll, put_lit, List.set_cons_succ, List.set_cons_zero]
      cases y1
      · exact post_skip rfl (by kernel_rfl) (by kernel_rfl) (by kernel_rfl) (by kernel_rfl)
      · dsimp only [cond]
        (go_wp2; all_goals (first | exact post_of (by rfl) (by rfl) (Below.refl _ _) (by rfl) | (exfalso; simp_all; done)))
    case r5g5 =>
      intro w5 hb
      refine over_vals (ds := [57]) [(.bool y1)] (by kernel_rfl) ?_
      obtain ⟨c0, c1⟩ := (Kc.out.next hb).cells
      simp only [putAll, put_lit, List.set_cons_succ, List.set_cons_zero]
      cases y1
      · exact post_skip rfl (by kernel_rfl) (by kernel_rfl) (by kernel_rfl) (by kernel_rfl)
      · dsimp only [cond]
        (go_wp2; all_goals (first | exact post_of (by rfl) (by rfl) (Below.refl _ _) (by rfl) | (exfalso; simp_all; done)))
    case r5g6 =>
      intro w5 hb
      refine over_vals (ds := [57, 58, 59]) [(.bool y1), (cond y1 (.agg #[.int .i32 b.1, .int .i32 b.2]) undef), (cond y1 (.agg #[.int .i32 c.1, .int .i32 c.2]) undef)] (by kernel_rfl) ?_
      have hT5 := Lib.hid (HT.out.next hb)
      simp only [putAll, put_lit, List.set_cons_succ, List.set_cons_zero]
      cases y1
      · exact post_skip rfl (by kernel_rfl) (by kernel_rfl) (by kernel_rfl) (by kernel_rfl)
      · dsimp only [cond]
        (go_wp2_with (go_at_call 14; go_must (refine (covers_of hT5.out ib.out ic.out Hc3.out).mono ?_); rintro r w6 ⟨rfl, b6⟩); all_goals (first | exact post_of (by rfl) (by rfl) (Below.refl _ _) (by rfl) | exact post_of (by rfl) (by rfl) b6 (by rfl) | (exfalso; simp_all; done)))
    case r5g7 =>
      intro w5 hb
      refine over_vals (ds := [57, 60]) [(.bool y1), (cond y1 (.bool y3) undef)] (by kernel_rfl) ?_
      cases y1 <;> cases y3
      · (obtain rfl : _ = d3 := HD6.out); exact post_run (.bool false) rfl (by kernel_rfl) (by kernel_rfl) (by kernel_rfl) (by kernel_rfl) (by kernel_rfl)
      · (obtain rfl : _ = d3 := HD6.out); exact post_run (.bool false) rfl (by kernel_rfl) (by kernel_rfl) (by kernel_rfl) (by kernel_rfl) (by kernel_rfl)
      · (obtain rfl : _ = d3 := HD6.out); exact post_run (.bool false) rfl (by kernel_rfl) (by kernel_rfl) (by kernel_rfl) (by kernel_rfl) (by kernel_rfl)
      · (obtain rfl : _ = d3 := HD6.out); exact post_run (.bool true) rfl (by kernel_rfl) (by kernel_rfl) (by kernel_rfl) (by kernel_rfl) (by kernel_rfl)
    case r5g8 =>
      intro w5 hb
      refine over_vals (ds := [61]) [(.bool d3)] (by kernel_rfl) ?_
      exact post_run (.bool d3) rfl (by kernel_rfl) (by kernel_rfl) (by kernel_rfl) (by kernel_rfl) (by kernel_rfl)
    case r5g9 =>
      intro w5 hb
      refine over_vals (ds := [62]) [(.bool d3)] (by kernel_rfl) ?_
      obtain ⟨c0, c1⟩ := (Ka.out.next hb).cells
      simp only [putAll, put_lit, List.set_cons_succ, List.set_cons_zero]
      cases d3
      · exact post_skip rfl (by kernel_rfl) (by kernel_rfl) (by kernel_rfl) (by kernel_rfl)
      · dsimp only [cond]
        (go_wp2; all_goals (first | exact post_of (by rfl) (by rfl) (Below.refl _ _) (by rfl) | (exfalso; simp_all; done)))
    case r5g10 =>
      intro w5 hb
      refine over_vals (ds := [62]) [(.bool d3)] (by kernel_rfl) ?_
      obtain ⟨c0, c1⟩ := (Kc.out.next hb).cells
      simp only [putAll, put_lit, List.set_cons_succ, List.set_cons_zero]
      cases d3
      · exact post_skip rfl (by kernel_rfl) (by kernel_rfl) (by kernel_rfl) (by kernel_rfl)
      · dsimp only [cond]
        (go_wp2; all_goals (first | exact post_of (by rfl) (by rfl) (Below.refl _ _) (by rfl) | (exfalso; simp_all; done)))
    case r5g11 =>
      intro w5 hb
      refine over_vals (ds := [62, 63, 64]) [(.bool d3), (cond d3 (.agg #[.int .i32 a.1, .int .i32 a.2]) undef), (cond d3 (.agg #[.int .i32 c.1, .int .i32 c.2]) undef)] (by kernel_rfl) ?_
      have hT5 := Lib.hid (HT.out.next hb)
      simp only [putAll, put_lit, List.set_cons_succ, List.set_cons_zero]
      cases d3
      · exact post_skip rfl (by kernel_rfl) (by kernel_rfl) (by kernel_rfl) (by kernel_rfl)
      · dsimp only [cond]
        (go_wp2_with (go_at_call 14; go_must (refine (covers_of hT5.out ia.out ic.out Hc4.out).mono ?_); rintro r w6 ⟨rfl, b6⟩); all_goals (first | exact post_of (by rfl) (by rfl) (Below.refl _ _) (by rfl) | exact post_of (by rfl) (by rfl) b6 (by rfl) | (exfalso; simp_all; done)))
    case r5g12 =>
      intro w5 hb
      refine over_vals (ds := [62, 65]) [(.bool d3), (cond d3 (.bool y4) undef)] (by kernel_rfl) ?_
      cases d3 <;> cases y4
      · exact post_skip rfl (by kernel_rfl) (by kernel_rfl) (by kernel_rfl) (by kernel_rfl)
      · exact post_skip rfl (by kernel_rfl) (by kernel_rfl) (by kernel_rfl) (by kernel_rfl)
      · exact post_run (.bool true) rfl (by kernel_rfl) (by kernel_rfl) (by kernel_rfl) (by kernel_rfl) (by kernel_rfl)
      · exact post_run (.bool false) rfl (by kernel_rfl) (by kernel_rfl) (by kernel_rfl) (by kernel_rfl) (by kernel_rfl)
    case r5g13 =>
      intro w5 hb
      refine over_vals (ds := [62, 66]) [(.bool d3), (cond d3 (.bool (!y4)) undef)] (by kernel_rfl) ?_
      cases d3 <;> cases y4
      · exact post_run (.bool false) rfl (by kernel_rfl) (by kernel_rfl) (by kernel_rfl) (by kernel_rfl) (by kernel_rfl)
      · exact post_run (.bool false) rfl (by kernel_rfl) (by kernel_rfl) (by kernel_rfl) (by kernel_rfl) (by kernel_rfl)
      · exact absurd HD7.out (by decide)
      · exact post_run (.bool false) rfl (by kernel_rfl) (by kernel_rfl) (by kernel_rfl) (by kernel_rfl) (by kernel_rfl)
  intro w5 b1
  simp only [List.drop_succ_cons, List.drop_zero]
  simp only [List.map_cons, List.map_nil, putAll, put_lit, List.set_cons_succ, List.set_cons_zero]
  have bw := bw.trans (b1.mono bw.size)
  have Ka := Lib.hid (Ka.out.next b1)
  have Kb := Lib.hid (Kb.out.next b1)
  have Kc := Lib.hid (Kc.out.next b1)
  have HT := Lib.hid (HT.out.next b1)
  clear b1
  go_upto_region 7 with fail
  obtain ⟨c0, c1⟩ := Ka.out.cells
  obtain ⟨c2, c3⟩ := Kb.out.cells
  go_wp2_with fail
  clear c0 c1 c2 c3
  refine (meet_of HT.out ia.out ib.out Hr.out Hm.out).mono ?_
  rintro e w6 ⟨rfl, b1⟩
  have B1 := thn b1 (below_lit w6 (.cells #[.int .i32 r.1, .int .i32 r.2] 23))
  have bw := bw.trans (B1.mono bw.size)
  have Ka := Lib.hid (Ka.out.next B1)
  have Kb := Lib.hid (Kb.out.next B1)
  have Kc := Lib.hid (Kc.out.next B1)
  have HT := Lib.hid (HT.out.next B1)
  have Kx : Hid (Blk (w6.alloc (.cells #[.int .i32 r.1, .int .i32 r.2] 23)) w6.heap.size r) := Blk.lit w6 r.1 r.2
  clear b1 B1
  go_upto_region 8 with fail
  generalize w6.alloc _ = W6 at *
  generalize w6.heap.size = gx at Kx ⊢
  refine wp_row_vals_end 33 [(74, (.bool m)), (75, (.bool (!m))), (76, (.bool (!m))), (77, (cond m (.agg #[.int .i32 a.1, .int .i32 a.2]) undef)), (78, (cond m (.agg #[.int .i32 r.1, .int .i32 r.2]) undef)), (79, (cond m (.bool true) undef)), (80, (cond m (.bool true) undef)), (81, (cond m (.agg #[.int .i32 b.1, .int .i32 b.2]) undef)), (82, (cond m (.agg #[.int .i32 r.1, .int .i32 r.2]) undef)), (83, (cond m (.bool true) undef)), (84, (cond m (.bool true) undef)), (85, (cond m (.bool true) undef)), (86, (cond m (.agg #[.int .i32 a.1, .int .i32 a.2]) undef)), (87, (cond m (.agg #[.int .i32 c.1, .int .i32 c.2]) undef)), (88, (cond m (.bool y4) undef)), (89, (cond m (.bool (!y4)) undef)), (90, (cond m (.bool (!y4)) undef)), (91, (cond (m && y4) (.agg #[.int .i32 b.1, .int .i32 b.2]) undef)), (92, (cond (m && y4) (.agg #[.int .i32 c.1, .int .i32 c.2]) undef)), (93, (cond (m && y4) (.bool y3) undef)), (94, (cond (m && y4) (.bool (!y3)) undef)), (95, (cond m (.bool g1) undef)), (96, (cond m (.bool g1) undef)), (97, (cond (m && (!g1)) (.agg #[.int .i32 r.1, .int .i32 r.2]) undef)), (98, (cond (m && (!g1)) (.agg #[.int .i32 c.1, .int .i32 c.2]) undef)), (99, (cond (m && (!g1)) (.bool true) undef)), (100, (cond m (.bool true) undef)), (101, (cond m (.bool true) undef)), (102, (.bool true)), (103, (.bool true)), (104, (.bool true)), (105, (.bool true)), (8, (.bool true))]
    [[], [74], [75], [76], [76], [76, 77, 78], [76, 79], [80], [80], [80, 81, 82], [76, 80, 83], [76, 84], [85], [85], [85, 86, 87], [85, 88], [85, 89], [90], [90], [90, 91, 92], [90, 93], [85, 90, 94], [85, 95], [96], [96], [96, 97, 98], [85, 96, 99], [76, 85, 100], [76, 101], [102], [103], [103, 104], [105]] (by kernel_rfl) ?_ ?_
  rotate_left
  · intro w5 a hb hB
    have h0 : a.tmps.getD 8 undef = .bool true := hB.new 8 (of_decide_eq_true (by kernel_rfl))
    have hd : a.defers = [] := hB.defers
    clear hB
    simp only [List.drop_succ_cons, List.drop_zero]
    refine wpList_nil ?_
    go_wp2
    exact bodyPost_ret (v := .bool true) ((results_tmp Tryd.results5 a.tmps _ _).trans (by rw [h0])) hd ⟨rfl, bw.trans (hb.mono bw.size)⟩
  simp only [List.take_succ_cons, List.take_zero]
  
  refine ⟨?r8g0, ?r8g1, ?r8g2, ?r8g3, ?r8g4, ?r8g5, ?r8g6, ?r8g7, ?r8g8, ?r8g9, ?r8g10, ?r8g11, ?r8g12, ?r8g13, ?r8g14, ?r8g15, ?r8g16, ?r8g17, ?r8g18, ?r8g19, ?r8g20, ?r8g21, ?r8g22, ?r8g23, ?r8g24, ?r8g25, ?r8g26, ?r8g27, ?r8g28, ?r8g29, ?r8g30, ?r8g31, ?r8g32, trivial⟩
  case r8g0 =>
    intro w5 hb
    refine over_nil ?_
    exact post_run (.bool m) rfl (by kernel_rfl) (by kernel_rfl) (by kernel_rfl) (by kernel_rfl) (by kernel_rfl)
  case r8g1 =>
    intro w5 hb
    refine over_vals (ds := [74]) [(.bool m)] (by kernel_rfl) ?_
    cases m
    · exact post_run (.bool true) rfl (by kernel_rfl) (by kernel_rfl) (by kernel_rfl) (by kernel_rfl) (by kernel_rfl)
    · exact post_run (.bool false) rfl (by kernel_rfl) (by kernel_rfl) (by kernel_rfl) (by kernel_rfl) (by kernel_rfl)
  case r8g2 =>
    intro w5 hb
    refine over_vals (ds := [75]) [(.bool (!m))] (by kernel_rfl) ?_
    exact post_run (.bool (!m)) rfl (by kernel_rfl) (by kernel_rfl) (by kernel_rfl) (by kernel_rfl) (by kernel_rfl)
  case r8g3 =>
    intro w5 hb
    refine over_vals (ds := [76]) [(.bool (!m))] (by kernel_rfl) ?_
    obtain ⟨c0, c1⟩ := (Ka.out.next hb).cells
    simp only [putAll, put_lit, List.set_cons_succ, List.set_cons_zero]
    cases m
    · exact post_skip rfl (by kernel_rfl) (by kernel_rfl) (by kernel_rfl) (by kernel_rfl)
    · dsimp only [cond]
      (go_wp2; all_goals (first | exact post_of (by rfl) (by rfl) (Below.refl _ _) (by rfl) | (exfalso; simp_all; done)))
  case r8g4 =>
    intro w5 hb
    refine over_vals (ds := [76]) [(.bool (!m))] (by kernel_rfl) ?_
    obtain ⟨c0, c1⟩ := (Kx.out.next hb).cells
    simp only [putAll, put_lit, List.set_cons_succ, List.set_cons_zero]
    cases m
    · exact post_skip rfl (by kernel_rfl) (by kernel_rfl) (by kernel_rfl) (by kernel_rfl)
    · dsimp only [cond]
      (go_wp2; all_goals (first | exact post_of (by rfl) (by rfl) (Below.refl _ _) (by rfl) | (exfalso; simp_all; done)))
  case r8g5 =>
    intro w5 hb
    refine over_vals (ds := [76, 77, 78]) [(.bool (!m)), (cond m (.agg #[.int .i32 a.1, .int .i32 a.2]) undef), (cond m (.agg #[.int .i32 r.1, .int .i32 r.2]) undef)] (by kernel_rfl) ?_
    have hT5 := Lib.hid (HT.out.next hb)
    simp only [putAll, put_lit, List.set_cons_succ, List.set_cons_zero]
    cases m
    · exact post_skip rfl (by kernel_rfl) (by kernel_rfl) (by kernel_rfl) (by kernel_rfl)
    · dsimp only [cond]
      (go_wp2_with (go_at_call 14; go_must (refine (covers_of hT5.out ia.out ir.out (HA.out rfl)).mono ?_); rintro r w6 ⟨rfl, b6⟩); all_goals (first | exact post_of (by rfl) (by rfl) (Below.refl _ _) (by rfl) | exact post_of (by rfl) (by rfl) b6 (by rfl) | (exfalso; simp_all; done)))
  case r8g6 =>
    intro w5 hb
    refine over_vals (ds := [76, 79]) [(.bool (!m)), (cond m (.bool true) undef)] (by kernel_rfl) ?_
    cases m
    · exact post_skip rfl (by kernel_rfl) (by kernel_rfl) (by kernel_rfl) (by kernel_rfl)
    · exact post_run (.bool true) rfl (by kernel_rfl) (by kernel_rfl) (by kernel_rfl) (by kernel_rfl) (by kernel_rfl)
  case r8g7 =>
    intro w5 hb
    refine over_vals (ds := [80]) [(cond m (.bool true) undef)] (by kernel_rfl) ?_
    obtain ⟨c0, c1⟩ := (Kb.out.next hb).cells
    simp only [putAll, put_lit, List.set_cons_succ, List.set_cons_zero]
    cases m
    · exact post_skip rfl (by kernel_rfl) (by kernel_rfl) (by kernel_rfl) (by kernel_rfl)
    · dsimp only [cond]
      (go_wp2; all_goals (first | exact post_of (by rfl) (by rfl) (Below.refl _ _) (by rfl) | (exfalso; simp_all; done)))
  case r8g8 =>
    intro w5 hb
    refine over_vals (ds := [80]) [(cond m (.bool true) undef)] (by kernel_rfl) ?_
    obtain ⟨c0, c1⟩ := (Kx.out.next hb).cells
    simp only [putAll, put_lit, List.set_cons_succ, List.set_cons_zero]
    cases m
    · exact post_skip rfl (by kernel_rfl) (by kernel_rfl) (by kernel_rfl) (by kernel_rfl)
    · dsimp only [cond]
      (go_wp2; all_goals (first | exact post_of (by rfl) (by rfl) (Below.refl _ _) (by rfl) | (exfalso; simp_all; done)))
  case r8g9 =>
    intro w5 hb
    refine over_vals (ds := [80, 81, 82]) [(cond m (.bool true) undef), (cond m (.agg #[.int .i32 b.1, .int .i32 b.2]) undef), (cond m (.agg #[.int .i32 r.1, .int .i32 r.2]) undef)] (by kernel_rfl) ?_
    have hT5 := Lib.hid (HT.out.next hb)
    simp only [putAll, put_lit, List.set_cons_succ, List.set_cons_zero]
    cases m
    · exact post_skip rfl (by kernel_rfl) (by kernel_rfl) (by kernel_rfl) (by kernel_rfl)
    · dsimp only [cond]
      (go_wp2_with (go_at_call 14; go_must (refine (covers_of hT5.out ib.out ir.out (HB.out rfl)).mono ?_); rintro r w6 ⟨rfl, b6⟩); all_goals (first | exact post_of (by rfl) (by rfl) (Below.refl _ _) (by rfl) | exact post_of (by rfl) (by rfl) b6 (by rfl) | (exfalso; simp_all; done)))
  case r8g10 =>
    intro w5 hb
    refine over_vals (ds := [76, 80, 83]) [(.bool (!m)), (cond m (.bool true) undef), (cond m (.bool true) undef)] (by kernel_rfl) ?_
    cases m
    · exact post_skip rfl (by kernel_rfl) (by kernel_rfl) (by kernel_rfl) (by kernel_rfl)
    · exact post_run (.bool true) rfl (by kernel_rfl) (by kernel_rfl) (by kernel_rfl) (by kernel_rfl) (by kernel_rfl)
  case r8g11 =>
    intro w5 hb
    refine over_vals (ds := [76, 84]) [(.bool (!m)), (cond m (.bool true) undef)] (by kernel_rfl) ?_
    cases m
    · exact post_skip rfl (by kernel_rfl) (by kernel_rfl) (by kernel_rfl) (by kernel_rfl)
    · exact post_run (.bool true) rfl (by kernel_rfl) (by kernel_rfl) (by kernel_rfl) (by kernel_rfl) (by kernel_rfl)
  case r8g12 =>
    intro w5 hb
    refine over_vals (ds := [85]) [(cond m (.bool true) undef)] (by kernel_rfl) ?_
    obtain ⟨c0, c1⟩ := (Ka.out.next hb).cells
    simp only [putAll, put_lit, List.set_cons_succ, List.set_cons_zero]
    cases m
    · exact post_skip rfl (by kernel_rfl) (by kernel_rfl) (by kernel_rfl) (by kernel_rfl)
    · dsimp only [cond]
      (go_wp2; all_goals (first | exact post_of (by rfl) (by rfl) (Below.refl _ _) (by rfl) | (exfalso; simp_all; done)))
  case r8g13 =>
    intro w5 hb
    refine over_vals (ds := [85]) [(cond m (.bool true) undef)] (by kernel_rfl) ?_
    obtain ⟨c0, c1⟩ := (Kc.out.next hb).cells
    simp only [putAll, put_lit, List.set_cons_succ, List.set_cons_zero]
    cases m
    · exact post_skip rfl (by kernel_rfl) (by kernel_rfl) (by kernel_rfl) (by kernel_rfl)
    · dsimp only [cond]
      (go_wp2; all_goals (first | exact post_of (by rfl) (by rfl) (Below.refl _ _) (by rfl) | (exfalso; simp_all; done)))
  case r8g14 =>
    intro w5 hb
    refine over_vals (ds := [85, 86, 87]) [(cond m (.bool true) undef), (cond m (.agg #[.int .i32 a.1, .int .i32 a.2]) undef), (cond m (.agg #[.int .i32 c.1, .int .i32 c.2]) undef)] (by kernel_rfl) ?_
    have hT5 := Lib.hid (HT.out.next hb)
    simp only [putAll, put_lit, List.set_cons_succ, List.set_cons_zero]
    cases m
    · exact post_skip rfl (by kernel_rfl) (by kernel_rfl) (by kernel_rfl) (by kernel_rfl)
    · dsimp only [cond]
      (go_wp2_with (go_at_call 14; go_must (refine (covers_of hT5.out ia.out ic.out Hc4.out).mono ?_); rintro r w6 ⟨rfl, b6⟩); all_goals (first | exact post_of (by rfl) (by rfl) (Below.refl _ _) (by rfl) | exact post_of (by rfl) (by rfl) b6 (by rfl) | (exfalso; simp_all; done)))
  case r8g15 =>
    intro w5 hb
    refine over_vals (ds := [85, 88]) [(cond m (.bool true) undef), (cond m (.bool y4) undef)] (by kernel_rfl) ?_
    cases m <;> cases y4
    · exact post_skip rfl (by kernel_rfl) (by kernel_rfl) (by kernel_rfl) (by kernel_rfl)
    · exact post_skip rfl (by kernel_rfl) (by kernel_rfl) (by kernel_rfl) (by kernel_rfl)
    · exact post_run (.bool true) rfl (by kernel_rfl) (by kernel_rfl) (by kernel_rfl) (by kernel_rfl) (by kernel_rfl)
    · exact post_run (.bool false) rfl (by kernel_rfl) (by kernel_rfl) (by kernel_rfl) (by kernel_rfl) (by kernel_rfl)
  case r8g16 =>
    intro w5 hb
    refine over_vals (ds := [85, 89]) [(cond m (.bool true) undef), (cond m (.bool (!y4)) undef)] (by kernel_rfl) ?_
    cases m
    · exact post_skip rfl (by kernel_rfl) (by kernel_rfl) (by kernel_rfl) (by kernel_rfl)
    · exact post_run (.bool (!y4)) rfl (by kernel_rfl) (by kernel_rfl) (by kernel_rfl) (by kernel_rfl) (by kernel_rfl)
  case r8g17 =>
    intro w5 hb
    refine over_vals (ds := [90]) [(cond m (.bool (!y4)) undef)] (by kernel_rfl) ?_
    obtain ⟨c0, c1⟩ := (Kb.out.next hb).cells
    simp only [putAll, put_lit, List.set_cons_succ, List.set_cons_zero]
    cases m <;> cases y4
    · exact post_skip rfl (by kernel_rfl) (by kernel_rfl) (by kernel_rfl) (by kernel_rfl)
    · exact post_skip rfl (by kernel_rfl) (by kernel_rfl) (by kernel_rfl) (by kernel_rfl)
    · exact post_skip rfl (by kernel_rfl) (by kernel_rfl) (by kernel_rfl) (by kernel_rfl)
    · dsimp only [cond]
      (go_wp2; all_goals (first | exact post_of (by rfl) (by rfl) (Below.refl _ _) (by rfl) | (exfalso; simp_all; done)))
  case r8g18 =>
    intro w5 hb
    refine over_vals (ds := [90]) [(cond m (.bool (!y4)) undef)] (by kernel_rfl) ?_
    obtain ⟨c0, c1⟩ := (Kc.out.next hb).cells
    simp only [putAll, put_lit, List.set_cons_succ, List.set_cons_zero]
    cases m <;> cases y4
    · exact post_skip rfl (by kernel_rfl) (by kernel_rfl) (by kernel_rfl) (by kernel_rfl)
    · exact post_skip rfl (by kernel_rfl) (by kernel_rfl) (by kernel_rfl) (by kernel_rfl)
    · exact post_skip rfl (by kernel_rfl) (by kernel_rfl) (by kernel_rfl) (by kernel_rfl)
    · dsimp only [cond]
      (go_wp2; all_goals (first | exact post_of (by rfl) (by rfl) (Below.refl _ _) (by rfl) | (exfalso; simp_all; done)))
  case r8g19 =>
    intro w5 hb
    refine over_vals (ds := [90, 91, 92]) [(cond m (.bool (!y4)) undef), (cond (m && y4) (.agg #[.int .i32 b.1, .int .i32 b.2]) undef), (cond (m && y4) (.agg #[.int .i32 c.1, .int .i32 c.2]) undef)] (by kernel_rfl) ?_
    have hT5 := Lib.hid (HT.out.next hb)
    simp only [putAll, put_lit, List.set_cons_succ, List.set_cons_zero]
    cases m <;> cases y4
    · exact post_skip rfl (by kernel_rfl) (by kernel_rfl) (by kernel_rfl) (by kernel_rfl)
    · exact post_skip rfl (by kernel_rfl) (by kernel_rfl) (by kernel_rfl) (by kernel_rfl)
    · exact post_skip rfl (by kernel_rfl) (by kernel_rfl) (by kernel_rfl) (by kernel_rfl)
    · dsimp only [cond]
      (go_wp2_with (go_at_call 14; go_must (refine (covers_of hT5.out ib.out ic.out Hc3.out).mono ?_); rintro r w6 ⟨rfl, b6⟩); all_goals (first | exact post_of (by rfl) (by rfl) (Below.refl _ _) (by rfl) | exact post_of (by rfl) (by rfl) b6 (by rfl) | (exfalso; simp_all; done)))
  case r8g20 =>
    intro w5 hb
    refine over_vals (ds := [90, 93]) [(cond m (.bool (!y4)) undef), (cond (m && y4) (.bool y3) undef)] (by kernel_rfl) ?_
    cases m <;> cases y3 <;> cases y4
    · exact post_skip rfl (by kernel_rfl) (by kernel_rfl) (by kernel_rfl) (by kernel_rfl)
    · exact post_skip rfl (by kernel_rfl) (by kernel_rfl) (by kernel_rfl) (by kernel_rfl)
    · exact post_skip rfl (by kernel_rfl) (by kernel_rfl) (by kernel_rfl) (by kernel_rfl)
    · exact post_skip rfl (by kernel_rfl) (by kernel_rfl) (by kernel_rfl) (by kernel_rfl)
    · exact post_skip rfl (by kernel_rfl) (by kernel_rfl) (by kernel_rfl) (by kernel_rfl)
    · exact post_run (.bool true) rfl (by kernel_rfl) (by kernel_rfl) (by kernel_rfl) (by kernel_rfl) (by kernel_rfl)
    · exact post_skip rfl (by kernel_rfl) (by kernel_rfl) (by kernel_rfl) (by kernel_rfl)
    · exact post_run (.bool false) rfl (by kernel_rfl) (by kernel_rfl) (by kernel_rfl) (by kernel_rfl) (by kernel_rfl)
  case r8g21 =>
    intro w5 hb
    refine over_vals (ds := [85, 90, 94]) [(cond m (.bool true) undef), (cond m (.bool (!y4)) undef), (cond (m && y4) (.bool (!y3)) undef)] (by kernel_rfl) ?_
    cases m <;> cases y3 <;> cases y4
    · exact post_skip rfl (by kernel_rfl) (by kernel_rfl) (by kernel_rfl) (by kernel_rfl)
    · exact post_skip rfl (by kernel_rfl) (by kernel_rfl) (by kernel_rfl) (by kernel_rfl)
    · exact post_skip rfl (by kernel_rfl) (by kernel_rfl) (by kernel_rfl) (by kernel_rfl)
    · exact post_skip rfl (by kernel_rfl) (by kernel_rfl) (by kernel_rfl) (by kernel_rfl)
    · (obtain rfl : _ = g1 := HG.out); exact post_run (.bool true) rfl (by kernel_rfl) (by kernel_rfl) (by kernel_rfl) (by kernel_rfl) (by kernel_rfl)
    · (obtain rfl : _ = g1 := HG.out); exact post_run (.bool true) rfl (by kernel_rfl) (by kernel_rfl) (by kernel_rfl) (by kernel_rfl) (by kernel_rfl)
    · (obtain rfl : _ = g1 := HG.out); exact post_run (.bool true) rfl (by kernel_rfl) (by kernel_rfl) (by kernel_rfl) (by kernel_rfl) (by kernel_rfl)
    · (obtain rfl : _ = g1 := HG.out); exact post_run (.bool false) rfl (by kernel_rfl) (by kernel_rfl) (by kernel_rfl) (by kernel_rfl) (by kernel_rfl)
  case r8g22 =>
    intro w5 hb
    refine over_vals (ds := [85, 95]) [(cond m (.bool true) undef), (cond m (.bool g1) undef)] (by kernel_rfl) ?_
    cases m
    · exact post_skip rfl (by kernel_rfl) (by kernel_rfl) (by kernel_rfl) (by kernel_rfl)
    · exact post_run (.bool g1) rfl (by kernel_rfl) (by kernel_rfl) (by kernel_rfl) (by kernel_rfl) (by kernel_rfl)
  case r8g23 =>
    intro w5 hb
    refine over_vals (ds := [96]) [(cond m (.bool g1) undef)] (by kernel_rfl) ?_
    obtain ⟨c0, c1⟩ := (Kx.out.next hb).cells
    simp only [putAll, put_lit, List.set_cons_succ, List.set_cons_zero]
    cases g1 <;> cases m
    · exact post_skip rfl (by kernel_rfl) (by kernel_rfl) (by kernel_rfl) (by kernel_rfl)
    · dsimp only [cond]
      (go_wp2; all_goals (first | exact post_of (by rfl) (by rfl) (Below.refl _ _) (by rfl) | (exfalso; simp_all; done)))
    · exact post_skip rfl (by kernel_rfl) (by kernel_rfl) (by kernel_rfl) (by kernel_rfl)
    · exact post_skip rfl (by kernel_rfl) (by kernel_rfl) (by kernel_rfl) (by kernel_rfl)
  case r8g24 =>
    intro w5 hb
    refine over_vals (ds := [96]) [(cond m (.bool g1) undef)] (by kernel_rfl) ?_
    obtain ⟨c0, c1⟩ := (Kc.out.next hb).cells
    simp only [putAll, put_lit, List.set_cons_succ, List.set_cons_zero]
    cases g1 <;> cases m
    · exact post_skip rfl (by kernel_rfl) (by kernel_rfl) (by kernel_rfl) (by kernel_rfl)
    · dsimp only [cond]
      (go_wp2; all_goals (first | exact post_of (by rfl) (by rfl) (Below.refl _ _) (by rfl) | (exfalso; simp_all; done)))
    · exact post_skip rfl (by kernel_rfl) (by kernel_rfl) (by kernel_rfl) (by kernel_rfl)
    · exact post_skip rfl (by kernel_rfl) (by kernel_rfl) (by kernel_rfl) (by kernel_rfl)
  case r8g25 =>
    intro w5 hb
    refine over_vals (ds := [96, 97, 98]) [(cond m (.bool g1) undef), (cond (m && (!g1)) (.agg #[.int .i32 r.1, .int .i32 r.2]) undef), (cond (m && (!g1)) (.agg #[.int .i32 c.1, .int .i32 c.2]) undef)] (by kernel_rfl) ?_
    have hT5 := Lib.hid (HT.out.next hb)
    simp only [putAll, put_lit, List.set_cons_succ, List.set_cons_zero]
    cases g1 <;> cases m
    · exact post_skip rfl (by kernel_rfl) (by kernel_rfl) (by kernel_rfl) (by kernel_rfl)
    · dsimp only [cond]
      (go_wp2_with (go_at_call 14; go_must (refine (covers_of hT5.out ir.out ic.out (HC.out rfl rfl)).mono ?_); rintro r w6 ⟨rfl, b6⟩); all_goals (first | exact post_of (by rfl) (by rfl) (Below.refl _ _) (by rfl) | exact post_of (by rfl) (by rfl) b6 (by rfl) | (exfalso; simp_all; done)))
    · exact post_skip rfl (by kernel_rfl) (by kernel_rfl) (by kernel_rfl) (by kernel_rfl)
    · exact post_skip rfl (by kernel_rfl) (by kernel_rfl) (by kernel_rfl) (by kernel_rfl)
  case r8g26 =>
    intro w5 hb
    refine over_vals (ds := [85, 96, 99]) [(cond m (.bool true) undef), (cond m (.bool g1) undef), (cond (m && (!g1)) (.bool true) undef)] (by kernel_rfl) ?_
    cases g1 <;> cases m
    · exact post_skip rfl (by kernel_rfl) (by kernel_rfl) (by kernel_rfl) (by kernel_rfl)
    · exact post_run (.bool true) rfl (by kernel_rfl) (by kernel_rfl) (by kernel_rfl) (by kernel_rfl) (by kernel_rfl)
    · exact post_skip rfl (by kernel_rfl) (by kernel_rfl) (by kernel_rfl) (by kernel_rfl)
    · exact post_run (.bool true) rfl (by kernel_rfl) (by kernel_rfl) (by kernel_rfl) (by kernel_rfl) (by kernel_rfl)
  case r8g27 =>
    intro w5 hb
    refine over_vals (ds := [76, 85, 100]) [(.bool (!m)), (cond m (.bool true) undef), (cond m (.bool true) undef)] (by kernel_rfl) ?_
    cases m
    · exact post_skip rfl (by kernel_rfl) (by kernel_rfl) (by kernel_rfl) (by kernel_rfl)
    · exact post_run (.bool true) rfl (by kernel_rfl) (by kernel_rfl) (by kernel_rfl) (by kernel_rfl) (by kernel_rfl)
  case r8g28 =>
    intro w5 hb
    refine over_vals (ds := [76, 101]) [(.bool (!m)), (cond m (.bool true) undef)] (by kernel_rfl) ?_
    cases m
    · exact post_run (.bool true) rfl (by kernel_rfl) (by kernel_rfl) (by kernel_rfl) (by kernel_rfl) (by kernel_rfl)
    · exact post_run (.bool true) rfl (by kernel_rfl) (by kernel_rfl) (by kernel_rfl) (by kernel_rfl) (by kernel_rfl)
  case r8g29 =>
    intro w5 hb
    refine over_vals (ds := [102]) [(.bool true)] (by kernel_rfl) ?_
    exact post_run (.bool true) rfl (by kernel_rfl) (by kernel_rfl) (by kernel_rfl) (by kernel_rfl) (by kernel_rfl)
  case r8g30 =>
    intro w5 hb
    refine over_vals (ds := [103]) [(.bool true)] (by kernel_rfl) ?_
    have hT5 := Lib.hid (HT.out.next hb)
    simp only [putAll, put_lit, List.set_cons_succ, List.set_cons_zero]
    (go_wp2_with (go_at_call 18; go_must (refine (awake_any _ hT5.out).mono ?_); rintro r w6 ⟨rfl, b6⟩); all_goals (first | exact post_of (by rfl) (by rfl) (Below.refl _ _) (by rfl) | exact post_of (by rfl) (by rfl) b6 (by rfl) | (exfalso; simp_all; done)))
  case r8g31 =>
    intro w5 hb
    refine over_vals (ds := [103, 104]) [(.bool true), (.bool true)] (by kernel_rfl) ?_
    exact post_run (.bool true) rfl (by kernel_rfl) (by kernel_rfl) (by kernel_rfl) (by kernel_rfl) (by kernel_rfl)
  case r8g32 =>
    intro w5 hb
    refine over_vals (ds := [105]) [(.bool true)] (by kernel_rfl) ?_
    exact post_run (.bool true) rfl (by kernel_rfl) (by kernel_rfl) (by kernel_rfl) (by kernel_rfl) (by kernel_rfl)
end Go.Proofs.YtofphdodihbijaaDoor
