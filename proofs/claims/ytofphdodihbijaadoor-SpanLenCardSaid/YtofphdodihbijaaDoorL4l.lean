/- Layer 4: the walk of SpanLen. -/
import Derived.Test.YtofphdodihbijaaDoorSt0c
import Derived.Test.YtofphdodihbijaaDoorSte
import Derived.Deep.Cut
namespace Go.Proofs.YtofphdodihbijaaDoor
open Go.RowKit
set_option linter.unusedVariables false
set_option maxRecDepth 100000 in
set_option maxHeartbeats 8000000 in
theorem slen_none (s : Int × Int) (x : Int) (w : World) (hT : Tab w) (is' : inR s) (hx0 : -2147483648 ≤ x) (hx1 : x ≤ 2147483647) (he : s.2 < s.1) :
    Calls Tryd.prog 7 #[(.agg #[.int .i32 s.1, .int .i32 s.2]), .int .i32 x] w fun e w' => e = .returned (.bool true) ∧ Below w.heap.size w w' := by
  have Hn : Hid (lenP s = 0) := if_pos he
  have is' := Lib.hid is'
  have bw : Below w.heap.size w (w.alloc (.cells #[.int .i32 s.1, .int .i32 s.2] 23)) := (below_lit w (.cells #[.int .i32 s.1, .int .i32 s.2] 23))
  have Ks : Hid (Blk (w.alloc (.cells #[.int .i32 s.1, .int .i32 s.2] 23)) (w.heap.size) s) := by
    have := Blk.lit w s.1 s.2
    unfold Hid
    simpa using this
  have HT : Hid (Tab (w.alloc (.cells #[.int .i32 s.1, .int .i32 s.2] 23))) := hT.next bw
  clear hT
  go_enter Tryd.func7, Tryd.ntmps7
  go_wp2_with fail
  generalize w.alloc _ = W at *
  generalize w.heap.size = gs at Ks ⊢
  refine (len_of HT.out is'.out Hn.out).mono ?_
  rintro e w1 ⟨rfl, b1⟩
  have bw := bw.trans (b1.mono bw.size)
  have Ks := Lib.hid (Ks.out.next b1)
  have HT := Lib.hid (HT.out.next b1)
  clear b1
  obtain ⟨c0, c1⟩ := Ks.out.cells
  go_wp2_with fail
  clear c0 c1
  refine (awake_any _ HT.out).mono ?_
  rintro e w5 ⟨rfl, b1⟩
  go_wp2
  go_ret
  exact ⟨rfl, thn bw b1⟩
set_option maxRecDepth 100000 in
set_option maxHeartbeats 8000000 in
theorem slen_some (s : Int × Int) (x : Int) (w : World) (hT : Tab w) (is' : inR s) (hx0 : -2147483648 ≤ x) (hx1 : x ≤ 2147483647) (he : s.1 ≤ s.2) :
    Calls Tryd.prog 7 #[(.agg #[.int .i32 s.1, .int .i32 s.2]), .int .i32 x] w fun e w' => e = .returned (.bool true) ∧ Below w.heap.size w w' := by
  obtain ⟨⟨hp0, hp1⟩, hp2, hp3⟩ := id is'
  obtain ⟨n, Hn⟩ : ∃ uu, Hid (lenP s = uu) := ⟨_, rfl⟩
  obtain ⟨k1, Hk1⟩ : ∃ uu, Hid (decide (s.2 < 2147483647) = uu) := ⟨_, rfl⟩
  obtain ⟨k2, Hk2⟩ : ∃ uu, Hid (decide (-2147483648 < s.1) = uu) := ⟨_, rfl⟩
  obtain ⟨q, Hem⟩ : ∃ uu, Hid ((if 4294967295 < n + 1 then 4294967295 else n + 1 : Int) = uu) := ⟨_, rfl⟩
  obtain ⟨z, Hz⟩ : ∃ uu, Hid (hasB s x = uu) := ⟨_, rfl⟩
  obtain ⟨k3, Hk3⟩ : ∃ uu, Hid (decide (x = s.2) = uu) := ⟨_, rfl⟩
  obtain ⟨w0, HW0⟩ : ∃ uu, Hid (((!z) || k3) = uu) := ⟨_, rfl⟩
  obtain ⟨y1, Hy1⟩ : ∃ uu, Hid (lenP (s.1, x) = uu) := ⟨_, rfl⟩
  obtain ⟨y2, Hy2⟩ : ∃ uu, Hid (lenP (x + 1, s.2) = uu) := ⟨_, rfl⟩
  have hn : 1 ≤ n ∧ n ≤ 4294967295 := by
    have h1 := lenR s
    have h2 := (len_pos s).2 he
    rw [Hn.out] at h1 h2
    omega
  obtain ⟨hn0, hn1⟩ := hn
  have hq : 0 ≤ q ∧ q ≤ 4294967295 := by
    rw [← Hem.out]
    split <;> omega
  obtain ⟨hq0, hq1⟩ := hq
  have hy1 : 0 ≤ y1 ∧ y1 ≤ 4294967295 := by rw [← Hy1.out]; exact lenR _
  have hy2 : 0 ≤ y2 ∧ y2 ≤ 4294967295 := by rw [← Hy2.out]; exact lenR _
  obtain ⟨hy10, hy11⟩ := hy1
  obtain ⟨hy20, hy21⟩ := hy2
  have HR1 : Hid (k1 = true → inR (s.1, s.2 + 1)) := fun h => by
    rw [← Hk1.out, decide_eq_true_eq] at h
    exact ⟨⟨by simp only; omega, by simp only; omega⟩, by simp only; omega, by simp only; omega⟩
  have HQ1 : Hid (k1 = true → lenP (s.1, s.2 + 1) = q) := fun _ => by
    rw [len_more (a := s.1) (b := s.2) he (by omega), show lenP (s.1, s.2) = n from Hn.out]; exact Hem.out
  have HR2 : Hid (k2 = true → inR (s.1 - 1, s.2)) := fun h => by
    rw [← Hk2.out, decide_eq_true_eq] at h
    exact ⟨⟨by simp only; omega, by simp only; omega⟩, by simp only; omega, by simp only; omega⟩
  have HQ2 : Hid (k2 = true → lenP (s.1 - 1, s.2) = q) := fun _ => by
    rw [len_more (a := s.1) (b := s.2) he (by omega), show lenP (s.1, s.2) = n from Hn.out]; exact Hem.out
  have HR3 : Hid (inR (s.1, s.1)) := ⟨⟨hp0, hp1⟩, hp0, hp1⟩
  have HQ3 : Hid (lenP (s.1, s.1) = 1) := len_one _
  have HR4 : Hid (inR (s.1, x)) := ⟨⟨hp0, hp1⟩, hx0, hx1⟩
  have HW : Hid (w0 = false → s.1 ≤ x ∧ x < s.2) := fun h => by
    rw [← HW0.out, Bool.or_eq_false_iff, Bool.not_eq_false', ← Hz.out, has_iff, ← Hk3.out, decide_eq_false_iff_not] at h
    omega
  have HE : Hid (w0 = false → (if 4294967295 < y1 + y2 then 4294967295 else y1 + y2 : Int) = n) := fun h => by
    obtain ⟨h1, h2⟩ := HW.out h
    rw [← Hy1.out, ← Hy2.out, ← Hn.out]
    exact len_cut h1 h2
  have is' := Lib.hid is'
  have bw : Below w.heap.size w (w.alloc (.cells #[.int .i32 s.1, .int .i32 s.2] 23)) := (below_lit w (.cells #[.int .i32 s.1, .int .i32 s.2] 23))
  have Ks : Hid (Blk (w.alloc (.cells #[.int .i32 s.1, .int .i32 s.2] 23)) (w.heap.size) s) := by
    have := Blk.lit w s.1 s.2
    unfold Hid
    simpa using this
  have HT : Hid (Tab (w.alloc (.cells #[.int .i32 s.1, .int .i32 s.2] 23))) := hT.next bw
  clear hT
  go_enter Tryd.func7, Tryd.ntmps7
  go_wp2_with fail
  generalize w.alloc _ = W at *
  generalize w.heap.size = gs at Ks ⊢
  refine (len_of HT.out is'.out Hn.out).mono ?_
  rintro e w1 ⟨rfl, b1⟩
  have bw := bw.trans (b1.mono bw.size)
  have Ks := Lib.hid (Ks.out.next b1)
  have HT := Lib.hid (HT.out.next b1)
  clear b1
  obtain ⟨c0, c1⟩ := Ks.out.cells
  go_upto_region 4 with fail
  clear c0 c1
  refine wp_row_vals 45 [(21, (.pointer (some ⟨gs, 1, none⟩))), (22, (.int .i32 s.2)), (23, (.bool k1)), (24, (.bool k1)), (25, (cond k1 (.pointer (some ⟨gs, 0, none⟩)) undef)), (26, (cond k1 (.int .i32 s.1) undef)), (27, (cond k1 (.pointer (some ⟨gs, 1, none⟩)) undef)), (28, (cond k1 (.int .i32 s.2) undef)), (29, (cond k1 (.int .i32 (s.2 + 1)) undef)), (30, (cond k1 (.agg #[.int .i32 s.1, .int .i32 (s.2 + 1)]) undef)), (31, (cond k1 (.int .u32 q) undef)), (32, (cond k1 (.int .i64 q) undef)), (33, (cond k1 (.int .i64 n) undef)), (34, (cond k1 (.int .i64 (n + 1)) undef)), (35, (cond k1 (.int .i64 q) undef)), (36, (cond k1 (.bool false) undef)), (37, (.bool false)), (38, (.bool false)), (39, (.pointer (some ⟨gs, 0, none⟩))), (40, (.int .i32 s.1)), (41, (.bool k2)), (42, (.bool k2)), (43, (cond k2 (.pointer (some ⟨gs, 0, none⟩)) undef)), (44, (cond k2 (.int .i32 s.1) undef)), (45, (cond k2 (.int .i32 (s.1 - 1)) undef)), (46, (cond k2 (.pointer (some ⟨gs, 1, none⟩)) undef)), (47, (cond k2 (.int .i32 s.2) undef)), (48, (cond k2 (.agg #[.int .i32 (s.1 - 1), .int .i32 s.2]) undef)), (49, (cond k2 (.int .u32 q) undef)), (50, (cond k2 (.int .i64 q) undef)), (51, (cond k2 (.int .i64 n) undef)), (52, (cond k2 (.int .i64 (n + 1)) undef)), (53, (cond k2 (.int .i64 q) undef)), (54, (cond k2 (.bool false) undef)), (55, (.bool false)), (56, (.bool false)), (57, (.bool false)), (58, (.pointer (some ⟨gs, 0, none⟩))), (59, (.int .i32 s.1)), (60, (.pointer (some ⟨gs, 0, none⟩))), (61, (.int .i32 s.1)), (62, (.agg #[.int .i32 s.1, .int .i32 s.1])), (63, (.int .u32 1)), (64, (.bool false)), (65, (.bool false))]
    [[], [21], [22], [23], [24], [24, 25], [24], [24, 27], [24, 28], [24, 26, 29], [24, 30], [24, 31], [24], [24, 33], [24, 34], [24, 32, 35], [24, 36], [37], [38], [38, 39], [38, 40], [38, 41], [42], [42, 43], [42, 44], [42], [42, 46], [42, 45, 47], [42, 48], [42, 49], [42], [42, 51], [42, 52], [42, 50, 53], [38, 42, 54], [38, 55], [56], [57], [57, 58], [57], [57, 60], [57, 59, 61], [57, 62], [57, 63], [57, 64]] (by kernel_rfl) (by kernel_rfl) (by kernel_rfl) ?_ ?_
  · simp only [List.take_succ_cons, List.take_zero]
    refine ⟨?r4g0, ?r4g1, ?r4g2, ?r4g3, ?r4g4, ?r4g5, ?r4g6, ?r4g7, ?r4g8, ?r4g9, ?r4g10, ?r4g11, ?r4g12, ?r4g13, ?r4g14, ?r4g15, ?r4g16, ?r4g17, ?r4g18, ?r4g19, ?r4g20, ?r4g21, ?r4g22, ?r4g23, ?r4g24, ?r4g25, ?r4g26, ?r4g27, ?r4g28, ?r4g29, ?r4g30, ?r4g31, ?r4g32, ?r4g33, ?r4g34, ?r4g35, ?r4g36, ?r4g37, ?r4g38, ?r4g39, ?r4g40, ?r4g41, ?r4g42, ?r4g43, ?r4g44, trivial⟩
    case r4g0 =>
      intro w5 hb
      refine over_nil ?_
      (go_wp2; all_goals (first | exact post_of (by rfl) (by rfl) (Below.refl _ _) (by rfl) | (exfalso; simp_all; done)))
    case r4g1 =>
      intro w5 hb
      refine over_vals (ds := [21]) [(.pointer (some ⟨gs, 1, none⟩))] (by kernel_rfl) ?_
      obtain ⟨c0, c1⟩ := (Ks.out.next hb).cells
      simp only [putAll, put_lit, List.set_cons_succ, List.set_cons_zero]
      (go_wp2; all_goals (first | exact post_of (by rfl) (by rfl) (Below.refl _ _) (by rfl) | (exfalso; simp_all; done)))
    case r4g2 =>
      intro w5 hb
      refine over_vals (ds := [22]) [(.int .i32 s.2)] (by kernel_rfl) ?_
      simp only [putAll, put_lit, List.set_cons_succ, List.set_cons_zero]
      cases k1
      · dsimp only [cond]
        ((first | have hl := of_decide_eq_true Hk1.out | have hl := of_decide_eq_false Hk1.out); go_wp2; all_goals (first | exact post_of (by rfl) (by rfl) (Below.refl _ _) (by rfl) | (exfalso; simp_all; done)))
      · dsimp only [cond]
        ((first | have hl := of_decide_eq_true Hk1.out | have hl := of_decide_eq_false Hk1.out); go_wp2; all_goals (first | exact post_of (by rfl) (by rfl) (Below.refl _ _) (by rfl) | (exfalso; simp_all; done)))
    case r4g3 =>
      intro w5 hb
      refine over_vals (ds := [23]) [(.bool k1)] (by kernel_rfl) ?_
      exact post_run (.bool k1) rfl (by kernel_rfl) (by kernel_rfl) (by kernel_rfl) (by kernel_rfl) (by kernel_rfl)
    case r4g4 =>
      intro w5 hb
      refine over_vals (ds := [24]) [(.bool k1)] (by kernel_rfl) ?_
      simp only [putAll, put_lit, List.set_cons_succ, List.set_cons_zero]
      cases k1
      · exact post_skip rfl (by kernel_rfl) (by kernel_rfl) (by kernel_rfl) (by kernel_rfl)
      · dsimp only [cond]
        (go_wp2; all_goals (first | exact post_of (by rfl) (by rfl) (Below.refl _ _) (by rfl) | (exfalso; simp_all; done)))
    case r4g5 =>
      intro w5 hb
      refine over_vals (ds := [24, 25]) [(.bool k1), (cond k1 (.pointer (some ⟨gs, 0, none⟩)) undef)] (by kernel_rfl) ?_
      obtain ⟨c0, c1⟩ := (Ks.out.next hb).cells
      simp only [putAll, put_lit, List.set_cons_succ, List.set_cons_zero]
      cases k1
      · exact post_skip rfl (by kernel_rfl) (by kernel_rfl) (by kernel_rfl) (by kernel_rfl)
      · dsimp only [cond]
        (go_wp2; all_goals (first | exact post_of (by rfl) (by rfl) (Below.refl _ _) (by rfl) | (exfalso; simp_all; done)))
    case r4g6 =>
      intro w5 hb
      refine over_vals (ds := [24]) [(.bool k1)] (by kernel_rfl) ?_
      simp only [putAll, put_lit, List.set_cons_succ, List.set_cons_zero]
      cases k1
      · exact post_skip rfl (by kernel_rfl) (by kernel_rfl) (by kernel_rfl) (by kernel_rfl)
      · dsimp only [cond]
        (go_wp2; all_goals (first | exact post_of (by rfl) (by rfl) (Below.refl _ _) (by rfl) | (exfalso; simp_all; done)))
    case r4g7 =>
      intro w5 hb
      refine over_vals (ds := [24, 27]) [(.bool k1), (cond k1 (.pointer (some ⟨gs, 1, none⟩)) undef)] (by kernel_rfl) ?_
      obtain ⟨c0, c1⟩ := (Ks.out.next hb).cells
      simp only [putAll, put_lit, List.set_cons_succ, List.set_cons_zero]
      cases k1
      · exact post_skip rfl (by kernel_rfl) (by kernel_rfl) (by kernel_rfl) (by kernel_rfl)
      · dsimp only [cond]
        (go_wp2; all_goals (first | exact post_of (by rfl) (by rfl) (Below.refl _ _) (by rfl) | (exfalso; simp_all; done)))
    case r4g8 =>
      intro w5 hb
      refine over_vals (ds := [24, 28]) [(.bool k1), (cond k1 (.int .i32 s.2) undef)] (by kernel_rfl) ?_
      simp only [putAll, put_lit, List.set_cons_succ, List.set_cons_zero]
      cases k1
      · exact post_skip rfl (by kernel_rfl) (by kernel_rfl) (by kernel_rfl) (by kernel_rfl)
      · dsimp only [cond]
        ((have hl := of_decide_eq_true Hk1.out); go_wp2; all_goals (first | exact post_of (by rfl) (by rfl) (Below.refl _ _) (by rfl) | (exfalso; simp_all; done)))
    case r4g9 =>
      intro w5 hb
      refine over_vals (ds := [24, 26, 29]) [(.bool k1), (cond k1 (.int .i32 s.1) undef), (cond k1 (.int .i32 (s.2 + 1)) undef)] (by kernel_rfl) ?_
      simp only [putAll, put_lit, List.set_cons_succ, List.set_cons_zero]
      cases k1
      · exact post_skip rfl (by kernel_rfl) (by kernel_rfl) (by kernel_rfl) (by kernel_rfl)
      · dsimp only [cond]
        (go_wp2_with (go_at_call 20; go_must (refine (sp_any s.1 (s.2 + 1) _).mono ?_); rintro r w6 ⟨rfl, b6⟩); all_goals (first | exact post_of (by rfl) (by rfl) (Below.refl _ _) (by rfl) | exact post_of (by rfl) (by rfl) b6 (by rfl) | (exfalso; simp_all; done)))
    case r4g10 =>
      intro w5 hb
      refine over_vals (ds := [24, 30]) [(.bool k1), (cond k1 (.agg #[.int .i32 s.1, .int .i32 (s.2 + 1)]) undef)] (by kernel_rfl) ?_
      have hT5 := Lib.hid (HT.out.next hb)
      simp only [putAll, put_lit, List.set_cons_succ, List.set_cons_zero]
      cases k1
      · exact post_skip rfl (by kernel_rfl) (by kernel_rfl) (by kernel_rfl) (by kernel_rfl)
      · dsimp only [cond]
        (go_wp2_with (go_at_call 12; go_must (refine (len_of (p := (s.1, s.2 + 1)) hT5.out (HR1.out rfl) (HQ1.out rfl)).mono ?_); rintro r w6 ⟨rfl, b6⟩); all_goals (first | exact post_of (by rfl) (by rfl) (Below.refl _ _) (by rfl) | exact post_of (by rfl) (by rfl) b6 (by rfl) | (exfalso; simp_all; done)))
    case r4g11 =>
      intro w5 hb
      refine over_vals (ds := [24, 31]) [(.bool k1), (cond k1 (.int .u32 q) undef)] (by kernel_rfl) ?_
      simp only [putAll, put_lit, List.set_cons_succ, List.set_cons_zero]
      cases k1
      · exact post_skip rfl (by kernel_rfl) (by kernel_rfl) (by kernel_rfl) (by kernel_rfl)
      · dsimp only [cond]
        (go_wp2; all_goals (first | exact post_of (by rfl) (by rfl) (Below.refl _ _) (by rfl) | (exfalso; simp_all; done)))
    case r4g12 =>
      intro w5 hb
      refine over_vals (ds := [24]) [(.bool k1)] (by kernel_rfl) ?_
      cases k1
      · exact post_skip rfl (by kernel_rfl) (by kernel_rfl) (by kernel_rfl) (by kernel_rfl)
      · exact post_run (.int .i64 n) rfl (by kernel_rfl) (by kernel_rfl) (by kernel_rfl) (by kernel_rfl) (by kernel_rfl)
    case r4g13 =>
      intro w5 hb
      refine over_vals (ds := [24, 33]) [(.bool k1), (cond k1 (.int .i64 n) undef)] (by kernel_rfl) ?_
      simp only [putAll, put_lit, List.set_cons_succ, List.set_cons_zero]
      cases k1
      · exact post_skip rfl (by kernel_rfl) (by kernel_rfl) (by kernel_rfl) (by kernel_rfl)
      · dsimp only [cond]
        (go_wp2; all_goals (first | exact post_of (by rfl) (by rfl) (Below.refl _ _) (by rfl) | (exfalso; simp_all; done)))
    case r4g14 =>
      intro w5 hb
      refine over_vals (ds := [24, 34]) [(.bool k1), (cond k1 (.int .i64 (n + 1)) undef)] (by kernel_rfl) ?_
      have em := Hem.out
      simp only [putAll, put_lit, List.set_cons_succ, List.set_cons_zero]
      cases k1
      · exact post_skip rfl (by kernel_rfl) (by kernel_rfl) (by kernel_rfl) (by kernel_rfl)
      · dsimp only [cond]
        (go_wp2; all_goals (first | exact post_of (by rfl) (by rfl) (Below.refl _ _) (by rfl) | (exfalso; simp_all; done)))
    case r4g15 =>
      intro w5 hb
      refine over_vals (ds := [24, 32, 35]) [(.bool k1), (cond k1 (.int .i64 q) undef), (cond k1 (.int .i64 q) undef)] (by kernel_rfl) ?_
      simp only [putAll, put_lit, List.set_cons_succ, List.set_cons_zero]
      cases k1
      · exact post_skip rfl (by kernel_rfl) (by kernel_rfl) (by kernel_rfl) (by kernel_rfl)
      · dsimp only [cond]
        (go_wp2; all_goals (first | exact post_of (by rfl) (by rfl) (Below.refl _ _) (by rfl) | (exfalso; simp_all; done)))
    case r4g16 =>
      intro w5 hb
      refine over_vals (ds := [24, 36]) [(.bool k1), (cond k1 (.bool false) undef)] (by kernel_rfl) ?_
      cases k1
      · exact post_run (.bool false) rfl (by kernel_rfl) (by kernel_rfl) (by kernel_rfl) (by kernel_rfl) (by kernel_rfl)
      · exact post_run (.bool false) rfl (by kernel_rfl) (by kernel_rfl) (by kernel_rfl) (by kernel_rfl) (by kernel_rfl)
    case r4g17 =>
      intro w5 hb
      refine over_vals (ds := [37]) [(.bool false)] (by kernel_rfl) ?_
      exact post_run (.bool false) rfl (by kernel_rfl) (by kernel_rfl) (by kernel_rfl) (by kernel_rfl) (by kernel_rfl)
    case r4g18 =>
      intro w5 hb
      refine over_vals (ds := [38]) [(.bool false)] (by kernel_rfl) ?_
      simp only [putAll, put_lit, List.set_cons_succ, List.set_cons_zero]
      (go_wp2; all_goals (first | exact post_of (by rfl) (by rfl) (Below.refl _ _) (by rfl) | (exfalso; simp_all; done)))
    case r4g19 =>
      intro w5 hb
      refine over_vals (ds := [38, 39]) [(.bool false), (.pointer (some ⟨gs, 0, none⟩))] (by kernel_rfl) ?_
      obtain ⟨c0, c1⟩ := (Ks.out.next hb).cells
      simp only [putAll, put_lit, List.set_cons_succ, List.set_cons_zero]
      (go_wp2; all_goals (first | exact post_of (by rfl) (by rfl) (Below.refl _ _) (by rfl) | (exfalso; simp_all; done)))
    case r4g20 =>
      intro w5 hb
      refine over_vals (ds := [38, 40]) [(.bool false), (.int .i32 s.1)] (by kernel_rfl) ?_
      simp only [putAll, put_lit, List.set_cons_succ, List.set_cons_zero]
      cases k2
      · dsimp only [cond]
        ((first | have hl := of_decide_eq_true Hk2.out | have hl := of_decide_eq_false Hk2.out); go_wp2; all_goals (first | exact post_of (by rfl) (by rfl) (Below.refl _ _) (by rfl) | (exfalso; simp_all; done)))
      · dsimp only [cond]
        ((first | have hl := of_decide_eq_true Hk2.out | have hl := of_decide_eq_false Hk2.out); go_wp2; all_goals (first | exact post_of (by rfl) (by rfl) (Below.refl _ _) (by rfl) | (exfalso; simp_all; done)))
    case r4g21 =>
      intro w5 hb
      refine over_vals (ds := [38, 41]) [(.bool false), (.bool k2)] (by kernel_rfl) ?_
      exact post_run (.bool k2) rfl (by kernel_rfl) (by kernel_rfl) (by kernel_rfl) (by kernel_rfl) (by kernel_rfl)
    case r4g22 =>
      intro w5 hb
      refine over_vals (ds := [42]) [(.bool k2)] (by kernel_rfl) ?_
      simp only [putAll, put_lit, List.set_cons_succ, List.set_cons_zero]
      cases k2
      · exact post_skip rfl (by kernel_rfl) (by kernel_rfl) (by kernel_rfl) (by kernel_rfl)
      · dsimp only [cond]
        (go_wp2; all_goals (first | exact post_of (by rfl) (by rfl) (Below.refl _ _) (by rfl) | (exfalso; simp_all; done)))
    case r4g23 =>
      intro w5 hb
      refine over_vals (ds := [42, 43]) [(.bool k2), (cond k2 (.pointer (some ⟨gs, 0, none⟩)) undef)] (by kernel_rfl) ?_
      obtain ⟨c0, c1⟩ := (Ks.out.next hb).cells
      simp only [putAll, put_lit, List.set_cons_succ, List.set_cons_zero]
      cases k2
      · exact post_skip rfl (by kernel_rfl) (by kernel_rfl) (by kernel_rfl) (by kernel_rfl)
      · dsimp only [cond]
        (go_wp2; all_goals (first | exact post_of (by rfl) (by rfl) (Below.refl _ _) (by rfl) | (exfalso; simp_all; done)))
    case r4g24 =>
      intro w5 hb
      refine over_vals (ds := [42, 44]) [(.bool k2), (cond k2 (.int .i32 s.1) undef)] (by kernel_rfl) ?_
      simp only [putAll, put_lit, List.set_cons_succ, List.set_cons_zero]
      cases k2
      · exact post_skip rfl (by kernel_rfl) (by kernel_rfl) (by kernel_rfl) (by kernel_rfl)
      · dsimp only [cond]
        ((have hl := of_decide_eq_true Hk2.out); go_wp2; all_goals (first | exact post_of (by rfl) (by rfl) (Below.refl _ _) (by rfl) | (exfalso; simp_all; done)))
    case r4g25 =>
      intro w5 hb
      refine over_vals (ds := [42]) [(.bool k2)] (by kernel_rfl) ?_
      simp only [putAll, put_lit, List.set_cons_succ, List.set_cons_zero]
      cases k2
      · exact post_skip rfl (by kernel_rfl) (by kernel_rfl) (by kernel_rfl) (by kernel_rfl)
      · dsimp only [cond]
        (go_wp2; all_goals (first | exact post_of (by rfl) (by rfl) (Below.refl _ _) (by rfl) | (exfalso; simp_all; done)))
    case r4g26 =>
      intro w5 hb
      refine over_vals (ds := [42, 46]) [(.bool k2), (cond k2 (.pointer (some ⟨gs, 1, none⟩)) undef)] (by kernel_rfl) ?_
      obtain ⟨c0, c1⟩ := (Ks.out.next hb).cells
      simp only [putAll, put_lit, List.set_cons_succ, List.set_cons_zero]
      cases k2
      · exact post_skip rfl (by kernel_rfl) (by kernel_rfl) (by kernel_rfl) (by kernel_rfl)
      · dsimp only [cond]
        (go_wp2; all_goals (first | exact post_of (by rfl) (by rfl) (Below.refl _ _) (by rfl) | (exfalso; simp_all; done)))
    case r4g27 =>
      intro w5 hb
      refine over_vals (ds := [42, 45, 47]) [(.bool k2), (cond k2 (.int .i32 (s.1 - 1)) undef), (cond k2 (.int .i32 s.2) undef)] (by kernel_rfl) ?_
      simp only [putAll, put_lit, List.set_cons_succ, List.set_cons_zero]
      cases k2
      · exact post_skip rfl (by kernel_rfl) (by kernel_rfl) (by kernel_rfl) (by kernel_rfl)
      · dsimp only [cond]
        (go_wp2_with (go_at_call 20; go_must (refine (sp_any (s.1 - 1) s.2 _).mono ?_); rintro r w6 ⟨rfl, b6⟩); all_goals (first | exact post_of (by rfl) (by rfl) (Below.refl _ _) (by rfl) | exact post_of (by rfl) (by rfl) b6 (by rfl) | (exfalso; simp_all; done)))
    case r4g28 =>
      intro w5 hb
      refine over_vals (ds := [42, 48]) [(.bool k2), (cond k2 (.agg #[.int .i32 (s.1 - 1), .int .i32 s.2]) undef)] (by kernel_rfl) ?_
      have hT5 := Lib.hid (HT.out.next hb)
      simp only [putAll, put_lit, List.set_cons_succ, List.set_cons_zero]
      cases k2
      · exact post_skip rfl (by kernel_rfl) (by kernel_rfl) (by kernel_rfl) (by kernel_rfl)
      · dsimp only [cond]
        (go_wp2_with (go_at_call 12; go_must (refine (len_of (p := (s.1 - 1, s.2)) hT5.out (HR2.out rfl) (HQ2.out rfl)).mono ?_); rintro r w6 ⟨rfl, b6⟩); all_goals (first | exact post_of (by rfl) (by rfl) (Below.refl _ _) (by rfl) | exact post_of (by rfl) (by rfl) b6 (by rfl) | (exfalso; simp_all; done)))
    case r4g29 =>
      intro w5 hb
      refine over_vals (ds := [42, 49]) [(.bool k2), (cond k2 (.int .u32 q) undef)] (by kernel_rfl) ?_
      simp only [putAll, put_lit, List.set_cons_succ, List.set_cons_zero]
      cases k2
      · exact post_skip rfl (by kernel_rfl) (by kernel_rfl) (by kernel_rfl) (by kernel_rfl)
      · dsimp only [cond]
        (go_wp2; all_goals (first | exact post_of (by rfl) (by rfl) (Below.refl _ _) (by rfl) | (exfalso; simp_all; done)))
    case r4g30 =>
      intro w5 hb
      refine over_vals (ds := [42]) [(.bool k2)] (by kernel_rfl) ?_
      cases k2
      · exact post_skip rfl (by kernel_rfl) (by kernel_rfl) (by kernel_rfl) (by kernel_rfl)
      · exact post_run (.int .i64 n) rfl (by kernel_rfl) (by kernel_rfl) (by kernel_rfl) (by kernel_rfl) (by kernel_rfl)
    case r4g31 =>
      intro w5 hb
      refine over_vals (ds := [42, 51]) [(.bool k2), (cond k2 (.int .i64 n) undef)] (by kernel_rfl) ?_
      simp only [putAll, put_lit, List.set_cons_succ, List.set_cons_zero]
      cases k2
      · exact post_skip rfl (by kernel_rfl) (by kernel_rfl) (by kernel_rfl) (by kernel_rfl)
      · dsimp only [cond]
        (go_wp2; all_goals (first | exact post_of (by rfl) (by rfl) (Below.refl _ _) (by rfl) | (exfalso; simp_all; done)))
    case r4g32 =>
      intro w5 hb
      refine over_vals (ds := [42, 52]) [(.bool k2), (cond k2 (.int .i64 (n + 1)) undef)] (by kernel_rfl) ?_
      have em := Hem.out
      simp only [putAll, put_lit, List.set_cons_succ, List.set_cons_zero]
      cases k2
      · exact post_skip rfl (by kernel_rfl) (by kernel_rfl) (by kernel_rfl) (by kernel_rfl)
      · dsimp only [cond]
        (go_wp2; all_goals (first | exact post_of (by rfl) (by rfl) (Below.refl _ _) (by rfl) | (exfalso; simp_all; done)))
    case r4g33 =>
      intro w5 hb
      refine over_vals (ds := [42, 50, 53]) [(.bool k2), (cond k2 (.int .i64 q) undef), (cond k2 (.int .i64 q) undef)] (by kernel_rfl) ?_
      simp only [putAll, put_lit, List.set_cons_succ, List.set_cons_zero]
      cases k2
      · exact post_skip rfl (by kernel_rfl) (by kernel_rfl) (by kernel_rfl) (by kernel_rfl)
      · dsimp only [cond]
        (go_wp2; all_goals (first | exact post_of (by rfl) (by rfl) (Below.refl _ _) (by rfl) | (exfalso; simp_all; done)))
    case r4g34 =>
      intro w5 hb
      refine over_vals (ds := [38, 42, 54]) [(.bool false), (.bool k2), (cond k2 (.bool false) undef)] (by kernel_rfl) ?_
      cases k2
      · exact post_run (.bool false) rfl (by kernel_rfl) (by kernel_rfl) (by kernel_rfl) (by kernel_rfl) (by kernel_rfl)
      · exact post_run (.bool false) rfl (by kernel_rfl) (by kernel_rfl) (by kernel_rfl) (by kernel_rfl) (by kernel_rfl)
    case r4g35 =>
      intro w5 hb
      refine over_vals (ds := [38, 55]) [(.bool false), (.bool false)] (by kernel_rfl) ?_
      exact post_run (.bool false) rfl (by kernel_rfl) (by kernel_rfl) (by kernel_rfl) (by kernel_rfl) (by kernel_rfl)
    case r4g36 =>
      intro w5 hb
      refine over_vals (ds := [56]) [(.bool false)] (by kernel_rfl) ?_
      exact post_run (.bool false) rfl (by kernel_rfl) (by kernel_rfl) (by kernel_rfl) (by kernel_rfl) (by kernel_rfl)
    case r4g37 =>
      intro w5 hb
      refine over_vals (ds := [57]) [(.bool false)] (by kernel_rfl) ?_
      simp only [putAll, put_lit, List.set_cons_succ, List.set_cons_zero]
      (go_wp2; all_goals (first | exact post_of (by rfl) (by rfl) (Below.refl _ _) (by rfl) | (exfalso; simp_all; done)))
    case r4g38 =>
      intro w5 hb
      refine over_vals (ds := [57, 58]) [(.bool false), (.pointer (some ⟨gs, 0, none⟩))] (by kernel_rfl) ?_
      obtain ⟨c0, c1⟩ := (Ks.out.next hb).cells
      simp only [putAll, put_lit, List.set_cons_succ, List.set_cons_zero]
      (go_wp2; all_goals (first | exact post_of (by rfl) (by rfl) (Below.refl _ _) (by rfl) | (exfalso; simp_all; done)))
    case r4g39 =>
      intro w5 hb
      refine over_vals (ds := [57]) [(.bool false)] (by kernel_rfl) ?_
      simp only [putAll, put_lit, List.set_cons_succ, List.set_cons_zero]
      (go_wp2; all_goals (first | exact post_of (by rfl) (by rfl) (Below.refl _ _) (by rfl) | (exfalso; simp_all; done)))
    case r4g40 =>
      intro w5 hb
      refine over_vals (ds := [57, 60]) [(.bool false), (.pointer (some ⟨gs, 0, none⟩))] (by kernel_rfl) ?_
      obtain ⟨c0, c1⟩ := (Ks.out.next hb).cells
      simp only [putAll, put_lit, List.set_cons_succ, List.set_cons_zero]
      (go_wp2; all_goals (first | exact post_of (by rfl) (by rfl) (Below.refl _ _) (by rfl) | (exfalso; simp_all; done)))
    case r4g41 =>
      intro w5 hb
      refine over_vals (ds := [57, 59, 61]) [(.bool false), (.int .i32 s.1), (.int .i32 s.1)] (by kernel_rfl) ?_
      simp only [putAll, put_lit, List.set_cons_succ, List.set_cons_zero]
      (go_wp2_with (go_at_call 20; go_must (refine (sp_any s.1 s.1 _).mono ?_); rintro r w6 ⟨rfl, b6⟩); all_goals (first | exact post_of (by rfl) (by rfl) (Below.refl _ _) (by rfl) | exact post_of (by rfl) (by rfl) b6 (by rfl) | (exfalso; simp_all; done)))
    case r4g42 =>
      intro w5 hb
      refine over_vals (ds := [57, 62]) [(.bool false), (.agg #[.int .i32 s.1, .int .i32 s.1])] (by kernel_rfl) ?_
      have hT5 := Lib.hid (HT.out.next hb)
      simp only [putAll, put_lit, List.set_cons_succ, List.set_cons_zero]
      (go_wp2_with (go_at_call 12; go_must (refine (len_of (p := (s.1, s.1)) hT5.out HR3.out HQ3.out).mono ?_); rintro r w6 ⟨rfl, b6⟩); all_goals (first | exact post_of (by rfl) (by rfl) (Below.refl _ _) (by rfl) | exact post_of (by rfl) (by rfl) b6 (by rfl) | (exfalso; simp_all; done)))
    case r4g43 =>
      intro w5 hb
      refine over_vals (ds := [57, 63]) [(.bool false), (.int .u32 1)] (by kernel_rfl) ?_
      simp only [putAll, put_lit, List.set_cons_succ, List.set_cons_zero]
      (go_wp2; all_goals (first | exact post_of (by rfl) (by rfl) (Below.refl _ _) (by rfl) | (exfalso; simp_all; done)))
    case r4g44 =>
      intro w5 hb
      refine over_vals (ds := [57, 64]) [(.bool false), (.bool false)] (by kernel_rfl) ?_
      exact post_run (.bool false) rfl (by kernel_rfl) (by kernel_rfl) (by kernel_rfl) (by kernel_rfl) (by kernel_rfl)
  intro w2 b1
  simp only [List.drop_succ_cons, List.drop_zero]
  simp only [List.map_cons, List.map_nil, putAll, put_lit, List.set_cons_succ, List.set_cons_zero]
  have bw := bw.trans (b1.mono bw.size)
  have Ks := Lib.hid (Ks.out.next b1)
  have HT := Lib.hid (HT.out.next b1)
  clear b1
  go_upto_region 6 with fail
  refine wp_row_vals 10 [(66, (.agg #[.int .i32 s.1, .int .i32 s.2])), (67, (.int .i32 x)), (68, (.bool z)), (69, (.bool (!z))), (70, (.bool (!z))), (71, (cond z (.int .i32 x) undef)), (72, (cond z (.pointer (some ⟨gs, 1, none⟩)) undef)), (73, (cond z (.int .i32 s.2) undef)), (74, (cond z (.bool k3) undef)), (75, (.bool w0))]
    [[], [], [66, 67], [68], [69], [70], [70], [70, 72], [70, 71, 73], [70, 74]] (by kernel_rfl) (by kernel_rfl) (by kernel_rfl) ?_ ?_
  · simp only [List.take_succ_cons, List.take_zero]
    refine ⟨?r6g0, ?r6g1, ?r6g2, ?r6g3, ?r6g4, ?r6g5, ?r6g6, ?r6g7, ?r6g8, ?r6g9, trivial⟩
    case r6g0 =>
      intro w5 hb
      refine over_nil ?_
      obtain ⟨c0, c1⟩ := (Ks.out.next hb).cells
      (go_wp2; all_goals (first | exact post_of (by rfl) (by rfl) (Below.refl _ _) (by rfl) | (exfalso; simp_all; done)))
    case r6g1 =>
      intro w5 hb
      refine over_nil ?_
      exact post_run (.int .i32 x) rfl (by kernel_rfl) (by kernel_rfl) (by kernel_rfl) (by kernel_rfl) (by kernel_rfl)
    case r6g2 =>
      intro w5 hb
      refine over_vals (ds := [66, 67]) [(.agg #[.int .i32 s.1, .int .i32 s.2]), (.int .i32 x)] (by kernel_rfl) ?_
      simp only [putAll, put_lit, List.set_cons_succ, List.set_cons_zero]
      (go_wp2_with (go_at_call 10; go_must (refine (has_of Hz.out).mono ?_); rintro r w6 ⟨rfl, b6⟩); all_goals (first | exact post_of (by rfl) (by rfl) (Below.refl _ _) (by rfl) | exact post_of (by rfl) (by rfl) b6 (by rfl) | (exfalso; simp_all; done)))
    case r6g3 =>
      intro w5 hb
      refine over_vals (ds := [68]) [(.bool z)] (by kernel_rfl) ?_
      cases z
      · exact post_run (.bool true) rfl (by kernel_rfl) (by kernel_rfl) (by kernel_rfl) (by kernel_rfl) (by kernel_rfl)
      · exact post_run (.bool false) rfl (by kernel_rfl) (by kernel_rfl) (by kernel_rfl) (by kernel_rfl) (by kernel_rfl)
    case r6g4 =>
      intro w5 hb
      refine over_vals (ds := [69]) [(.bool (!z))] (by kernel_rfl) ?_
      exact post_run (.bool (!z)) rfl (by kernel_rfl) (by kernel_rfl) (by kernel_rfl) (by kernel_rfl) (by kernel_rfl)
    case r6g5 =>
      intro w5 hb
      refine over_vals (ds := [70]) [(.bool (!z))] (by kernel_rfl) ?_
      cases z
      · exact post_skip rfl (by kernel_rfl) (by kernel_rfl) (by kernel_rfl) (by kernel_rfl)
      · exact post_run (.int .i32 x) rfl (by kernel_rfl) (by kernel_rfl) (by kernel_rfl) (by kernel_rfl) (by kernel_rfl)
    case r6g6 =>
      intro w5 hb
      refine over_vals (ds := [70]) [(.bool (!z))] (by kernel_rfl) ?_
      simp only [putAll, put_lit, List.set_cons_succ, List.set_cons_zero]
      cases z
      · exact post_skip rfl (by kernel_rfl) (by kernel_rfl) (by kernel_rfl) (by kernel_rfl)
      · dsimp only [cond]
        (go_wp2; all_goals (first | exact post_of (by rfl) (by rfl) (Below.refl _ _) (by rfl) | (exfalso; simp_all; done)))
    case r6g7 =>
      intro w5 hb
      refine over_vals (ds := [70, 72]) [(.bool (!z)), (cond z (.pointer (some ⟨gs, 1, none⟩)) undef)] (by kernel_rfl) ?_
      obtain ⟨c0, c1⟩ := (Ks.out.next hb).cells
      simp only [putAll, put_lit, List.set_cons_succ, List.set_cons_zero]
      cases z
      · exact post_skip rfl (by kernel_rfl) (by kernel_rfl) (by kernel_rfl) (by kernel_rfl)
      · dsimp only [cond]
        (go_wp2; all_goals (first | exact post_of (by rfl) (by rfl) (Below.refl _ _) (by rfl) | (exfalso; simp_all; done)))
    case r6g8 =>
      intro w5 hb
      refine over_vals (ds := [70, 71, 73]) [(.bool (!z)), (cond z (.int .i32 x) undef), (cond z (.int .i32 s.2) undef)] (by kernel_rfl) ?_
      simp only [putAll, put_lit, List.set_cons_succ, List.set_cons_zero]
      cases k3 <;> cases z
      · exact post_skip rfl (by kernel_rfl) (by kernel_rfl) (by kernel_rfl) (by kernel_rfl)
      · dsimp only [cond]
        ((have hl := beq_of Hk3.out); go_wp2; all_goals (first | exact post_of (by rfl) (by rfl) (Below.refl _ _) (by rfl) | (exfalso; simp_all; done)))
      · exact post_skip rfl (by kernel_rfl) (by kernel_rfl) (by kernel_rfl) (by kernel_rfl)
      · dsimp only [cond]
        ((have hl := beq_of Hk3.out); go_wp2; all_goals (first | exact post_of (by rfl) (by rfl) (Below.refl _ _) (by rfl) | (exfalso; simp_all; done)))
    case r6g9 =>
      intro w5 hb
      refine over_vals (ds := [70, 74]) [(.bool (!z)), (cond z (.bool k3) undef)] (by kernel_rfl) ?_
      cases k3 <;> cases z
      · (obtain rfl : _ = w0 := HW0.out); exact post_run (.bool true) rfl (by kernel_rfl) (by kernel_rfl) (by kernel_rfl) (by kernel_rfl) (by kernel_rfl)
      · (obtain rfl : _ = w0 := HW0.out); exact post_run (.bool false) rfl (by kernel_rfl) (by kernel_rfl) (by kernel_rfl) (by kernel_rfl) (by kernel_rfl)
      · (obtain rfl : _ = w0 := HW0.out); exact post_run (.bool true) rfl (by kernel_rfl) (by kernel_rfl) (by kernel_rfl) (by kernel_rfl) (by kernel_rfl)
      · (obtain rfl : _ = w0 := HW0.out); exact post_run (.bool true) rfl (by kernel_rfl) (by kernel_rfl) (by kernel_rfl) (by kernel_rfl) (by kernel_rfl)
  intro w3 b1
  simp only [List.drop_succ_cons, List.drop_zero]
  simp only [List.map_cons, List.map_nil, putAll, put_lit, List.set_cons_succ, List.set_cons_zero]
  have bw := bw.trans (b1.mono bw.size)
  have Ks := Lib.hid (Ks.out.next b1)
  have HT := Lib.hid (HT.out.next b1)
  clear b1
  cases w0
  · obtain ⟨hw1, hw2⟩ := HW.out rfl
    have he2 := HE.out rfl
    have HR5 : Hid (inR (x + 1, s.2)) := ⟨⟨by simp only; omega, by simp only; omega⟩, hp2, hp3⟩
    go_upto_region 8 with fail
    refine wp_region_vals 15 [(81, (.pointer (some ⟨gs, 0, none⟩))), (82, (.int .i32 s.1)), (83, (.int .i32 x)), (84, (.agg #[.int .i32 s.1, .int .i32 x])), (85, (.int .u32 y1)), (86, (.int .i64 y1)), (87, (.int .i32 x)), (88, (.int .i32 (x + 1))), (89, (.pointer (some ⟨gs, 1, none⟩))), (90, (.int .i32 s.2)), (91, (.agg #[.int .i32 (x + 1), .int .i32 s.2])), (92, (.int .u32 y2)), (93, (.int .i64 y2)), (6, (.int .i64 y1)), (7, (.int .i64 y2))]
      [[], [81], [], [82, 83], [84], [85], [], [87], [], [89], [88, 90], [91], [92], [86], [93]] (by kernel_rfl) (by kernel_rfl) (by kernel_rfl) (by kernel_rfl) ?_ ?_
    · simp only [List.take_succ_cons, List.take_zero]
      refine ⟨?r8g0, ?r8g1, ?r8g2, ?r8g3, ?r8g4, ?r8g5, ?r8g6, ?r8g7, ?r8g8, ?r8g9, ?r8g10, ?r8g11, ?r8g12, ?r8g13, ?r8g14, trivial⟩
      case r8g0 =>
        intro w5 hb
        refine over_nil ?_
        (go_wp2; all_goals (first | exact post_of (by rfl) (by rfl) (Below.refl _ _) (by rfl) | (exfalso; simp_all; done)))
      case r8g1 =>
        intro w5 hb
        refine over_vals (ds := [81]) [(.pointer (some ⟨gs, 0, none⟩))] (by kernel_rfl) ?_
        obtain ⟨c0, c1⟩ := (Ks.out.next hb).cells
        simp only [putAll, put_lit, List.set_cons_succ, List.set_cons_zero]
        (go_wp2; all_goals (first | exact post_of (by rfl) (by rfl) (Below.refl _ _) (by rfl) | (exfalso; simp_all; done)))
      case r8g2 =>
        intro w5 hb
        refine over_nil ?_
        exact post_run (.int .i32 x) rfl (by kernel_rfl) (by kernel_rfl) (by kernel_rfl) (by kernel_rfl) (by kernel_rfl)
      case r8g3 =>
        intro w5 hb
        refine over_vals (ds := [82, 83]) [(.int .i32 s.1), (.int .i32 x)] (by kernel_rfl) ?_
        simp only [putAll, put_lit, List.set_cons_succ, List.set_cons_zero]
        (go_wp2_with (go_at_call 20; go_must (refine (sp_any s.1 x _).mono ?_); rintro r w6 ⟨rfl, b6⟩); all_goals (first | exact post_of (by rfl) (by rfl) (Below.refl _ _) (by rfl) | exact post_of (by rfl) (by rfl) b6 (by rfl) | (exfalso; simp_all; done)))
      case r8g4 =>
        intro w5 hb
        refine over_vals (ds := [84]) [(.agg #[.int .i32 s.1, .int .i32 x])] (by kernel_rfl) ?_
        have hT5 := Lib.hid (HT.out.next hb)
        simp only [putAll, put_lit, List.set_cons_succ, List.set_cons_zero]
        (go_wp2_with (go_at_call 12; go_must (refine (len_of (p := (s.1, x)) hT5.out HR4.out Hy1.out).mono ?_); rintro r w6 ⟨rfl, b6⟩); all_goals (first | exact post_of (by rfl) (by rfl) (Below.refl _ _) (by rfl) | exact post_of (by rfl) (by rfl) b6 (by rfl) | (exfalso; simp_all; done)))
      case r8g5 =>
        intro w5 hb
        refine over_vals (ds := [85]) [(.int .u32 y1)] (by kernel_rfl) ?_
        simp only [putAll, put_lit, List.set_cons_succ, List.set_cons_zero]
        (go_wp2; all_goals (first | exact post_of (by rfl) (by rfl) (Below.refl _ _) (by rfl) | (exfalso; simp_all; done)))
      case r8g6 =>
        intro w5 hb
        refine over_nil ?_
        exact post_run (.int .i32 x) rfl (by kernel_rfl) (by kernel_rfl) (by kernel_rfl) (by kernel_rfl) (by kernel_rfl)
      case r8g7 =>
        intro w5 hb
        refine over_vals (ds := [87]) [(.int .i32 x)] (by kernel_rfl) ?_
        simp only [putAll, put_lit, List.set_cons_succ, List.set_cons_zero]
        (go_wp2; all_goals (first | exact post_of (by rfl) (by rfl) (Below.refl _ _) (by rfl) | (exfalso; simp_all; done)))
      case r8g8 =>
        intro w5 hb
        refine over_nil ?_
        (go_wp2; all_goals (first | exact post_of (by rfl) (by rfl) (Below.refl _ _) (by rfl) | (exfalso; simp_all; done)))
      case r8g9 =>
        intro w5 hb
        refine over_vals (ds := [89]) [(.pointer (some ⟨gs, 1, none⟩))] (by kernel_rfl) ?_
        obtain ⟨c0, c1⟩ := (Ks.out.next hb).cells
        simp only [putAll, put_lit, List.set_cons_succ, List.set_cons_zero]
        (go_wp2; all_goals (first | exact post_of (by rfl) (by rfl) (Below.refl _ _) (by rfl) | (exfalso; simp_all; done)))
      case r8g10 =>
        intro w5 hb
        refine over_vals (ds := [88, 90]) [(.int .i32 (x + 1)), (.int .i32 s.2)] (by kernel_rfl) ?_
        simp only [putAll, put_lit, List.set_cons_succ, List.set_cons_zero]
        (go_wp2_with (go_at_call 20; go_must (refine (sp_any (x + 1) s.2 _).mono ?_); rintro r w6 ⟨rfl, b6⟩); all_goals (first | exact post_of (by rfl) (by rfl) (Below.refl _ _) (by rfl) | exact post_of (by rfl) (by rfl) b6 (by rfl) | (exfalso; simp_all; done)))
      case r8g11 =>
        intro w5 hb
        refine over_vals (ds := [91]) [(.agg #[.int .i32 (x + 1), .int .i32 s.2])] (by kernel_rfl) ?_
        have hT5 := Lib.hid (HT.out.next hb)
        simp only [putAll, put_lit, List.set_cons_succ, List.set_cons_zero]
        (go_wp2_with (go_at_call 12; go_must (refine (len_of (p := (x + 1, s.2)) hT5.out HR5.out Hy2.out).mono ?_); rintro r w6 ⟨rfl, b6⟩); all_goals (first | exact post_of (by rfl) (by rfl) (Below.refl _ _) (by rfl) | exact post_of (by rfl) (by rfl) b6 (by rfl) | (exfalso; simp_all; done)))
      case r8g12 =>
        intro w5 hb
        refine over_vals (ds := [92]) [(.int .u32 y2)] (by kernel_rfl) ?_
        simp only [putAll, put_lit, List.set_cons_succ, List.set_cons_zero]
        (go_wp2; all_goals (first | exact post_of (by rfl) (by rfl) (Below.refl _ _) (by rfl) | (exfalso; simp_all; done)))
      case r8g13 =>
        intro w5 hb
        refine over_vals (ds := [86]) [(.int .i64 y1)] (by kernel_rfl) ?_
        exact post_run (.int .i64 y1) rfl (by kernel_rfl) (by kernel_rfl) (by kernel_rfl) (by kernel_rfl) (by kernel_rfl)
      case r8g14 =>
        intro w5 hb
        refine over_vals (ds := [93]) [(.int .i64 y2)] (by kernel_rfl) ?_
        exact post_run (.int .i64 y2) rfl (by kernel_rfl) (by kernel_rfl) (by kernel_rfl) (by kernel_rfl) (by kernel_rfl)
    intro w4 b1
    simp only [List.drop_succ_cons, List.drop_zero]
    simp only [List.map_cons, List.map_nil, putAll, put_lit, List.set_cons_succ, List.set_cons_zero]
    have bw := bw.trans (b1.mono bw.size)
    have Ks := Lib.hid (Ks.out.next b1)
    have HT := Lib.hid (HT.out.next b1)
    clear b1
    go_wp2_with fail
    refine (awake_any _ HT.out).mono ?_
    rintro e w5 ⟨rfl, b1⟩
    go_wp2
    go_ret
    exact ⟨rfl, thn bw b1⟩
  · go_wp2_with fail
    refine (awake_any _ HT.out).mono ?_
    rintro e w5 ⟨rfl, b1⟩
    go_wp2
    go_ret
    exact ⟨rfl, thn bw b1⟩
theorem slen_walk (s : Int × Int) (x : Int) (w : World) (hT : Tab w) (is' : inR s) (hx0 : -2147483648 ≤ x) (hx1 : x ≤ 2147483647) :
    Calls Tryd.prog 7 #[(.agg #[.int .i32 s.1, .int .i32 s.2]), .int .i32 x] w fun e w' => e = .returned (.bool true) ∧ Below w.heap.size w w' := by
  rcases Int.lt_or_le s.2 s.1 with he | he
  · exact slen_none s x w hT is' hx0 hx1 he
  · exact slen_some s x w hT is' hx0 hx1 he
end Go.Proofs.YtofphdodihbijaaDoor
