/- Layer 4: the walk of SpanMeet. -/
import Derived.Test.YtofphdodihbijaaDoorSt0
import Derived.Deep.Cut
namespace Go.Proofs.YtofphdodihbijaaDoor
open Go.RowKit
set_option linter.unusedVariables false
set_option maxRecDepth 100000 in
set_option maxHeartbeats 8000000 in
theorem smeet_walk (a b c : Int × Int) (v : Int) (w : World) (hT : Tab w) (ia : inR a) (ib : inR b) (ic : inR c) :
    Calls Tryd.prog 4 #[(.agg #[.int .i32 a.1, .int .i32 a.2]), (.agg #[.int .i32 b.1, .int .i32 b.2]), (.agg #[.int .i32 c.1, .int .i32 c.2]), .int .i32 v] w fun e w' => e = .returned (.bool true) ∧ Below w.heap.size w w' := by
  obtain ⟨r, Hr⟩ : ∃ uu, Hid (meetP a b = uu) := ⟨_, rfl⟩
  obtain ⟨m, Hm⟩ : ∃ uu, Hid (meetB a b = uu) := ⟨_, rfl⟩
  have Hr' : Hid (meetP b a = r) := (meetP_comm a b).trans Hr.out
  have Hm' : Hid (meetB b a = m) := (meetB_comm a b).trans Hm.out
  obtain ⟨hx, Hx⟩ : ∃ uu, Hid (hasB r v = uu) := ⟨_, rfl⟩
  obtain ⟨ha, Ha⟩ : ∃ uu, Hid (hasB a v = uu) := ⟨_, rfl⟩
  obtain ⟨hbv, Hb⟩ : ∃ uu, Hid (hasB b v = uu) := ⟨_, rfl⟩
  obtain ⟨e, HE1⟩ : ∃ uu, Hid ((m && hx) = uu) := ⟨_, rfl⟩
  obtain ⟨z, HZ⟩ : ∃ uu, Hid (decide (r.1 = (0 : Int) ∧ r.2 = (0 : Int)) = uu) := ⟨_, rfl⟩
  have HE2 : Hid ((ha && hbv) = e) := by
    unfold Hid; rw [← HE1.out, ← Ha.out, ← Hb.out, ← Hx.out, ← Hm.out, ← Hr.out, meet_has]
  have HE3 : Hid (((!m) && (!z)) = false) := by
    unfold Hid
    cases hm : m with
    | true => rfl
    | false =>
      have h0 := meetP_no (Hm.out.trans hm)
      rw [Hr.out] at h0
      rw [← HZ.out, h0]
      rfl
  obtain ⟨s1, HS1⟩ : ∃ uu, Hid ((hasB a a.1 && hasB b a.1) = uu) := ⟨_, rfl⟩
  obtain ⟨s2, HS2⟩ : ∃ uu, Hid ((hasB a a.2 && hasB b a.2) = uu) := ⟨_, rfl⟩
  obtain ⟨s3, HS3⟩ : ∃ uu, Hid ((hasB a b.1 && hasB b b.1) = uu) := ⟨_, rfl⟩
  obtain ⟨s4, HS4⟩ : ∃ uu, Hid ((hasB a b.2 && hasB b b.2) = uu) := ⟨_, rfl⟩
  obtain ⟨t1, HT1⟩ : ∃ uu, Hid ((s1 || s2) = uu) := ⟨_, rfl⟩
  obtain ⟨t2, HT2⟩ : ∃ uu, Hid ((t1 || s3) = uu) := ⟨_, rfl⟩
  have HT3 : Hid ((t2 || s4) = m) := by
    unfold Hid; rw [← HT2.out, ← HT1.out, ← HS1.out, ← HS2.out, ← HS3.out, ← HS4.out, ← Hm.out, meet_ends]
  obtain ⟨r2, Hr2⟩ : ∃ uu, Hid (meetP r c = uu) := ⟨_, rfl⟩
  obtain ⟨m2, Hm2⟩ : ∃ uu, Hid (meetB r c = uu) := ⟨_, rfl⟩
  obtain ⟨r3, Hr3⟩ : ∃ uu, Hid (meetP b c = uu) := ⟨_, rfl⟩
  obtain ⟨m3, Hm3⟩ : ∃ uu, Hid (meetB b c = uu) := ⟨_, rfl⟩
  obtain ⟨r4, Hr4⟩ : ∃ uu, Hid (meetP a r3 = uu) := ⟨_, rfl⟩
  obtain ⟨m4, Hm4⟩ : ∃ uu, Hid (meetB a r3 = uu) := ⟨_, rfl⟩
  obtain ⟨e1, HF1⟩ : ∃ uu, Hid ((m && m2) = uu) := ⟨_, rfl⟩
  obtain ⟨e2, HF3⟩ : ∃ uu, Hid (((!m) || (!m2)) = uu) := ⟨_, rfl⟩
  obtain ⟨k, HK⟩ : ∃ uu, Hid (decide (r2.1 = r4.1 ∧ r2.2 = r4.2) = uu) := ⟨_, rfl⟩
  have HF2 : Hid ((m3 && m4) = e1) := by
    unfold Hid; rw [← HF1.out, ← Hm3.out, ← Hm4.out, ← Hm2.out, ← Hr3.out, ← Hr.out, ← Hm.out, meet_assocB]
  have HF4 : Hid ((e2 || k) = true) := by
    unfold Hid
    rw [← HF3.out]
    cases hm : m with
    | false => rfl
    | true => cases hm2 : m2 with
      | false => rfl
      | true =>
        have hh := meet_assocP (a := a) (b := b) (c := c) (by rw [Hr.out, Hm.out, Hm2.out, hm, hm2]; rfl)
        rw [Hr.out, Hr2.out, Hr3.out, Hr4.out] at hh
        rw [← HK.out, hh]
        simp
  have ir : Hid (inR r) := by unfold Hid; rw [← Hr.out]; exact inR_meet ia ib
  have ir3 : Hid (inR r3) := by unfold Hid; rw [← Hr3.out]; exact inR_meet ib ic
  have ia := Lib.hid ia
  have ib := Lib.hid ib
  have ic := Lib.hid ic
  have hmf : ∀ (fn : Fn) (first cap : Array Value) (w : World), (Instr.makeFunc fn first cap).run Tryd.prog w = .ok (.func fn first cap) w := fun _ _ _ _ => rfl
  have bw : Below w.heap.size w (((w.alloc (.cells #[.int .i32 a.1, .int .i32 a.2] 23)).alloc (.cells #[.int .i32 b.1, .int .i32 b.2] 23)).alloc (.cells #[.int .i32 c.1, .int .i32 c.2] 23)) := (thn (thn (below_lit w (.cells #[.int .i32 a.1, .int .i32 a.2] 23)) (below_lit _ (.cells #[.int .i32 b.1, .int .i32 b.2] 23))) (below_lit _ (.cells #[.int .i32 c.1, .int .i32 c.2] 23)))
  have Ka : Hid (Blk (((w.alloc (.cells #[.int .i32 a.1, .int .i32 a.2] 23)).alloc (.cells #[.int .i32 b.1, .int .i32 b.2] 23)).alloc (.cells #[.int .i32 c.1, .int .i32 c.2] 23)) (w.heap.size) a) := by
    have := ((Blk.lit w a.1 a.2).old (.cells #[.int .i32 b.1, .int .i32 b.2] 23)).old (.cells #[.int .i32 c.1, .int .i32 c.2] 23)
    unfold Hid
    simpa using this
  have Kb : Hid (Blk (((w.alloc (.cells #[.int .i32 a.1, .int .i32 a.2] 23)).alloc (.cells #[.int .i32 b.1, .int .i32 b.2] 23)).alloc (.cells #[.int .i32 c.1, .int .i32 c.2] 23)) (w.heap.size + 1) b) := by
    have := (Blk.lit (w.alloc (.cells #[.int .i32 a.1, .int .i32 a.2] 23)) b.1 b.2).old (.cells #[.int .i32 c.1, .int .i32 c.2] 23)
    unfold Hid
    simpa using this
  have Kc : Hid (Blk (((w.alloc (.cells #[.int .i32 a.1, .int .i32 a.2] 23)).alloc (.cells #[.int .i32 b.1, .int .i32 b.2] 23)).alloc (.cells #[.int .i32 c.1, .int .i32 c.2] 23)) (w.heap.size + 1 + 1) c) := by
    have := Blk.lit ((w.alloc (.cells #[.int .i32 a.1, .int .i32 a.2] 23)).alloc (.cells #[.int .i32 b.1, .int .i32 b.2] 23)) c.1 c.2
    unfold Hid
    simpa using this
  have HT : Hid (Tab (((w.alloc (.cells #[.int .i32 a.1, .int .i32 a.2] 23)).alloc (.cells #[.int .i32 b.1, .int .i32 b.2] 23)).alloc (.cells #[.int .i32 c.1, .int .i32 c.2] 23))) := hT.next bw
  clear hT
  go_enter Tryd.func4, Tryd.ntmps4
  go_wp2_with fail
  generalize ((w.alloc _).alloc _).alloc _ = W at *
  generalize w.heap.size + 1 + 1 = gc at Kc ⊢
  generalize w.heap.size + 1 = gb at Kb ⊢
  generalize w.heap.size = ga at Ka ⊢
  refine (meet_of HT.out ia.out ib.out Hr.out Hm.out).mono ?_
  rintro e w1 ⟨rfl, b1⟩
  have B1 := thn b1 (below_lit w1 (.cells #[.int .i32 r.1, .int .i32 r.2] 23))
  have bw := bw.trans (B1.mono bw.size)
  have Ka := Lib.hid (Ka.out.next B1)
  have Kb := Lib.hid (Kb.out.next B1)
  have Kc := Lib.hid (Kc.out.next B1)
  have HT := Lib.hid (HT.out.next B1)
  have Kx : Hid (Blk (w1.alloc (.cells #[.int .i32 r.1, .int .i32 r.2] 23)) w1.heap.size r) := Blk.lit w1 r.1 r.2
  clear b1 B1
  go_upto_region 2 with fail
  generalize w1.alloc _ = W1 at *
  generalize w1.heap.size = gx at Kx ⊢
  obtain ⟨c0, c1⟩ := Ka.out.cells
  obtain ⟨c2, c3⟩ := Kb.out.cells
  go_wp2_with fail
  clear c0 c1 c2 c3
  refine (meet_of HT.out ib.out ia.out Hr'.out Hm'.out).mono ?_
  rintro e w2 ⟨rfl, b1⟩
  have B1 := thn b1 (below_lit w2 (.cells #[.int .i32 r.1, .int .i32 r.2] 23))
  have bw := bw.trans (B1.mono bw.size)
  have Ka := Lib.hid (Ka.out.next B1)
  have Kb := Lib.hid (Kb.out.next B1)
  have Kc := Lib.hid (Kc.out.next B1)
  have Kx := Lib.hid (Kx.out.next B1)
  have HT := Lib.hid (HT.out.next B1)
  have Ky : Hid (Blk (w2.alloc (.cells #[.int .i32 r.1, .int .i32 r.2] 23)) w2.heap.size r) := Blk.lit w2 r.1 r.2
  clear b1 B1
  go_upto_region 3 with fail
  generalize w2.alloc _ = W2 at *
  generalize w2.heap.size = gy at Ky ⊢
  refine wp_region_vals 34 [(32, (.agg #[.int .i32 r.1, .int .i32 r.2])), (33, (.agg #[.int .i32 r.1, .int .i32 r.2])), (34, (.bool false)), (35, (.bool false)), (36, (.bool m)), (37, (.bool m)), (38, (.bool false)), (39, (.bool false)), (40, (.bool false)), (41, (.bool m)), (42, (.bool m)), (43, (cond m (.agg #[.int .i32 r.1, .int .i32 r.2]) undef)), (44, (cond m (.int .i32 v) undef)), (45, (cond m (.bool hx) undef)), (46, (.bool e)), (47, (.agg #[.int .i32 a.1, .int .i32 a.2])), (48, (.int .i32 v)), (49, (.bool ha)), (50, (.bool ha)), (51, (cond ha (.agg #[.int .i32 b.1, .int .i32 b.2]) undef)), (52, (cond ha (.int .i32 v) undef)), (53, (cond ha (.bool hbv) undef)), (54, (.bool e)), (55, (.bool false)), (56, (.bool false)), (57, (.bool false)), (58, (.bool m)), (59, (.bool (!m))), (60, (.bool (!m))), (61, (cond (!m) (.agg #[.int .i32 r.1, .int .i32 r.2]) undef)), (62, (cond (!m) (.agg #[.int .i32 0, .int .i32 0]) undef)), (63, (cond (!m) (.bool (!z)) undef)), (64, (.bool false)), (65, (.bool false))]
    [[], [], [32, 33], [34], [35], [35], [35, 36, 37], [35, 38], [39], [40], [40, 41], [42], [42], [42, 43, 44], [40, 42, 45], [40], [40], [40, 47, 48], [40, 49], [50], [50], [50, 51, 52], [40, 50, 53], [40, 46, 54], [40, 55], [56], [57], [57, 58], [57, 59], [60], [60], [60, 61, 62], [57, 60, 63], [57, 64]] (by kernel_rfl) (by kernel_rfl) (by kernel_rfl) (by kernel_rfl) ?_ ?_
  · simp only [List.take_succ_cons, List.take_zero]
    refine ⟨?r3g0, ?r3g1, ?r3g2, ?r3g3, ?r3g4, ?r3g5, ?r3g6, ?r3g7, ?r3g8, ?r3g9, ?r3g10, ?r3g11, ?r3g12, ?r3g13, ?r3g14, ?r3g15, ?r3g16, ?r3g17, ?r3g18, ?r3g19, ?r3g20, ?r3g21, ?r3g22, ?r3g23, ?r3g24, ?r3g25, ?r3g26, ?r3g27, ?r3g28, ?r3g29, ?r3g30, ?r3g31, ?r3g32, ?r3g33, trivial⟩
    case r3g0 =>
      intro w5 hb
      refine over_nil ?_
      obtain ⟨c0, c1⟩ := (Kx.out.next hb).cells
      (go_wp2; all_goals (first | exact post_of (by rfl) (by rfl) (Below.refl _ _) (by rfl) | (exfalso; simp_all; done)))
    case r3g1 =>
      intro w5 hb
      refine over_nil ?_
      obtain ⟨c0, c1⟩ := (Ky.out.next hb).cells
      (go_wp2; all_goals (first | exact post_of (by rfl) (by rfl) (Below.refl _ _) (by rfl) | (exfalso; simp_all; done)))
    case r3g2 =>
      intro w5 hb
      refine over_vals (ds := [32, 33]) [(.agg #[.int .i32 r.1, .int .i32 r.2]), (.agg #[.int .i32 r.1, .int .i32 r.2])] (by kernel_rfl) ?_
      simp only [putAll, put_lit, List.set_cons_succ, List.set_cons_zero]
      (go_wp2; all_goals (first | exact post_of (by rfl) (by rfl) (Below.refl _ _) (by rfl) | (exfalso; simp_all; done)))
    case r3g3 =>
      intro w5 hb
      refine over_vals (ds := [34]) [(.bool false)] (by kernel_rfl) ?_
      exact post_run (.bool false) rfl (by kernel_rfl) (by kernel_rfl) (by kernel_rfl) (by kernel_rfl) (by kernel_rfl)
    case r3g4 =>
      intro w5 hb
      refine over_vals (ds := [35]) [(.bool false)] (by kernel_rfl) ?_
      exact post_run (.bool m) rfl (by kernel_rfl) (by kernel_rfl) (by kernel_rfl) (by kernel_rfl) (by kernel_rfl)
    case r3g5 =>
      intro w5 hb
      refine over_vals (ds := [35]) [(.bool false)] (by kernel_rfl) ?_
      exact post_run (.bool m) rfl (by kernel_rfl) (by kernel_rfl) (by kernel_rfl) (by kernel_rfl) (by kernel_rfl)
    case r3g6 =>
      intro w5 hb
      refine over_vals (ds := [35, 36, 37]) [(.bool false), (.bool m), (.bool m)] (by kernel_rfl) ?_
      have hnb := fun (a b : Bool) (w' : World) => neq_bool a b w'
      simp only [putAll, put_lit, List.set_cons_succ, List.set_cons_zero]
      cases m
      · dsimp only [cond]
        (go_wp2; all_goals (first | exact post_of (by rfl) (by rfl) (Below.refl _ _) (by rfl) | (exfalso; simp_all; done)))
      · dsimp only [cond]
        (go_wp2; all_goals (first | exact post_of (by rfl) (by rfl) (Below.refl _ _) (by rfl) | (exfalso; simp_all; done)))
    case r3g7 =>
      intro w5 hb
      refine over_vals (ds := [35, 38]) [(.bool false), (.bool false)] (by kernel_rfl) ?_
      exact post_run (.bool false) rfl (by kernel_rfl) (by kernel_rfl) (by kernel_rfl) (by kernel_rfl) (by kernel_rfl)
    case r3g8 =>
      intro w5 hb
      refine over_vals (ds := [39]) [(.bool false)] (by kernel_rfl) ?_
      exact post_run (.bool false) rfl (by kernel_rfl) (by kernel_rfl) (by kernel_rfl) (by kernel_rfl) (by kernel_rfl)
    case r3g9 =>
      intro w5 hb
      refine over_vals (ds := [40]) [(.bool false)] (by kernel_rfl) ?_
      exact post_run (.bool m) rfl (by kernel_rfl) (by kernel_rfl) (by kernel_rfl) (by kernel_rfl) (by kernel_rfl)
    case r3g10 =>
      intro w5 hb
      refine over_vals (ds := [40, 41]) [(.bool false), (.bool m)] (by kernel_rfl) ?_
      exact post_run (.bool m) rfl (by kernel_rfl) (by kernel_rfl) (by kernel_rfl) (by kernel_rfl) (by kernel_rfl)
    case r3g11 =>
      intro w5 hb
      refine over_vals (ds := [42]) [(.bool m)] (by kernel_rfl) ?_
      obtain ⟨c0, c1⟩ := (Kx.out.next hb).cells
      simp only [putAll, put_lit, List.set_cons_succ, List.set_cons_zero]
      cases m
      · exact post_skip rfl (by kernel_rfl) (by kernel_rfl) (by kernel_rfl) (by kernel_rfl)
      · dsimp only [cond]
        (go_wp2; all_goals (first | exact post_of (by rfl) (by rfl) (Below.refl _ _) (by rfl) | (exfalso; simp_all; done)))
    case r3g12 =>
      intro w5 hb
      refine over_vals (ds := [42]) [(.bool m)] (by kernel_rfl) ?_
      cases m
      · exact post_skip rfl (by kernel_rfl) (by kernel_rfl) (by kernel_rfl) (by kernel_rfl)
      · exact post_run (.int .i32 v) rfl (by kernel_rfl) (by kernel_rfl) (by kernel_rfl) (by kernel_rfl) (by kernel_rfl)
    case r3g13 =>
      intro w5 hb
      refine over_vals (ds := [42, 43, 44]) [(.bool m), (cond m (.agg #[.int .i32 r.1, .int .i32 r.2]) undef), (cond m (.int .i32 v) undef)] (by kernel_rfl) ?_
      simp only [putAll, put_lit, List.set_cons_succ, List.set_cons_zero]
      cases m
      · exact post_skip rfl (by kernel_rfl) (by kernel_rfl) (by kernel_rfl) (by kernel_rfl)
      · dsimp only [cond]
        (go_wp2_with (go_at_call 10; go_must (refine (has_of Hx.out).mono ?_); rintro r w6 ⟨rfl, b6⟩); all_goals (first | exact post_of (by rfl) (by rfl) (Below.refl _ _) (by rfl) | exact post_of (by rfl) (by rfl) b6 (by rfl) | (exfalso; simp_all; done)))
    case r3g14 =>
      intro w5 hb
      refine over_vals (ds := [40, 42, 45]) [(.bool false), (.bool m), (cond m (.bool hx) undef)] (by kernel_rfl) ?_
      cases hx <;> cases m
      · (obtain rfl : _ = e := HE1.out); exact post_run (.bool false) rfl (by kernel_rfl) (by kernel_rfl) (by kernel_rfl) (by kernel_rfl) (by kernel_rfl)
      · (obtain rfl : _ = e := HE1.out); exact post_run (.bool false) rfl (by kernel_rfl) (by kernel_rfl) (by kernel_rfl) (by kernel_rfl) (by kernel_rfl)
      · (obtain rfl : _ = e := HE1.out); exact post_run (.bool false) rfl (by kernel_rfl) (by kernel_rfl) (by kernel_rfl) (by kernel_rfl) (by kernel_rfl)
      · (obtain rfl : _ = e := HE1.out); exact post_run (.bool true) rfl (by kernel_rfl) (by kernel_rfl) (by kernel_rfl) (by kernel_rfl) (by kernel_rfl)
    case r3g15 =>
      intro w5 hb
      refine over_vals (ds := [40]) [(.bool false)] (by kernel_rfl) ?_
      obtain ⟨c0, c1⟩ := (Ka.out.next hb).cells
      simp only [putAll, put_lit, List.set_cons_succ, List.set_cons_zero]
      (go_wp2; all_goals (first | exact post_of (by rfl) (by rfl) (Below.refl _ _) (by rfl) | (exfalso; simp_all; done)))
    case r3g16 =>
      intro w5 hb
      refine over_vals (ds := [40]) [(.bool false)] (by kernel_rfl) ?_
      exact post_run (.int .i32 v) rfl (by kernel_rfl) (by kernel_rfl) (by kernel_rfl) (by kernel_rfl) (by kernel_rfl)
    case r3g17 =>
      intro w5 hb
      refine over_vals (ds := [40, 47, 48]) [(.bool false), (.agg #[.int .i32 a.1, .int .i32 a.2]), (.int .i32 v)] (by kernel_rfl) ?_
      simp only [putAll, put_lit, List.set_cons_succ, List.set_cons_zero]
      (go_wp2_with (go_at_call 10; go_must (refine (has_of Ha.out).mono ?_); rintro r w6 ⟨rfl, b6⟩); all_goals (first | exact post_of (by rfl) (by rfl) (Below.refl _ _) (by rfl) | exact post_of (by rfl) (by rfl) b6 (by rfl) | (exfalso; simp_all; done)))
    case r3g18 =>
      intro w5 hb
      refine over_vals (ds := [40, 49]) [(.bool false), (.bool ha)] (by kernel_rfl) ?_
      exact post_run (.bool ha) rfl (by kernel_rfl) (by kernel_rfl) (by kernel_rfl) (by kernel_rfl) (by kernel_rfl)
    case r3g19 =>
      intro w5 hb
      refine over_vals (ds := [50]) [(.bool ha)] (by kernel_rfl) ?_
      obtain ⟨c0, c1⟩ := (Kb.out.next hb).cells
      simp only [putAll, put_lit, List.set_cons_succ, List.set_cons_zero]
      cases ha
      · exact post_skip rfl (by kernel_rfl) (by kernel_rfl) (by kernel_rfl) (by kernel_rfl)
      · dsimp only [cond]
        (go_wp2; all_goals (first | exact post_of (by rfl) (by rfl) (Below.refl _ _) (by rfl) | (exfalso; simp_all; done)))
    case r3g20 =>
      intro w5 hb
      refine over_vals (ds := [50]) [(.bool ha)] (by kernel_rfl) ?_
      cases ha
      · exact post_skip rfl (by kernel_rfl) (by kernel_rfl) (by kernel_rfl) (by kernel_rfl)
      · exact post_run (.int .i32 v) rfl (by kernel_rfl) (by kernel_rfl) (by kernel_rfl) (by kernel_rfl) (by kernel_rfl)
    case r3g21 =>
      intro w5 hb
      refine over_vals (ds := [50, 51, 52]) [(.bool ha), (cond ha (.agg #[.int .i32 b.1, .int .i32 b.2]) undef), (cond ha (.int .i32 v) undef)] (by kernel_rfl) ?_
      simp only [putAll, put_lit, List.set_cons_succ, List.set_cons_zero]
      cases ha
      · exact post_skip rfl (by kernel_rfl) (by kernel_rfl) (by kernel_rfl) (by kernel_rfl)
      · dsimp only [cond]
        (go_wp2_with (go_at_call 10; go_must (refine (has_of Hb.out).mono ?_); rintro r w6 ⟨rfl, b6⟩); all_goals (first | exact post_of (by rfl) (by rfl) (Below.refl _ _) (by rfl) | exact post_of (by rfl) (by rfl) b6 (by rfl) | (exfalso; simp_all; done)))
    case r3g22 =>
      intro w5 hb
      refine over_vals (ds := [40, 50, 53]) [(.bool false), (.bool ha), (cond ha (.bool hbv) undef)] (by kernel_rfl) ?_
      cases ha <;> cases hbv
      · (obtain rfl : _ = e := HE2.out); exact post_run (.bool false) rfl (by kernel_rfl) (by kernel_rfl) (by kernel_rfl) (by kernel_rfl) (by kernel_rfl)
      · (obtain rfl : _ = e := HE2.out); exact post_run (.bool false) rfl (by kernel_rfl) (by kernel_rfl) (by kernel_rfl) (by kernel_rfl) (by kernel_rfl)
      · (obtain rfl : _ = e := HE2.out); exact post_run (.bool false) rfl (by kernel_rfl) (by kernel_rfl) (by kernel_rfl) (by kernel_rfl) (by kernel_rfl)
      · (obtain rfl : _ = e := HE2.out); exact post_run (.bool true) rfl (by kernel_rfl) (by kernel_rfl) (by kernel_rfl) (by kernel_rfl) (by kernel_rfl)
    case r3g23 =>
      intro w5 hb
      refine over_vals (ds := [40, 46, 54]) [(.bool false), (.bool e), (.bool e)] (by kernel_rfl) ?_
      have hnb := fun (a b : Bool) (w' : World) => neq_bool a b w'
      simp only [putAll, put_lit, List.set_cons_succ, List.set_cons_zero]
      cases e
      · dsimp only [cond]
        (go_wp2; all_goals (first | exact post_of (by rfl) (by rfl) (Below.refl _ _) (by rfl) | (exfalso; simp_all; done)))
      · dsimp only [cond]
        (go_wp2; all_goals (first | exact post_of (by rfl) (by rfl) (Below.refl _ _) (by rfl) | (exfalso; simp_all; done)))
    case r3g24 =>
      intro w5 hb
      refine over_vals (ds := [40, 55]) [(.bool false), (.bool false)] (by kernel_rfl) ?_
      exact post_run (.bool false) rfl (by kernel_rfl) (by kernel_rfl) (by kernel_rfl) (by kernel_rfl) (by kernel_rfl)
    case r3g25 =>
      intro w5 hb
      refine over_vals (ds := [56]) [(.bool false)] (by kernel_rfl) ?_
      exact post_run (.bool false) rfl (by kernel_rfl) (by kernel_rfl) (by kernel_rfl) (by kernel_rfl) (by kernel_rfl)
    case r3g26 =>
      intro w5 hb
      refine over_vals (ds := [57]) [(.bool false)] (by kernel_rfl) ?_
      exact post_run (.bool m) rfl (by kernel_rfl) (by kernel_rfl) (by kernel_rfl) (by kernel_rfl) (by kernel_rfl)
    case r3g27 =>
      intro w5 hb
      refine over_vals (ds := [57, 58]) [(.bool false), (.bool m)] (by kernel_rfl) ?_
      cases m
      · exact post_run (.bool true) rfl (by kernel_rfl) (by kernel_rfl) (by kernel_rfl) (by kernel_rfl) (by kernel_rfl)
      · exact post_run (.bool false) rfl (by kernel_rfl) (by kernel_rfl) (by kernel_rfl) (by kernel_rfl) (by kernel_rfl)
    case r3g28 =>
      intro w5 hb
      refine over_vals (ds := [57, 59]) [(.bool false), (.bool (!m))] (by kernel_rfl) ?_
      exact post_run (.bool (!m)) rfl (by kernel_rfl) (by kernel_rfl) (by kernel_rfl) (by kernel_rfl) (by kernel_rfl)
    case r3g29 =>
      intro w5 hb
      refine over_vals (ds := [60]) [(.bool (!m))] (by kernel_rfl) ?_
      obtain ⟨c0, c1⟩ := (Kx.out.next hb).cells
      simp only [putAll, put_lit, List.set_cons_succ, List.set_cons_zero]
      cases m
      · dsimp only [cond]
        (go_wp2; all_goals (first | exact post_of (by rfl) (by rfl) (Below.refl _ _) (by rfl) | (exfalso; simp_all; done)))
      · exact post_skip rfl (by kernel_rfl) (by kernel_rfl) (by kernel_rfl) (by kernel_rfl)
    case r3g30 =>
      intro w5 hb
      refine over_vals (ds := [60]) [(.bool (!m))] (by kernel_rfl) ?_
      simp only [putAll, put_lit, List.set_cons_succ, List.set_cons_zero]
      cases m
      · dsimp only [cond]
        (go_wp2; all_goals (first | exact post_of (by rfl) (by rfl) (Below.refl _ _) (by rfl) | (exfalso; simp_all; done)))
      · exact post_skip rfl (by kernel_rfl) (by kernel_rfl) (by kernel_rfl) (by kernel_rfl)
    case r3g31 =>
      intro w5 hb
      refine over_vals (ds := [60, 61, 62]) [(.bool (!m)), (cond (!m) (.agg #[.int .i32 r.1, .int .i32 r.2]) undef), (cond (!m) (.agg #[.int .i32 0, .int .i32 0]) undef)] (by kernel_rfl) ?_
      have heq : ∀ w' : World, (binOp .neq 23 (.agg #[.int .i32 r.1, .int .i32 r.2]) (.agg #[.int .i32 0, .int .i32 0])).run Tryd.prog w' = .ok (.bool (!z)) w' := fun w' => (neq_run r (0, 0) w').trans (congrArg (fun b => Result.ok (Value.bool (!b)) w') HZ.out)
      simp only [putAll, put_lit, List.set_cons_succ, List.set_cons_zero]
      cases m
      · dsimp only [cond]
        (go_wp2; all_goals (first | exact post_of (by rfl) (by rfl) (Below.refl _ _) (by rfl) | (exfalso; simp_all; done)))
      · exact post_skip rfl (by kernel_rfl) (by kernel_rfl) (by kernel_rfl) (by kernel_rfl)
    case r3g32 =>
      intro w5 hb
      refine over_vals (ds := [57, 60, 63]) [(.bool false), (.bool (!m)), (cond (!m) (.bool (!z)) undef)] (by kernel_rfl) ?_
      cases m <;> cases z
      · exact absurd HE3.out (by decide)
      · exact post_run (.bool false) rfl (by kernel_rfl) (by kernel_rfl) (by kernel_rfl) (by kernel_rfl) (by kernel_rfl)
      · exact post_run (.bool false) rfl (by kernel_rfl) (by kernel_rfl) (by kernel_rfl) (by kernel_rfl) (by kernel_rfl)
      · exact post_run (.bool false) rfl (by kernel_rfl) (by kernel_rfl) (by kernel_rfl) (by kernel_rfl) (by kernel_rfl)
    case r3g33 =>
      intro w5 hb
      refine over_vals (ds := [57, 64]) [(.bool false), (.bool false)] (by kernel_rfl) ?_
      exact post_run (.bool false) rfl (by kernel_rfl) (by kernel_rfl) (by kernel_rfl) (by kernel_rfl) (by kernel_rfl)
  intro w9 b1
  simp only [List.drop_succ_cons, List.drop_zero]
  simp only [List.map_cons, List.map_nil, putAll, put_lit, List.set_cons_succ, List.set_cons_zero]
  have bw := bw.trans (b1.mono bw.size)
  have Ka := Lib.hid (Ka.out.next b1)
  have Kb := Lib.hid (Kb.out.next b1)
  have Kc := Lib.hid (Kc.out.next b1)
  have Kx := Lib.hid (Kx.out.next b1)
  have Ky := Lib.hid (Ky.out.next b1)
  have HT := Lib.hid (HT.out.next b1)
  clear b1
  go_upto_region 6 with fail
  refine wp_row_vals 24 [(67, (.bool m)), (68, (.func (Fn.func 19) #[] #[.pointer (some ⟨ga, 0, none⟩), .pointer (some ⟨gb, 0, none⟩)])), (69, (.pointer (some ⟨ga, 0, none⟩))), (70, (.int .i32 a.1)), (71, (.bool s1)), (72, (.bool s1)), (73, (cond (!s1) (.func (Fn.func 19) #[] #[.pointer (some ⟨ga, 0, none⟩), .pointer (some ⟨gb, 0, none⟩)]) undef)), (74, (cond (!s1) (.pointer (some ⟨ga, 1, none⟩)) undef)), (75, (cond (!s1) (.int .i32 a.2) undef)), (76, (cond (!s1) (.bool s2) undef)), (77, (.bool t1)), (78, (.bool t1)), (79, (cond (!t1) (.func (Fn.func 19) #[] #[.pointer (some ⟨ga, 0, none⟩), .pointer (some ⟨gb, 0, none⟩)]) undef)), (80, (cond (!t1) (.pointer (some ⟨gb, 0, none⟩)) undef)), (81, (cond (!t1) (.int .i32 b.1) undef)), (82, (cond (!t1) (.bool s3) undef)), (83, (.bool t2)), (84, (.bool t2)), (85, (cond (!t2) (.func (Fn.func 19) #[] #[.pointer (some ⟨ga, 0, none⟩), .pointer (some ⟨gb, 0, none⟩)]) undef)), (86, (cond (!t2) (.pointer (some ⟨gb, 1, none⟩)) undef)), (87, (cond (!t2) (.int .i32 b.2) undef)), (88, (cond (!t2) (.bool s4) undef)), (89, (.bool m)), (90, (.bool false))]
    [[], [], [], [69], [68, 70], [71], [72], [72], [72, 74], [72, 73, 75], [72, 76], [77], [78], [78], [78, 80], [78, 79, 81], [78, 82], [83], [84], [84], [84, 86], [84, 85, 87], [84, 88], [67, 89]] (by kernel_rfl) (by kernel_rfl) (by kernel_rfl) ?_ ?_
  · simp only [List.take_succ_cons, List.take_zero]
    refine ⟨?r6g0, ?r6g1, ?r6g2, ?r6g3, ?r6g4, ?r6g5, ?r6g6, ?r6g7, ?r6g8, ?r6g9, ?r6g10, ?r6g11, ?r6g12, ?r6g13, ?r6g14, ?r6g15, ?r6g16, ?r6g17, ?r6g18, ?r6g19, ?r6g20, ?r6g21, ?r6g22, ?r6g23, trivial⟩
    case r6g0 =>
      intro w5 hb
      refine over_nil ?_
      exact post_run (.bool m) rfl (by kernel_rfl) (by kernel_rfl) (by kernel_rfl) (by kernel_rfl) (by kernel_rfl)
    case r6g1 =>
      intro w5 hb
      refine over_nil ?_
      exact post_run (.func (Fn.func 19) #[] #[.pointer (some ⟨ga, 0, none⟩), .pointer (some ⟨gb, 0, none⟩)]) rfl (by kernel_rfl) (by kernel_rfl) (by kernel_rfl) (by kernel_rfl) (by kernel_rfl)
    case r6g2 =>
      intro w5 hb
      refine over_nil ?_
      (go_wp2; all_goals (first | exact post_of (by rfl) (by rfl) (Below.refl _ _) (by rfl) | (exfalso; simp_all; done)))
    case r6g3 =>
      intro w5 hb
      refine over_vals (ds := [69]) [(.pointer (some ⟨ga, 0, none⟩))] (by kernel_rfl) ?_
      obtain ⟨c0, c1⟩ := (Ka.out.next hb).cells
      simp only [putAll, put_lit, List.set_cons_succ, List.set_cons_zero]
      (go_wp2; all_goals (first | exact post_of (by rfl) (by rfl) (Below.refl _ _) (by rfl) | (exfalso; simp_all; done)))
    case r6g4 =>
      intro w5 hb
      refine over_vals (ds := [68, 70]) [(.func (Fn.func 19) #[] #[.pointer (some ⟨ga, 0, none⟩), .pointer (some ⟨gb, 0, none⟩)]), (.int .i32 a.1)] (by kernel_rfl) ?_
      simp only [putAll, put_lit, List.set_cons_succ, List.set_cons_zero]
      (go_wp2_with (go_at_call 19; go_must (refine (shared_of (Ka.out.next hb) (Kb.out.next hb) HS1.out).mono ?_); rintro r w6 ⟨rfl, b6⟩); all_goals (first | exact post_of (by rfl) (by rfl) (Below.refl _ _) (by rfl) | exact post_of (by rfl) (by rfl) b6 (by rfl) | (exfalso; simp_all; done)))
    case r6g5 =>
      intro w5 hb
      refine over_vals (ds := [71]) [(.bool s1)] (by kernel_rfl) ?_
      exact post_run (.bool s1) rfl (by kernel_rfl) (by kernel_rfl) (by kernel_rfl) (by kernel_rfl) (by kernel_rfl)
    case r6g6 =>
      intro w5 hb
      refine over_vals (ds := [72]) [(.bool s1)] (by kernel_rfl) ?_
      cases s1
      · exact post_run (.func (Fn.func 19) #[] #[.pointer (some ⟨ga, 0, none⟩), .pointer (some ⟨gb, 0, none⟩)]) rfl (by kernel_rfl) (by kernel_rfl) (by kernel_rfl) (by kernel_rfl) (by kernel_rfl)
      · exact post_skip rfl (by kernel_rfl) (by kernel_rfl) (by kernel_rfl) (by kernel_rfl)
    case r6g7 =>
      intro w5 hb
      refine over_vals (ds := [72]) [(.bool s1)] (by kernel_rfl) ?_
      simp only [putAll, put_lit, List.set_cons_succ, List.set_cons_zero]
      cases s1
      · dsimp only [cond]
        (go_wp2; all_goals (first | exact post_of (by rfl) (by rfl) (Below.refl _ _) (by rfl) | (exfalso; simp_all; done)))
      · exact post_skip rfl (by kernel_rfl) (by kernel_rfl) (by kernel_rfl) (by kernel_rfl)
    case r6g8 =>
      intro w5 hb
      refine over_vals (ds := [72, 74]) [(.bool s1), (cond (!s1) (.pointer (some ⟨ga, 1, none⟩)) undef)] (by kernel_rfl) ?_
      obtain ⟨c0, c1⟩ := (Ka.out.next hb).cells
      simp only [putAll, put_lit, List.set_cons_succ, List.set_cons_zero]
      cases s1
      · dsimp only [cond]
        (go_wp2; all_goals (first | exact post_of (by rfl) (by rfl) (Below.refl _ _) (by rfl) | (exfalso; simp_all; done)))
      · exact post_skip rfl (by kernel_rfl) (by kernel_rfl) (by kernel_rfl) (by kernel_rfl)
    case r6g9 =>
      intro w5 hb
      refine over_vals (ds := [72, 73, 75]) [(.bool s1), (cond (!s1) (.func (Fn.func 19) #[] #[.pointer (some ⟨ga, 0, none⟩), .pointer (some ⟨gb, 0, none⟩)]) undef), (cond (!s1) (.int .i32 a.2) undef)] (by kernel_rfl) ?_
      simp only [putAll, put_lit, List.set_cons_succ, List.set_cons_zero]
      cases s1
      · dsimp only [cond]
        (go_wp2_with (go_at_call 19; go_must (refine (shared_of (Ka.out.next hb) (Kb.out.next hb) HS2.out).mono ?_); rintro r w6 ⟨rfl, b6⟩); all_goals (first | exact post_of (by rfl) (by rfl) (Below.refl _ _) (by rfl) | exact post_of (by rfl) (by rfl) b6 (by rfl) | (exfalso; simp_all; done)))
      · exact post_skip rfl (by kernel_rfl) (by kernel_rfl) (by kernel_rfl) (by kernel_rfl)
    case r6g10 =>
      intro w5 hb
      refine over_vals (ds := [72, 76]) [(.bool s1), (cond (!s1) (.bool s2) undef)] (by kernel_rfl) ?_
      cases s1 <;> cases s2
      · (obtain rfl : _ = t1 := HT1.out); exact post_run (.bool false) rfl (by kernel_rfl) (by kernel_rfl) (by kernel_rfl) (by kernel_rfl) (by kernel_rfl)
      · (obtain rfl : _ = t1 := HT1.out); exact post_run (.bool true) rfl (by kernel_rfl) (by kernel_rfl) (by kernel_rfl) (by kernel_rfl) (by kernel_rfl)
      · (obtain rfl : _ = t1 := HT1.out); exact post_run (.bool true) rfl (by kernel_rfl) (by kernel_rfl) (by kernel_rfl) (by kernel_rfl) (by kernel_rfl)
      · (obtain rfl : _ = t1 := HT1.out); exact post_run (.bool true) rfl (by kernel_rfl) (by kernel_rfl) (by kernel_rfl) (by kernel_rfl) (by kernel_rfl)
    case r6g11 =>
      intro w5 hb
      refine over_vals (ds := [77]) [(.bool t1)] (by kernel_rfl) ?_
      exact post_run (.bool t1) rfl (by kernel_rfl) (by kernel_rfl) (by kernel_rfl) (by kernel_rfl) (by kernel_rfl)
    case r6g12 =>
      intro w5 hb
      refine over_vals (ds := [78]) [(.bool t1)] (by kernel_rfl) ?_
      cases t1
      · exact post_run (.func (Fn.func 19) #[] #[.pointer (some ⟨ga, 0, none⟩), .pointer (some ⟨gb, 0, none⟩)]) rfl (by kernel_rfl) (by kernel_rfl) (by kernel_rfl) (by kernel_rfl) (by kernel_rfl)
      · exact post_skip rfl (by kernel_rfl) (by kernel_rfl) (by kernel_rfl) (by kernel_rfl)
    case r6g13 =>
      intro w5 hb
      refine over_vals (ds := [78]) [(.bool t1)] (by kernel_rfl) ?_
      simp only [putAll, put_lit, List.set_cons_succ, List.set_cons_zero]
      cases t1
      · dsimp only [cond]
        (go_wp2; all_goals (first | exact post_of (by rfl) (by rfl) (Below.refl _ _) (by rfl) | (exfalso; simp_all; done)))
      · exact post_skip rfl (by kernel_rfl) (by kernel_rfl) (by kernel_rfl) (by kernel_rfl)
    case r6g14 =>
      intro w5 hb
      refine over_vals (ds := [78, 80]) [(.bool t1), (cond (!t1) (.pointer (some ⟨gb, 0, none⟩)) undef)] (by kernel_rfl) ?_
      obtain ⟨c0, c1⟩ := (Kb.out.next hb).cells
      simp only [putAll, put_lit, List.set_cons_succ, List.set_cons_zero]
      cases t1
      · dsimp only [cond]
        (go_wp2; all_goals (first | exact post_of (by rfl) (by rfl) (Below.refl _ _) (by rfl) | (exfalso; simp_all; done)))
      · exact post_skip rfl (by kernel_rfl) (by kernel_rfl) (by kernel_rfl) (by kernel_rfl)
    case r6g15 =>
      intro w5 hb
      refine over_vals (ds := [78, 79, 81]) [(.bool t1), (cond (!t1) (.func (Fn.func 19) #[] #[.pointer (some ⟨ga, 0, none⟩), .pointer (some ⟨gb, 0, none⟩)]) undef), (cond (!t1) (.int .i32 b.1) undef)] (by kernel_rfl) ?_
      simp only [putAll, put_lit, List.set_cons_succ, List.set_cons_zero]
      cases t1
      · dsimp only [cond]
        (go_wp2_with (go_at_call 19; go_must (refine (shared_of (Ka.out.next hb) (Kb.out.next hb) HS3.out).mono ?_); rintro r w6 ⟨rfl, b6⟩); all_goals (first | exact post_of (by rfl) (by rfl) (Below.refl _ _) (by rfl) | exact post_of (by rfl) (by rfl) b6 (by rfl) | (exfalso; simp_all; done)))
      · exact post_skip rfl (by kernel_rfl) (by kernel_rfl) (by kernel_rfl) (by kernel_rfl)
    case r6g16 =>
      intro w5 hb
      refine over_vals (ds := [78, 82]) [(.bool t1), (cond (!t1) (.bool s3) undef)] (by kernel_rfl) ?_
      cases s3 <;> cases t1
      · (obtain rfl : _ = t2 := HT2.out); exact post_run (.bool false) rfl (by kernel_rfl) (by kernel_rfl) (by kernel_rfl) (by kernel_rfl) (by kernel_rfl)
      · (obtain rfl : _ = t2 := HT2.out); exact post_run (.bool true) rfl (by kernel_rfl) (by kernel_rfl) (by kernel_rfl) (by kernel_rfl) (by kernel_rfl)
      · (obtain rfl : _ = t2 := HT2.out); exact post_run (.bool true) rfl (by kernel_rfl) (by kernel_rfl) (by kernel_rfl) (by kernel_rfl) (by kernel_rfl)
      · (obtain rfl : _ = t2 := HT2.out); exact post_run (.bool true) rfl (by kernel_rfl) (by kernel_rfl) (by kernel_rfl) (by kernel_rfl) (by kernel_rfl)
    case r6g17 =>
      intro w5 hb
      refine over_vals (ds := [83]) [(.bool t2)] (by kernel_rfl) ?_
      exact post_run (.bool t2) rfl (by kernel_rfl) (by kernel_rfl) (by kernel_rfl) (by kernel_rfl) (by kernel_rfl)
    case r6g18 =>
      intro w5 hb
      refine over_vals (ds := [84]) [(.bool t2)] (by kernel_rfl) ?_
      cases t2
      · exact post_run (.func (Fn.func 19) #[] #[.pointer (some ⟨ga, 0, none⟩), .pointer (some ⟨gb, 0, none⟩)]) rfl (by kernel_rfl) (by kernel_rfl) (by kernel_rfl) (by kernel_rfl) (by kernel_rfl)
      · exact post_skip rfl (by kernel_rfl) (by kernel_rfl) (by kernel_rfl) (by kernel_rfl)
    case r6g19 =>
      intro w5 hb
      refine over_vals (ds := [84]) [(.bool t2)] (by kernel_rfl) ?_
      simp only [putAll, put_lit, List.set_cons_succ, List.set_cons_zero]
      cases t2
      · dsimp only [cond]
        (go_wp2; all_goals (first | exact post_of (by rfl) (by rfl) (Below.refl _ _) (by rfl) | (exfalso; simp_all; done)))
      · exact post_skip rfl (by kernel_rfl) (by kernel_rfl) (by kernel_rfl) (by kernel_rfl)
    case r6g20 =>
      intro w5 hb
      refine over_vals (ds := [84, 86]) [(.bool t2), (cond (!t2) (.pointer (some ⟨gb, 1, none⟩)) undef)] (by kernel_rfl) ?_
      obtain ⟨c0, c1⟩ := (Kb.out.next hb).cells
      simp only [putAll, put_lit, List.set_cons_succ, List.set_cons_zero]
      cases t2
      · dsimp only [cond]
        (go_wp2; all_goals (first | exact post_of (by rfl) (by rfl) (Below.refl _ _) (by rfl) | (exfalso; simp_all; done)))
      · exact post_skip rfl (by kernel_rfl) (by kernel_rfl) (by kernel_rfl) (by kernel_rfl)
    case r6g21 =>
      intro w5 hb
      refine over_vals (ds := [84, 85, 87]) [(.bool t2), (cond (!t2) (.func (Fn.func 19) #[] #[.pointer (some ⟨ga, 0, none⟩), .pointer (some ⟨gb, 0, none⟩)]) undef), (cond (!t2) (.int .i32 b.2) undef)] (by kernel_rfl) ?_
      simp only [putAll, put_lit, List.set_cons_succ, List.set_cons_zero]
      cases t2
      · dsimp only [cond]
        (go_wp2_with (go_at_call 19; go_must (refine (shared_of (Ka.out.next hb) (Kb.out.next hb) HS4.out).mono ?_); rintro r w6 ⟨rfl, b6⟩); all_goals (first | exact post_of (by rfl) (by rfl) (Below.refl _ _) (by rfl) | exact post_of (by rfl) (by rfl) b6 (by rfl) | (exfalso; simp_all; done)))
      · exact post_skip rfl (by kernel_rfl) (by kernel_rfl) (by kernel_rfl) (by kernel_rfl)
    case r6g22 =>
      intro w5 hb
      refine over_vals (ds := [84, 88]) [(.bool t2), (cond (!t2) (.bool s4) undef)] (by kernel_rfl) ?_
      cases s4 <;> cases t2
      · (obtain rfl : _ = m := HT3.out); exact post_run (.bool false) rfl (by kernel_rfl) (by kernel_rfl) (by kernel_rfl) (by kernel_rfl) (by kernel_rfl)
      · (obtain rfl : _ = m := HT3.out); exact post_run (.bool true) rfl (by kernel_rfl) (by kernel_rfl) (by kernel_rfl) (by kernel_rfl) (by kernel_rfl)
      · (obtain rfl : _ = m := HT3.out); exact post_run (.bool true) rfl (by kernel_rfl) (by kernel_rfl) (by kernel_rfl) (by kernel_rfl) (by kernel_rfl)
      · (obtain rfl : _ = m := HT3.out); exact post_run (.bool true) rfl (by kernel_rfl) (by kernel_rfl) (by kernel_rfl) (by kernel_rfl) (by kernel_rfl)
    case r6g23 =>
      intro w5 hb
      refine over_vals (ds := [67, 89]) [(.bool m), (.bool m)] (by kernel_rfl) ?_
      have hnb := fun (a b : Bool) (w' : World) => neq_bool a b w'
      simp only [putAll, put_lit, List.set_cons_succ, List.set_cons_zero]
      cases m
      · dsimp only [cond]
        (go_wp2; all_goals (first | exact post_of (by rfl) (by rfl) (Below.refl _ _) (by rfl) | (exfalso; simp_all; done)))
      · dsimp only [cond]
        (go_wp2; all_goals (first | exact post_of (by rfl) (by rfl) (Below.refl _ _) (by rfl) | (exfalso; simp_all; done)))
  intro w8 b1
  simp only [List.drop_succ_cons, List.drop_zero]
  simp only [List.map_cons, List.map_nil, putAll, put_lit, List.set_cons_succ, List.set_cons_zero]
  have bw := bw.trans (b1.mono bw.size)
  have Ka := Lib.hid (Ka.out.next b1)
  have Kb := Lib.hid (Kb.out.next b1)
  have Kc := Lib.hid (Kc.out.next b1)
  have Kx := Lib.hid (Kx.out.next b1)
  have Ky := Lib.hid (Ky.out.next b1)
  have HT := Lib.hid (HT.out.next b1)
  clear b1
  go_upto_region 8 with fail
  obtain ⟨c0, c1⟩ := Kx.out.cells
  obtain ⟨c2, c3⟩ := Kc.out.cells
  go_wp2_with fail
  clear c0 c1 c2 c3
  refine (meet_of HT.out ir.out ic.out Hr2.out Hm2.out).mono ?_
  rintro e w3 ⟨rfl, b1⟩
  have B1 := thn b1 (below_lit w3 (.cells #[.int .i32 r2.1, .int .i32 r2.2] 23))
  have bw := bw.trans (B1.mono bw.size)
  have Ka := Lib.hid (Ka.out.next B1)
  have Kb := Lib.hid (Kb.out.next B1)
  have Kc := Lib.hid (Kc.out.next B1)
  have Kx := Lib.hid (Kx.out.next B1)
  have Ky := Lib.hid (Ky.out.next B1)
  have HT := Lib.hid (HT.out.next B1)
  have Kp : Hid (Blk (w3.alloc (.cells #[.int .i32 r2.1, .int .i32 r2.2] 23)) w3.heap.size r2) := Blk.lit w3 r2.1 r2.2
  clear b1 B1
  go_upto_region 9 with fail
  generalize w3.alloc _ = W3 at *
  generalize w3.heap.size = gp at Kp ⊢
  obtain ⟨c0, c1⟩ := Kb.out.cells
  obtain ⟨c2, c3⟩ := Kc.out.cells
  go_wp2_with fail
  clear c0 c1 c2 c3
  refine (meet_of HT.out ib.out ic.out Hr3.out Hm3.out).mono ?_
  rintro e w4 ⟨rfl, b1⟩
  have B1 := thn b1 (below_lit w4 (.cells #[.int .i32 r3.1, .int .i32 r3.2] 23))
  have bw := bw.trans (B1.mono bw.size)
  have Ka := Lib.hid (Ka.out.next B1)
  have Kb := Lib.hid (Kb.out.next B1)
  have Kc := Lib.hid (Kc.out.next B1)
  have Kx := Lib.hid (Kx.out.next B1)
  have Ky := Lib.hid (Ky.out.next B1)
  have Kp := Lib.hid (Kp.out.next B1)
  have HT := Lib.hid (HT.out.next B1)
  have Kz : Hid (Blk (w4.alloc (.cells #[.int .i32 r3.1, .int .i32 r3.2] 23)) w4.heap.size r3) := Blk.lit w4 r3.1 r3.2
  clear b1 B1
  go_upto_region 10 with fail
  generalize w4.alloc _ = W4 at *
  generalize w4.heap.size = gz at Kz ⊢
  obtain ⟨c0, c1⟩ := Ka.out.cells
  obtain ⟨c2, c3⟩ := Kz.out.cells
  go_wp2_with fail
  clear c0 c1 c2 c3
  refine (meet_of HT.out ia.out ir3.out Hr4.out Hm4.out).mono ?_
  rintro e w5 ⟨rfl, b1⟩
  have B1 := thn b1 (below_lit w5 (.cells #[.int .i32 r4.1, .int .i32 r4.2] 23))
  have bw := bw.trans (B1.mono bw.size)
  have Ka := Lib.hid (Ka.out.next B1)
  have Kb := Lib.hid (Kb.out.next B1)
  have Kc := Lib.hid (Kc.out.next B1)
  have Kx := Lib.hid (Kx.out.next B1)
  have Ky := Lib.hid (Ky.out.next B1)
  have Kp := Lib.hid (Kp.out.next B1)
  have Kz := Lib.hid (Kz.out.next B1)
  have HT := Lib.hid (HT.out.next B1)
  have Kq : Hid (Blk (w5.alloc (.cells #[.int .i32 r4.1, .int .i32 r4.2] 23)) w5.heap.size r4) := Blk.lit w5 r4.1 r4.2
  clear b1 B1
  go_upto_region 11 with fail
  generalize w5.alloc _ = W5 at *
  generalize w5.heap.size = gq at Kq ⊢
  refine wp_row_vals_end 26 [(109, (.bool m)), (110, (.bool m)), (111, (cond m (.bool m2) undef)), (112, (.bool e1)), (113, (.bool m3)), (114, (.bool m3)), (115, (cond m3 (.bool m4) undef)), (116, (.bool e1)), (117, (.bool true)), (118, (.bool true)), (119, (.bool m)), (120, (.bool (!m))), (121, (.bool (!m))), (122, (cond m (.bool m2) undef)), (123, (cond m (.bool (!m2)) undef)), (124, (.bool e2)), (125, (.bool e2)), (126, (cond (!e2) (.agg #[.int .i32 r2.1, .int .i32 r2.2]) undef)), (127, (cond (!e2) (.agg #[.int .i32 r4.1, .int .i32 r4.2]) undef)), (128, (cond (!e2) (.bool k) undef)), (129, (.bool true)), (130, (.bool true)), (131, (.bool true)), (132, (.bool true)), (133, (.bool true)), (8, (.bool true))]
    [[], [109], [110], [110, 111], [], [113], [114], [114, 115], [112, 116], [117], [118], [118, 119], [118, 120], [121], [121, 122], [118, 121, 123], [118, 124], [125], [125], [125, 126, 127], [118, 125, 128], [118, 129], [130], [131], [131, 132], [133]] (by kernel_rfl) ?_ ?_
  rotate_left
  · intro w5 a hb hB
    have h0 : a.tmps.getD 8 undef = .bool true := hB.new 8 (of_decide_eq_true (by kernel_rfl))
    have hd : a.defers = [] := hB.defers
    clear hB
    simp only [List.drop_succ_cons, List.drop_zero]
    refine wpList_nil ?_
    go_wp2
    exact bodyPost_ret (v := .bool true) ((results_tmp Tryd.results4 a.tmps _ _).trans (by rw [h0])) hd ⟨rfl, bw.trans (hb.mono bw.size)⟩
  simp only [List.take_succ_cons, List.take_zero]
  
  refine ⟨?r11g0, ?r11g1, ?r11g2, ?r11g3, ?r11g4, ?r11g5, ?r11g6, ?r11g7, ?r11g8, ?r11g9, ?r11g10, ?r11g11, ?r11g12, ?r11g13, ?r11g14, ?r11g15, ?r11g16, ?r11g17, ?r11g18, ?r11g19, ?r11g20, ?r11g21, ?r11g22, ?r11g23, ?r11g24, ?r11g25, trivial⟩
  case r11g0 =>
    intro w5 hb
    refine over_nil ?_
    exact post_run (.bool m) rfl (by kernel_rfl) (by kernel_rfl) (by kernel_rfl) (by kernel_rfl) (by kernel_rfl)
  case r11g1 =>
    intro w5 hb
    refine over_vals (ds := [109]) [(.bool m)] (by kernel_rfl) ?_
    exact post_run (.bool m) rfl (by kernel_rfl) (by kernel_rfl) (by kernel_rfl) (by kernel_rfl) (by kernel_rfl)
  case r11g2 =>
    intro w5 hb
    refine over_vals (ds := [110]) [(.bool m)] (by kernel_rfl) ?_
    cases m
    · exact post_skip rfl (by kernel_rfl) (by kernel_rfl) (by kernel_rfl) (by kernel_rfl)
    · exact post_run (.bool m2) rfl (by kernel_rfl) (by kernel_rfl) (by kernel_rfl) (by kernel_rfl) (by kernel_rfl)
  case r11g3 =>
    intro w5 hb
    refine over_vals (ds := [110, 111]) [(.bool m), (cond m (.bool m2) undef)] (by kernel_rfl) ?_
    cases m <;> cases m2
    · (obtain rfl : _ = e1 := HF1.out); exact post_run (.bool false) rfl (by kernel_rfl) (by kernel_rfl) (by kernel_rfl) (by kernel_rfl) (by kernel_rfl)
    · (obtain rfl : _ = e1 := HF1.out); exact post_run (.bool false) rfl (by kernel_rfl) (by kernel_rfl) (by kernel_rfl) (by kernel_rfl) (by kernel_rfl)
    · (obtain rfl : _ = e1 := HF1.out); exact post_run (.bool false) rfl (by kernel_rfl) (by kernel_rfl) (by kernel_rfl) (by kernel_rfl) (by kernel_rfl)
    · (obtain rfl : _ = e1 := HF1.out); exact post_run (.bool true) rfl (by kernel_rfl) (by kernel_rfl) (by kernel_rfl) (by kernel_rfl) (by kernel_rfl)
  case r11g4 =>
    intro w5 hb
    refine over_nil ?_
    exact post_run (.bool m3) rfl (by kernel_rfl) (by kernel_rfl) (by kernel_rfl) (by kernel_rfl) (by kernel_rfl)
  case r11g5 =>
    intro w5 hb
    refine over_vals (ds := [113]) [(.bool m3)] (by kernel_rfl) ?_
    exact post_run (.bool m3) rfl (by kernel_rfl) (by kernel_rfl) (by kernel_rfl) (by kernel_rfl) (by kernel_rfl)
  case r11g6 =>
    intro w5 hb
    refine over_vals (ds := [114]) [(.bool m3)] (by kernel_rfl) ?_
    cases m3
    · exact post_skip rfl (by kernel_rfl) (by kernel_rfl) (by kernel_rfl) (by kernel_rfl)
    · exact post_run (.bool m4) rfl (by kernel_rfl) (by kernel_rfl) (by kernel_rfl) (by kernel_rfl) (by kernel_rfl)
  case r11g7 =>
    intro w5 hb
    refine over_vals (ds := [114, 115]) [(.bool m3), (cond m3 (.bool m4) undef)] (by kernel_rfl) ?_
    cases m3 <;> cases m4
    · (obtain rfl : _ = e1 := HF2.out); exact post_run (.bool false) rfl (by kernel_rfl) (by kernel_rfl) (by kernel_rfl) (by kernel_rfl) (by kernel_rfl)
    · (obtain rfl : _ = e1 := HF2.out); exact post_run (.bool false) rfl (by kernel_rfl) (by kernel_rfl) (by kernel_rfl) (by kernel_rfl) (by kernel_rfl)
    · (obtain rfl : _ = e1 := HF2.out); exact post_run (.bool false) rfl (by kernel_rfl) (by kernel_rfl) (by kernel_rfl) (by kernel_rfl) (by kernel_rfl)
    · (obtain rfl : _ = e1 := HF2.out); exact post_run (.bool true) rfl (by kernel_rfl) (by kernel_rfl) (by kernel_rfl) (by kernel_rfl) (by kernel_rfl)
  case r11g8 =>
    intro w5 hb
    refine over_vals (ds := [112, 116]) [(.bool e1), (.bool e1)] (by kernel_rfl) ?_
    simp only [putAll, put_lit, List.set_cons_succ, List.set_cons_zero]
    cases e1
    · dsimp only [cond]
      (go_wp2; all_goals (first | exact post_of (by rfl) (by rfl) (Below.refl _ _) (by rfl) | (exfalso; simp_all; done)))
    · dsimp only [cond]
      (go_wp2; all_goals (first | exact post_of (by rfl) (by rfl) (Below.refl _ _) (by rfl) | (exfalso; simp_all; done)))
  case r11g9 =>
    intro w5 hb
    refine over_vals (ds := [117]) [(.bool true)] (by kernel_rfl) ?_
    exact post_run (.bool true) rfl (by kernel_rfl) (by kernel_rfl) (by kernel_rfl) (by kernel_rfl) (by kernel_rfl)
  case r11g10 =>
    intro w5 hb
    refine over_vals (ds := [118]) [(.bool true)] (by kernel_rfl) ?_
    exact post_run (.bool m) rfl (by kernel_rfl) (by kernel_rfl) (by kernel_rfl) (by kernel_rfl) (by kernel_rfl)
  case r11g11 =>
    intro w5 hb
    refine over_vals (ds := [118, 119]) [(.bool true), (.bool m)] (by kernel_rfl) ?_
    cases m
    · exact post_run (.bool true) rfl (by kernel_rfl) (by kernel_rfl) (by kernel_rfl) (by kernel_rfl) (by kernel_rfl)
    · exact post_run (.bool false) rfl (by kernel_rfl) (by kernel_rfl) (by kernel_rfl) (by kernel_rfl) (by kernel_rfl)
  case r11g12 =>
    intro w5 hb
    refine over_vals (ds := [118, 120]) [(.bool true), (.bool (!m))] (by kernel_rfl) ?_
    exact post_run (.bool (!m)) rfl (by kernel_rfl) (by kernel_rfl) (by kernel_rfl) (by kernel_rfl) (by kernel_rfl)
  case r11g13 =>
    intro w5 hb
    refine over_vals (ds := [121]) [(.bool (!m))] (by kernel_rfl) ?_
    cases m
    · exact post_skip rfl (by kernel_rfl) (by kernel_rfl) (by kernel_rfl) (by kernel_rfl)
    · exact post_run (.bool m2) rfl (by kernel_rfl) (by kernel_rfl) (by kernel_rfl) (by kernel_rfl) (by kernel_rfl)
  case r11g14 =>
    intro w5 hb
    refine over_vals (ds := [121, 122]) [(.bool (!m)), (cond m (.bool m2) undef)] (by kernel_rfl) ?_
    cases m <;> cases m2
    · exact post_skip rfl (by kernel_rfl) (by kernel_rfl) (by kernel_rfl) (by kernel_rfl)
    · exact post_skip rfl (by kernel_rfl) (by kernel_rfl) (by kernel_rfl) (by kernel_rfl)
    · exact post_run (.bool true) rfl (by kernel_rfl) (by kernel_rfl) (by kernel_rfl) (by kernel_rfl) (by kernel_rfl)
    · exact post_run (.bool false) rfl (by kernel_rfl) (by kernel_rfl) (by kernel_rfl) (by kernel_rfl) (by kernel_rfl)
  case r11g15 =>
    intro w5 hb
    refine over_vals (ds := [118, 121, 123]) [(.bool true), (.bool (!m)), (cond m (.bool (!m2)) undef)] (by kernel_rfl) ?_
    cases m <;> cases m2
    · (obtain rfl : _ = e2 := HF3.out); exact post_run (.bool true) rfl (by kernel_rfl) (by kernel_rfl) (by kernel_rfl) (by kernel_rfl) (by kernel_rfl)
    · (obtain rfl : _ = e2 := HF3.out); exact post_run (.bool true) rfl (by kernel_rfl) (by kernel_rfl) (by kernel_rfl) (by kernel_rfl) (by kernel_rfl)
    · (obtain rfl : _ = e2 := HF3.out); exact post_run (.bool true) rfl (by kernel_rfl) (by kernel_rfl) (by kernel_rfl) (by kernel_rfl) (by kernel_rfl)
    · (obtain rfl : _ = e2 := HF3.out); exact post_run (.bool false) rfl (by kernel_rfl) (by kernel_rfl) (by kernel_rfl) (by kernel_rfl) (by kernel_rfl)
  case r11g16 =>
    intro w5 hb
    refine over_vals (ds := [118, 124]) [(.bool true), (.bool e2)] (by kernel_rfl) ?_
    exact post_run (.bool e2) rfl (by kernel_rfl) (by kernel_rfl) (by kernel_rfl) (by kernel_rfl) (by kernel_rfl)
  case r11g17 =>
    intro w5 hb
    refine over_vals (ds := [125]) [(.bool e2)] (by kernel_rfl) ?_
    obtain ⟨c0, c1⟩ := (Kp.out.next hb).cells
    simp only [putAll, put_lit, List.set_cons_succ, List.set_cons_zero]
    cases e2
    · dsimp only [cond]
      (go_wp2; all_goals (first | exact post_of (by rfl) (by rfl) (Below.refl _ _) (by rfl) | (exfalso; simp_all; done)))
    · exact post_skip rfl (by kernel_rfl) (by kernel_rfl) (by kernel_rfl) (by kernel_rfl)
  case r11g18 =>
    intro w5 hb
    refine over_vals (ds := [125]) [(.bool e2)] (by kernel_rfl) ?_
    obtain ⟨c0, c1⟩ := (Kq.out.next hb).cells
    simp only [putAll, put_lit, List.set_cons_succ, List.set_cons_zero]
    cases e2
    · dsimp only [cond]
      (go_wp2; all_goals (first | exact post_of (by rfl) (by rfl) (Below.refl _ _) (by rfl) | (exfalso; simp_all; done)))
    · exact post_skip rfl (by kernel_rfl) (by kernel_rfl) (by kernel_rfl) (by kernel_rfl)
  case r11g19 =>
    intro w5 hb
    refine over_vals (ds := [125, 126, 127]) [(.bool e2), (cond (!e2) (.agg #[.int .i32 r2.1, .int .i32 r2.2]) undef), (cond (!e2) (.agg #[.int .i32 r4.1, .int .i32 r4.2]) undef)] (by kernel_rfl) ?_
    have heq : ∀ w' : World, (binOp .eql 23 (.agg #[.int .i32 r2.1, .int .i32 r2.2]) (.agg #[.int .i32 r4.1, .int .i32 r4.2])).run Tryd.prog w' = .ok (.bool k) w' := fun w' => (eql_run r2 r4 w').trans (congrArg (fun b => Result.ok (Value.bool b) w') HK.out)
    simp only [putAll, put_lit, List.set_cons_succ, List.set_cons_zero]
    cases e2
    · dsimp only [cond]
      (go_wp2; all_goals (first | exact post_of (by rfl) (by rfl) (Below.refl _ _) (by rfl) | (exfalso; simp_all; done)))
    · exact post_skip rfl (by kernel_rfl) (by kernel_rfl) (by kernel_rfl) (by kernel_rfl)
  case r11g20 =>
    intro w5 hb
    refine over_vals (ds := [118, 125, 128]) [(.bool true), (.bool e2), (cond (!e2) (.bool k) undef)] (by kernel_rfl) ?_
    cases e2 <;> cases k
    · exact absurd HF4.out (by decide)
    · exact post_run (.bool true) rfl (by kernel_rfl) (by kernel_rfl) (by kernel_rfl) (by kernel_rfl) (by kernel_rfl)
    · exact post_run (.bool true) rfl (by kernel_rfl) (by kernel_rfl) (by kernel_rfl) (by kernel_rfl) (by kernel_rfl)
    · exact post_run (.bool true) rfl (by kernel_rfl) (by kernel_rfl) (by kernel_rfl) (by kernel_rfl) (by kernel_rfl)
  case r11g21 =>
    intro w5 hb
    refine over_vals (ds := [118, 129]) [(.bool true), (.bool true)] (by kernel_rfl) ?_
    exact post_run (.bool true) rfl (by kernel_rfl) (by kernel_rfl) (by kernel_rfl) (by kernel_rfl) (by kernel_rfl)
  case r11g22 =>
    intro w5 hb
    refine over_vals (ds := [130]) [(.bool true)] (by kernel_rfl) ?_
    exact post_run (.bool true) rfl (by kernel_rfl) (by kernel_rfl) (by kernel_rfl) (by kernel_rfl) (by kernel_rfl)
  case r11g23 =>
    intro w5 hb
    refine over_vals (ds := [131]) [(.bool true)] (by kernel_rfl) ?_
    have hT5 := Lib.hid (HT.out.next hb)
    simp only [putAll, put_lit, List.set_cons_succ, List.set_cons_zero]
    (go_wp2_with (go_at_call 18; go_must (refine (awake_any _ hT5.out).mono ?_); rintro r w6 ⟨rfl, b6⟩); all_goals (first | exact post_of (by rfl) (by rfl) (Below.refl _ _) (by rfl) | exact post_of (by rfl) (by rfl) b6 (by rfl) | (exfalso; simp_all; done)))
  case r11g24 =>
    intro w5 hb
    refine over_vals (ds := [131, 132]) [(.bool true), (.bool true)] (by kernel_rfl) ?_
    exact post_run (.bool true) rfl (by kernel_rfl) (by kernel_rfl) (by kernel_rfl) (by kernel_rfl) (by kernel_rfl)
  case r11g25 =>
    intro w5 hb
    refine over_vals (ds := [133]) [(.bool true)] (by kernel_rfl) ?_
    exact post_run (.bool true) rfl (by kernel_rfl) (by kernel_rfl) (by kernel_rfl) (by kernel_rfl) (by kernel_rfl)
end Go.Proofs.YtofphdodihbijaaDoor
