/- Layer 8: SeenTells. -/
import Derived.Test.YtkdlgejkgcojkaaDoorQl
namespace Go.Proofs.YtkdlgejkgcojkaaDoor
open Go.RowKit
set_option linter.unusedVariables false
set_option maxRecDepth 100000 in
set_option maxHeartbeats 20000000 in
theorem tells_walk (r : Row3) (x : Id3) (n nd : Int) (w : World) (hr : rowR r) (hx : idR x) (hT : Tab w) :
    Calls Tryd.prog 3 #[(.agg #[.int .u16 r.1, .int .u32 r.2.1, .int .u64 r.2.2]), (.agg #[.int .u8 x.1, .int .u16 x.2.1, .int .u32 x.2.2]), .int .i64 n, .int .u8 nd] w fun e w' => e = .returned (.bool true) ∧ Below w.heap.size w w' := by
  have HT := Lib.hid hT
  have HR := Lib.hid hr
  have HX := Lib.hid hx
  obtain ⟨KR, KX, B⟩ := boxes2 w r x
  have hmn : ∀ w' : World, (binOp .neq 30 (.agg #[.int .u8 nd, .int .u16 r.1, .int .u32 r.2.1]) (.agg #[.int .u8 nd, .int .u16 r.1, .int .u32 r.2.1])).run Tryd.prog w' = .ok (.bool false) w' := fun w' => (markneq (nd, r.1, r.2.1) (nd, r.1, r.2.1) w').trans (by rw [decide_eq_true rfl]; rfl)
  clear hT hr hx
  have ntt : ∀ w', (binOp .neq 4 (.bool true) (.bool true)).run Tryd.prog w' = .ok (.bool false) w' := fun w' => (neq_bool true true w').trans (by simp)
  have nff : ∀ w', (binOp .neq 4 (.bool false) (.bool false)).run Tryd.prog w' = .ok (.bool false) w' := fun w' => (neq_bool false false w').trans (by simp)
  cases hq : rightI r n with
  | false =>
    have HQ := Lib.hid hq
    clear hq
    obtain ⟨q, HQ2⟩ : ∃ q, Hid (rightI r 64 = q) := ⟨_, rfl⟩
    have hbb : ∀ w', (binOp .eql 4 (.bool q) (.bool q)).run Tryd.prog w' = .ok (.bool true) w' := fun w' => by cases q <;> simp [go_sem]
    go_enter Tryd.func3, Tryd.ntmps3
    go_upto_region 1 with fail
    generalize (w.alloc (.cells #[.int .u16 r.1, .int .u32 r.2.1, .int .u64 r.2.2] 26)).alloc (.cells #[.int .u8 x.1, .int .u16 x.2.1, .int .u32 x.2.2] 28) = w1 at *
    obtain ⟨gr, hgr⟩ : ∃ g, w.heap.size = g := ⟨_, rfl⟩
    rw [hgr] at KR KX ⊢
    clear hgr
    obtain ⟨gx, hgx⟩ : ∃ g, gr + 1 = g := ⟨_, rfl⟩
    rw [hgx] at KX ⊢
    clear hgx
    refine wp_region_typed 16 [(13, .val (.agg #[.int .u16 r.1, .int .u32 r.2.1, .int .u64 r.2.2])), (14, .val (.int .i64 n)), (15, .val (.bool false)), (16, .val (.agg #[.int .u16 r.1, .int .u32 r.2.1, .int .u64 r.2.2])), (17, .val (.int .i64 n)), (18, .val (.bool false)), (19, .val (.bool false)), (20, .val (.bool false)), (21, .val (.int .u8 nd)), (22, .val (.agg #[.int .u16 r.1, .int .u32 r.2.1, .int .u64 r.2.2])), (23, .val (.agg #[.int .u8 nd, .int .u16 r.1, .int .u32 r.2.1])), (24, .val (.int .u8 nd)), (25, .val (.agg #[.int .u16 r.1, .int .u32 r.2.1, .int .u64 r.2.2])), (26, .val (.agg #[.int .u8 nd, .int .u16 r.1, .int .u32 r.2.1])), (27, .val (.bool false)), (28, .val (.bool false))]
      [[], [], [13, 14], [], [], [16, 17], [15, 18], [19], [20], [20], [20, 21, 22], [20], [20], [20, 24, 25], [20, 23, 26], [20, 27]] (by kernel_rfl) (by kernel_rfl) ?_ ?_
    rotate_left
    · intro v2 hb
      simp only [List.take_succ_cons, List.take_zero, List.drop_succ_cons, List.drop_zero]
      refine over_ds (ds := [13, 14, 15, 16, 17, 18, 19, 20, 21, 22, 23, 24, 25, 26, 27, 28]) (by kernel_rfl) ?_
      refine over_some (ds1 := [13, 14, 15, 16, 17, 18, 19, 20, 21, 22, 23, 24, 25, 26, 27, 28]) (ds2 := []) [(.agg #[.int .u16 r.1, .int .u32 r.2.1, .int .u64 r.2.2]), (.int .i64 n), (.bool false), (.agg #[.int .u16 r.1, .int .u32 r.2.1, .int .u64 r.2.2]), (.int .i64 n), (.bool false), (.bool false), (.bool false), (.int .u8 nd), (.agg #[.int .u16 r.1, .int .u32 r.2.1, .int .u64 r.2.2]), (.agg #[.int .u8 nd, .int .u16 r.1, .int .u32 r.2.1]), (.int .u8 nd), (.agg #[.int .u16 r.1, .int .u32 r.2.1, .int .u64 r.2.2]), (.agg #[.int .u8 nd, .int .u16 r.1, .int .u32 r.2.1]), (.bool false), (.bool false)] (by kernel_rfl) ?_
      refine over_nil ?_
      simp only [putAll, put_lit, List.set_cons_succ, List.set_cons_zero]
      replace KR := Lib.hid (KR.out.next hb)
      replace KX := Lib.hid (KX.out.next hb)
      replace B := Lib.hid (thn B.out hb)
      clear hb
      obtain ⟨pKR, qKR, rKR⟩ := KR.out.cells
      obtain ⟨pKX, qKX, rKX⟩ := KX.out.cells
      go_wp2_with fail
      have hc := refright_any r n v2 HR.out
      rw [HQ.out] at hc
      refine hc.mono ?_
      clear hc
      clear pKR qKR rKR pKX qKX rKX
      rintro e w3 ⟨rfl, b5⟩
      replace KR := Lib.hid (KR.out.next b5)
      replace KX := Lib.hid (KX.out.next b5)
      replace B := Lib.hid (thn B.out b5)
      clear b5
      obtain ⟨pKR, qKR, rKR⟩ := KR.out.cells
      obtain ⟨pKX, qKX, rKX⟩ := KX.out.cells
      go_wp2_with fail
      clear pKR qKR rKR pKX qKX rKX
      refine wp_region_typed 8 [(33, .val (.agg #[.int .u16 r.1, .int .u32 r.2.1, .int .u64 r.2.2])), (34, .val (.bool q)), (35, .val (.agg #[.int .u16 r.1, .int .u32 r.2.1, .int .u64 r.2.2])), (36, .val (.bool q)), (37, .val (.bool true)), (38, .val (.bool true)), (39, .val (.bool true)), (40, .val (.bool true))]
        [[], [33], [], [35], [34, 36], [37], [38], [38, 39]] (by kernel_rfl) (by kernel_rfl) ?_ ?_
      rotate_left
      · intro v4 hb
        simp only [List.take_succ_cons, List.take_zero, List.drop_succ_cons, List.drop_zero]
        refine over_ds (ds := [33, 34, 35, 36, 37, 38, 39, 40]) (by kernel_rfl) ?_
        refine over_some (ds1 := [33, 34, 35, 36, 37, 38, 39, 40]) (ds2 := []) [(.agg #[.int .u16 r.1, .int .u32 r.2.1, .int .u64 r.2.2]), (.bool q), (.agg #[.int .u16 r.1, .int .u32 r.2.1, .int .u64 r.2.2]), (.bool q), (.bool true), (.bool true), (.bool true), (.bool true)] (by kernel_rfl) ?_
        refine over_nil ?_
        simp only [putAll, put_lit, List.set_cons_succ, List.set_cons_zero]
        replace KR := Lib.hid (KR.out.next hb)
        replace KX := Lib.hid (KX.out.next hb)
        replace B := Lib.hid (thn B.out hb)
        clear hb
        go_wp2
        go_ret
        exact ⟨rfl, B.out⟩
      simp only [List.take_succ_cons, List.take_zero]
      refine ⟨?r4g0, ?r4g1, ?r4g2, ?r4g3, ?r4g4, ?r4g5, ?r4g6, ?r4g7, trivial⟩
      case r4g0 =>
        intro w9 hb
        refine over_nil ?_
        obtain ⟨p0, q0, r0⟩ := (KR.out.next hb).cells
        go_wp2
        first | exact post_of (by rfl) (by rfl) (Below.refl _ _) (by rfl) | exact rfl
      case r4g1 =>
        intro w9 hb
        refine over_some (ds1 := [33]) (ds2 := []) [(.agg #[.int .u16 r.1, .int .u32 r.2.1, .int .u64 r.2.2])] (by kernel_rfl) ?_
        refine over_nil ?_
        simp only [putAll, put_lit, List.set_cons_succ, List.set_cons_zero]
        go_wp2_with fail
        have hc2 := sright_any r 64 w9 HR.out
        rw [HQ2.out] at hc2
        refine hc2.mono ?_
        clear hc2
        rintro e w8 ⟨rfl, b6⟩
        go_wp2
        exact post_of (by rfl) (by rfl) b6 (by rfl)
      case r4g2 =>
        intro w9 hb
        refine over_nil ?_
        obtain ⟨p0, q0, r0⟩ := (KR.out.next hb).cells
        go_wp2
        first | exact post_of (by rfl) (by rfl) (Below.refl _ _) (by rfl) | exact rfl
      case r4g3 =>
        intro w9 hb
        refine over_some (ds1 := [35]) (ds2 := []) [(.agg #[.int .u16 r.1, .int .u32 r.2.1, .int .u64 r.2.2])] (by kernel_rfl) ?_
        refine over_nil ?_
        simp only [putAll, put_lit, List.set_cons_succ, List.set_cons_zero]
        go_wp2_with fail
        have hc2 := refright_any r 64 w9 HR.out
        rw [HQ2.out] at hc2
        refine hc2.mono ?_
        clear hc2
        rintro e w8 ⟨rfl, b6⟩
        go_wp2
        exact post_of (by rfl) (by rfl) b6 (by rfl)
      case r4g4 =>
        intro w9 hb
        refine over_some (ds1 := [34, 36]) (ds2 := []) [(.bool q), (.bool q)] (by kernel_rfl) ?_
        refine over_nil ?_
        simp only [putAll, put_lit, List.set_cons_succ, List.set_cons_zero]
        go_wp2
        exact post_of (by rfl) (by rfl) (Below.refl _ _) (by first | rfl | (show Value.bool _ = Value.bool _; rw [Value.bool.injEq]; first | exact decide_eq_true (by omega) | exact decide_eq_false (by omega) | assumption | (simp; omega)))
      case r4g5 =>
        intro w9 hb
        refine over_some (ds1 := [37]) (ds2 := []) [(.bool true)] (by kernel_rfl) ?_
        refine over_nil ?_
        simp only [putAll, put_lit, List.set_cons_succ, List.set_cons_zero]
        go_wp2
        first | exact post_of (by rfl) (by rfl) (Below.refl _ _) (by rfl) | exact rfl
      case r4g6 =>
        intro w9 hb
        refine over_some (ds1 := [38]) (ds2 := []) [(.bool true)] (by kernel_rfl) ?_
        refine over_nil ?_
        simp only [putAll, put_lit, List.set_cons_succ, List.set_cons_zero]
        go_wp2_with fail
        have hc2 := awake_any w9 (HT.out.next (thn B.out hb))
        refine hc2.mono ?_
        clear hc2
        rintro e w8 ⟨rfl, b6⟩
        go_wp2
        exact post_of (by rfl) (by rfl) b6 (by rfl)
      case r4g7 =>
        intro w9 hb
        refine over_some (ds1 := [38, 39]) (ds2 := []) [(.bool true), (.bool true)] (by kernel_rfl) ?_
        refine over_nil ?_
        simp only [putAll, put_lit, List.set_cons_succ, List.set_cons_zero]
        go_wp2
        first | exact post_of (by rfl) (by rfl) (Below.refl _ _) (by rfl) | exact rfl
    simp only [List.take_succ_cons, List.take_zero]
    refine ⟨?r1g0, ?r1g1, ?r1g2, ?r1g3, ?r1g4, ?r1g5, ?r1g6, ?r1g7, ?r1g8, ?r1g9, ?r1g10, ?r1g11, ?r1g12, ?r1g13, ?r1g14, ?r1g15, trivial⟩
    case r1g0 =>
      intro w9 hb
      refine over_nil ?_
      obtain ⟨p0, q0, r0⟩ := (KR.out.next hb).cells
      go_wp2
      first | exact post_of (by rfl) (by rfl) (Below.refl _ _) (by rfl) | exact rfl
    case r1g1 =>
      intro w9 hb
      refine over_nil ?_
      go_wp2
      first | exact post_of (by rfl) (by rfl) (Below.refl _ _) (by rfl) | exact rfl
    case r1g2 =>
      intro w9 hb
      refine over_some (ds1 := [13, 14]) (ds2 := []) [(.agg #[.int .u16 r.1, .int .u32 r.2.1, .int .u64 r.2.2]), (.int .i64 n)] (by kernel_rfl) ?_
      refine over_nil ?_
      simp only [putAll, put_lit, List.set_cons_succ, List.set_cons_zero]
      go_wp2_with fail
      have hc2 := sright_any r n w9 HR.out
      rw [HQ.out] at hc2
      refine hc2.mono ?_
      clear hc2
      rintro e w8 ⟨rfl, b6⟩
      go_wp2
      exact post_of (by rfl) (by rfl) b6 (by rfl)
    case r1g3 =>
      intro w9 hb
      refine over_nil ?_
      obtain ⟨p0, q0, r0⟩ := (KR.out.next hb).cells
      go_wp2
      first | exact post_of (by rfl) (by rfl) (Below.refl _ _) (by rfl) | exact rfl
    case r1g4 =>
      intro w9 hb
      refine over_nil ?_
      go_wp2
      first | exact post_of (by rfl) (by rfl) (Below.refl _ _) (by rfl) | exact rfl
    case r1g5 =>
      intro w9 hb
      refine over_some (ds1 := [16, 17]) (ds2 := []) [(.agg #[.int .u16 r.1, .int .u32 r.2.1, .int .u64 r.2.2]), (.int .i64 n)] (by kernel_rfl) ?_
      refine over_nil ?_
      simp only [putAll, put_lit, List.set_cons_succ, List.set_cons_zero]
      go_wp2_with fail
      have hc2 := refright_any r n w9 HR.out
      rw [HQ.out] at hc2
      refine hc2.mono ?_
      clear hc2
      rintro e w8 ⟨rfl, b6⟩
      go_wp2
      exact post_of (by rfl) (by rfl) b6 (by rfl)
    case r1g6 =>
      intro w9 hb
      refine over_some (ds1 := [15, 18]) (ds2 := []) [(.bool false), (.bool false)] (by kernel_rfl) ?_
      refine over_nil ?_
      simp only [putAll, put_lit, List.set_cons_succ, List.set_cons_zero]
      go_wp2
      exact post_of (by rfl) (by rfl) (Below.refl _ _) (by first | rfl | (show Value.bool _ = Value.bool _; rw [Value.bool.injEq]; first | exact decide_eq_true (by omega) | exact decide_eq_false (by omega) | assumption | (simp; omega)))
    case r1g7 =>
      intro w9 hb
      refine over_some (ds1 := [19]) (ds2 := []) [(.bool false)] (by kernel_rfl) ?_
      refine over_nil ?_
      simp only [putAll, put_lit, List.set_cons_succ, List.set_cons_zero]
      go_wp2
      first | exact post_of (by rfl) (by rfl) (Below.refl _ _) (by rfl) | exact rfl
    case r1g8 =>
      intro w9 hb
      refine over_some (ds1 := [20]) (ds2 := []) [(.bool false)] (by kernel_rfl) ?_
      refine over_nil ?_
      simp only [putAll, put_lit, List.set_cons_succ, List.set_cons_zero]
      go_wp2
      first | exact post_of (by rfl) (by rfl) (Below.refl _ _) (by rfl) | exact rfl
    case r1g9 =>
      intro w9 hb
      refine over_some (ds1 := [20]) (ds2 := []) [(.bool false)] (by kernel_rfl) ?_
      refine over_nil ?_
      simp only [putAll, put_lit, List.set_cons_succ, List.set_cons_zero]
      obtain ⟨p0, q0, r0⟩ := (KR.out.next hb).cells
      go_wp2
      first | exact post_of (by rfl) (by rfl) (Below.refl _ _) (by rfl) | exact rfl
    case r1g10 =>
      intro w9 hb
      refine over_some (ds1 := [20, 21, 22]) (ds2 := []) [(.bool false), (.int .u8 nd), (.agg #[.int .u16 r.1, .int .u32 r.2.1, .int .u64 r.2.2])] (by kernel_rfl) ?_
      refine over_nil ?_
      simp only [putAll, put_lit, List.set_cons_succ, List.set_cons_zero]
      go_wp2_with fail
      have hc2 := mark_any nd r w9
      refine hc2.mono ?_
      clear hc2
      rintro e w8 ⟨rfl, b6⟩
      go_wp2
      exact post_of (by rfl) (by rfl) b6 (by rfl)
    case r1g11 =>
      intro w9 hb
      refine over_some (ds1 := [20]) (ds2 := []) [(.bool false)] (by kernel_rfl) ?_
      refine over_nil ?_
      simp only [putAll, put_lit, List.set_cons_succ, List.set_cons_zero]
      go_wp2
      first | exact post_of (by rfl) (by rfl) (Below.refl _ _) (by rfl) | exact rfl
    case r1g12 =>
      intro w9 hb
      refine over_some (ds1 := [20]) (ds2 := []) [(.bool false)] (by kernel_rfl) ?_
      refine over_nil ?_
      simp only [putAll, put_lit, List.set_cons_succ, List.set_cons_zero]
      obtain ⟨p0, q0, r0⟩ := (KR.out.next hb).cells
      go_wp2
      first | exact post_of (by rfl) (by rfl) (Below.refl _ _) (by rfl) | exact rfl
    case r1g13 =>
      intro w9 hb
      refine over_some (ds1 := [20, 24, 25]) (ds2 := []) [(.bool false), (.int .u8 nd), (.agg #[.int .u16 r.1, .int .u32 r.2.1, .int .u64 r.2.2])] (by kernel_rfl) ?_
      refine over_nil ?_
      simp only [putAll, put_lit, List.set_cons_succ, List.set_cons_zero]
      go_wp2_with fail
      have hc2 := refMark_any nd r w9
      refine hc2.mono ?_
      clear hc2
      rintro e w8 ⟨rfl, b6⟩
      go_wp2
      exact post_of (by rfl) (by rfl) b6 (by rfl)
    case r1g14 =>
      intro w9 hb
      refine over_some (ds1 := [20, 23, 26]) (ds2 := []) [(.bool false), (.agg #[.int .u8 nd, .int .u16 r.1, .int .u32 r.2.1]), (.agg #[.int .u8 nd, .int .u16 r.1, .int .u32 r.2.1])] (by kernel_rfl) ?_
      refine over_nil ?_
      simp only [putAll, put_lit, List.set_cons_succ, List.set_cons_zero]
      go_wp2
      exact post_of (by rfl) (by rfl) (Below.refl _ _) (by first | rfl | (show Value.bool _ = Value.bool _; rw [Value.bool.injEq]; first | exact decide_eq_true (by omega) | exact decide_eq_false (by omega) | assumption | (simp; omega)))
    case r1g15 =>
      intro w9 hb
      refine over_some (ds1 := [20, 27]) (ds2 := []) [(.bool false), (.bool false)] (by kernel_rfl) ?_
      refine over_nil ?_
      simp only [putAll, put_lit, List.set_cons_succ, List.set_cons_zero]
      go_wp2
      first | exact post_of (by rfl) (by rfl) (Below.refl _ _) (by rfl) | exact rfl
  | true =>
    have HQ := Lib.hid hq
    clear hq
    obtain ⟨tk, HTK⟩ : ∃ tk, Hid (takeI r x = tk) := ⟨_, rfl⟩
    obtain ⟨h, HH⟩ : ∃ h, Hid (hasI r x = h) := ⟨_, rfl⟩
    have hbb : ∀ w', (binOp .eql 4 (.bool h) (.bool h)).run Tryd.prog w' = .ok (.bool true) w' := fun w' => by cases h <;> simp [go_sem]
    have hcc : ∀ (b : Bool) w', (binOp .eql 4 (.bool b) (.bool b)).run Tryd.prog w' = .ok (.bool true) w' := fun b w' => by cases b <;> simp [go_sem]
    cases hm : mayI r x n with
    | false =>
      have HM := Lib.hid hm
      have htt := hcc false
      have hrr := eq_refl r
      clear hm hcc
      go_enter Tryd.func3, Tryd.ntmps3
      go_upto_region 1 with fail
      generalize (w.alloc (.cells #[.int .u16 r.1, .int .u32 r.2.1, .int .u64 r.2.2] 26)).alloc (.cells #[.int .u8 x.1, .int .u16 x.2.1, .int .u32 x.2.2] 28) = w1 at *
      obtain ⟨gr, hgr⟩ : ∃ g, w.heap.size = g := ⟨_, rfl⟩
      rw [hgr] at KR KX ⊢
      clear hgr
      obtain ⟨gx, hgx⟩ : ∃ g, gr + 1 = g := ⟨_, rfl⟩
      rw [hgx] at KX ⊢
      clear hgx
      refine wp_region_typed 16 [(13, .val (.agg #[.int .u16 r.1, .int .u32 r.2.1, .int .u64 r.2.2])), (14, .val (.int .i64 n)), (15, .val (.bool true)), (16, .val (.agg #[.int .u16 r.1, .int .u32 r.2.1, .int .u64 r.2.2])), (17, .val (.int .i64 n)), (18, .val (.bool true)), (19, .val (.bool false)), (20, .val (.bool false)), (21, .val (.int .u8 nd)), (22, .val (.agg #[.int .u16 r.1, .int .u32 r.2.1, .int .u64 r.2.2])), (23, .val (.agg #[.int .u8 nd, .int .u16 r.1, .int .u32 r.2.1])), (24, .val (.int .u8 nd)), (25, .val (.agg #[.int .u16 r.1, .int .u32 r.2.1, .int .u64 r.2.2])), (26, .val (.agg #[.int .u8 nd, .int .u16 r.1, .int .u32 r.2.1])), (27, .val (.bool false)), (28, .val (.bool false))]
        [[], [], [13, 14], [], [], [16, 17], [15, 18], [19], [20], [20], [20, 21, 22], [20], [20], [20, 24, 25], [20, 23, 26], [20, 27]] (by kernel_rfl) (by kernel_rfl) ?_ ?_
      rotate_left
      · intro v2 hb
        simp only [List.take_succ_cons, List.take_zero, List.drop_succ_cons, List.drop_zero]
        refine over_ds (ds := [13, 14, 15, 16, 17, 18, 19, 20, 21, 22, 23, 24, 25, 26, 27, 28]) (by kernel_rfl) ?_
        refine over_some (ds1 := [13, 14, 15, 16, 17, 18, 19, 20, 21, 22, 23, 24, 25, 26, 27, 28]) (ds2 := []) [(.agg #[.int .u16 r.1, .int .u32 r.2.1, .int .u64 r.2.2]), (.int .i64 n), (.bool true), (.agg #[.int .u16 r.1, .int .u32 r.2.1, .int .u64 r.2.2]), (.int .i64 n), (.bool true), (.bool false), (.bool false), (.int .u8 nd), (.agg #[.int .u16 r.1, .int .u32 r.2.1, .int .u64 r.2.2]), (.agg #[.int .u8 nd, .int .u16 r.1, .int .u32 r.2.1]), (.int .u8 nd), (.agg #[.int .u16 r.1, .int .u32 r.2.1, .int .u64 r.2.2]), (.agg #[.int .u8 nd, .int .u16 r.1, .int .u32 r.2.1]), (.bool false), (.bool false)] (by kernel_rfl) ?_
        refine over_nil ?_
        simp only [putAll, put_lit, List.set_cons_succ, List.set_cons_zero]
        replace KR := Lib.hid (KR.out.next hb)
        replace KX := Lib.hid (KX.out.next hb)
        replace B := Lib.hid (thn B.out hb)
        clear hb
        obtain ⟨pKR, qKR, rKR⟩ := KR.out.cells
        obtain ⟨pKX, qKX, rKX⟩ := KX.out.cells
        go_wp2_with fail
        have hc := refright_any r n v2 HR.out
        rw [HQ.out] at hc
        refine hc.mono ?_
        clear hc
        clear pKR qKR rKR pKX qKX rKX
        rintro e w3 ⟨rfl, b5⟩
        replace KR := Lib.hid (KR.out.next b5)
        replace KX := Lib.hid (KX.out.next b5)
        replace B := Lib.hid (thn B.out b5)
        clear b5
        obtain ⟨pKR, qKR, rKR⟩ := KR.out.cells
        obtain ⟨pKX, qKX, rKX⟩ := KX.out.cells
        go_wp2_with fail
        have hc := take_no r x n w3 HR.out HX.out HM.out
        refine hc.mono ?_
        clear hc
        clear pKR qKR rKR pKX qKX rKX
        rintro e w4 ⟨rfl, b5⟩
        replace KR := Lib.hid (KR.out.next b5)
        replace KX := Lib.hid (KX.out.next b5)
        replace B := Lib.hid (thn B.out b5)
        clear b5
        go_upto_region 6 with fail
        have hbl := below_lit w4 (.cells #[.int .u16 r.1, .int .u32 r.2.1, .int .u64 r.2.2] 26)
        replace KR := Lib.hid (KR.out.next hbl)
        replace KX := Lib.hid (KX.out.next hbl)
        replace B := Lib.hid (thn B.out hbl)
        clear hbl
        have KA : Hid (RowBlk (w4.alloc (.cells #[.int .u16 r.1, .int .u32 r.2.1, .int .u64 r.2.2] 26)) w4.heap.size r) := RowBlk.new w4 r
        generalize w4.alloc (.cells #[.int .u16 r.1, .int .u32 r.2.1, .int .u64 r.2.2] 26) = w5 at *
        obtain ⟨ga, hga⟩ : ∃ g, w4.heap.size = g := ⟨_, rfl⟩
        rw [hga] at KA ⊢
        clear hga
        obtain ⟨pKR, qKR, rKR⟩ := KR.out.cells
        obtain ⟨pKX, qKX, rKX⟩ := KX.out.cells
        obtain ⟨pKA, qKA, rKA⟩ := KA.out.cells
        go_wp2_with fail
        have hc := reftake_no r x n w5 HR.out HX.out HM.out
        refine hc.mono ?_
        clear hc
        clear pKR qKR rKR pKX qKX rKX pKA qKA rKA
        rintro e w6 ⟨rfl, b5⟩
        replace KR := Lib.hid (KR.out.next b5)
        replace KX := Lib.hid (KX.out.next b5)
        replace KA := Lib.hid (KA.out.next b5)
        replace B := Lib.hid (thn B.out b5)
        clear b5
        go_wp2_with fail
        have hbl := below_lit w6 (.cells #[.int .u16 r.1, .int .u32 r.2.1, .int .u64 r.2.2] 26)
        replace KR := Lib.hid (KR.out.next hbl)
        replace KX := Lib.hid (KX.out.next hbl)
        replace KA := Lib.hid (KA.out.next hbl)
        replace B := Lib.hid (thn B.out hbl)
        clear hbl
        have KB : Hid (RowBlk (w6.alloc (.cells #[.int .u16 r.1, .int .u32 r.2.1, .int .u64 r.2.2] 26)) w6.heap.size r) := RowBlk.new w6 r
        generalize w6.alloc (.cells #[.int .u16 r.1, .int .u32 r.2.1, .int .u64 r.2.2] 26) = w7 at *
        obtain ⟨gb, hgb⟩ : ∃ g, w6.heap.size = g := ⟨_, rfl⟩
        rw [hgb] at KB ⊢
        clear hgb
        refine wp_region_typed 31 [(55, .val (.agg #[.int .u16 r.1, .int .u32 r.2.1, .int .u64 r.2.2])), (56, .val (.agg #[.int .u8 x.1, .int .u16 x.2.1, .int .u32 x.2.2])), (57, .val (.bool h)), (58, .val (.agg #[.int .u16 r.1, .int .u32 r.2.1, .int .u64 r.2.2])), (59, .val (.agg #[.int .u8 x.1, .int .u16 x.2.1, .int .u32 x.2.2])), (60, .val (.bool h)), (61, .val (.bool true)), (62, .val (.bool true)), (63, .val (.agg #[.int .u16 r.1, .int .u32 r.2.1, .int .u64 r.2.2])), (64, .val (.agg #[.int .u8 x.1, .int .u16 x.2.1, .int .u32 x.2.2])), (65, .val (.int .i64 n)), (66, .val (.bool false)), (67, .val (.agg #[.int .u16 r.1, .int .u32 r.2.1, .int .u64 r.2.2])), (68, .val (.agg #[.int .u8 x.1, .int .u16 x.2.1, .int .u32 x.2.2])), (69, .val (.int .i64 n)), (70, .val (.bool false)), (71, .val (.bool true)), (72, .val (.bool true)), (73, .val (.bool true)), (74, .val (.agg #[.int .u16 r.1, .int .u32 r.2.1, .int .u64 r.2.2])), (75, .val (.agg #[.int .u16 r.1, .int .u32 r.2.1, .int .u64 r.2.2])), (76, .val (.bool true)), (77, .val (.bool true)), (78, .val (.bool true)), (79, .val (.bool false)), (80, .val (.bool false)), (81, .val (.bool true)), (82, .val (.bool true)), (83, .val (.bool true)), (84, .val (.bool true)), (85, .val (.bool true))]
          [[], [], [55, 56], [], [], [58, 59], [57, 60], [61], [62], [62], [62], [62, 63, 64, 65], [62], [62], [62], [62, 67, 68, 69], [62, 66, 70], [62, 71], [72], [73], [73], [73, 74, 75], [73, 76], [77], [78], [78], [78, 79, 80], [78, 81], [82], [83], [83, 84]] (by kernel_rfl) (by kernel_rfl) ?_ ?_
        rotate_left
        · intro v8 hb
          simp only [List.take_succ_cons, List.take_zero, List.drop_succ_cons, List.drop_zero]
          refine over_ds (ds := [55, 56, 57, 58, 59, 60, 61, 62, 63, 64, 65, 66, 67, 68, 69, 70, 71, 72, 73, 74, 75, 76, 77, 78, 79, 80, 81, 82, 83, 84, 85]) (by kernel_rfl) ?_
          refine over_some (ds1 := [55, 56, 57, 58, 59, 60, 61, 62, 63, 64, 65, 66, 67, 68, 69, 70, 71, 72, 73, 74, 75, 76, 77, 78, 79, 80, 81, 82, 83, 84, 85]) (ds2 := []) [(.agg #[.int .u16 r.1, .int .u32 r.2.1, .int .u64 r.2.2]), (.agg #[.int .u8 x.1, .int .u16 x.2.1, .int .u32 x.2.2]), (.bool h), (.agg #[.int .u16 r.1, .int .u32 r.2.1, .int .u64 r.2.2]), (.agg #[.int .u8 x.1, .int .u16 x.2.1, .int .u32 x.2.2]), (.bool h), (.bool true), (.bool true), (.agg #[.int .u16 r.1, .int .u32 r.2.1, .int .u64 r.2.2]), (.agg #[.int .u8 x.1, .int .u16 x.2.1, .int .u32 x.2.2]), (.int .i64 n), (.bool false), (.agg #[.int .u16 r.1, .int .u32 r.2.1, .int .u64 r.2.2]), (.agg #[.int .u8 x.1, .int .u16 x.2.1, .int .u32 x.2.2]), (.int .i64 n), (.bool false), (.bool true), (.bool true), (.bool true), (.agg #[.int .u16 r.1, .int .u32 r.2.1, .int .u64 r.2.2]), (.agg #[.int .u16 r.1, .int .u32 r.2.1, .int .u64 r.2.2]), (.bool true), (.bool true), (.bool true), (.bool false), (.bool false), (.bool true), (.bool true), (.bool true), (.bool true), (.bool true)] (by kernel_rfl) ?_
          refine over_nil ?_
          simp only [putAll, put_lit, List.set_cons_succ, List.set_cons_zero]
          replace KR := Lib.hid (KR.out.next hb)
          replace KX := Lib.hid (KX.out.next hb)
          replace KA := Lib.hid (KA.out.next hb)
          replace KB := Lib.hid (KB.out.next hb)
          replace B := Lib.hid (thn B.out hb)
          clear hb
          go_wp2
          go_ret
          exact ⟨rfl, B.out⟩
        simp only [List.take_succ_cons, List.take_zero]
        refine ⟨?r7g0, ?r7g1, ?r7g2, ?r7g3, ?r7g4, ?r7g5, ?r7g6, ?r7g7, ?r7g8, ?r7g9, ?r7g10, ?r7g11, ?r7g12, ?r7g13, ?r7g14, ?r7g15, ?r7g16, ?r7g17, ?r7g18, ?r7g19, ?r7g20, ?r7g21, ?r7g22, ?r7g23, ?r7g24, ?r7g25, ?r7g26, ?r7g27, ?r7g28, ?r7g29, ?r7g30, trivial⟩
        case r7g0 =>
          intro w9 hb
          refine over_nil ?_
          obtain ⟨p0, q0, r0⟩ := (KR.out.next hb).cells
          go_wp2
          first | exact post_of (by rfl) (by rfl) (Below.refl _ _) (by rfl) | exact rfl
        case r7g1 =>
          intro w9 hb
          refine over_nil ?_
          obtain ⟨p0, q0, r0⟩ := (KX.out.next hb).cells
          go_wp2
          first | exact post_of (by rfl) (by rfl) (Below.refl _ _) (by rfl) | exact rfl
        case r7g2 =>
          intro w9 hb
          refine over_some (ds1 := [55, 56]) (ds2 := []) [(.agg #[.int .u16 r.1, .int .u32 r.2.1, .int .u64 r.2.2]), (.agg #[.int .u8 x.1, .int .u16 x.2.1, .int .u32 x.2.2])] (by kernel_rfl) ?_
          refine over_nil ?_
          simp only [putAll, put_lit, List.set_cons_succ, List.set_cons_zero]
          go_wp2_with fail
          have hc2 := shas_any r x w9 HR.out HX.out
          rw [HH.out] at hc2
          refine hc2.mono ?_
          clear hc2
          rintro e w8 ⟨rfl, b6⟩
          go_wp2
          exact post_of (by rfl) (by rfl) b6 (by rfl)
        case r7g3 =>
          intro w9 hb
          refine over_nil ?_
          obtain ⟨p0, q0, r0⟩ := (KR.out.next hb).cells
          go_wp2
          first | exact post_of (by rfl) (by rfl) (Below.refl _ _) (by rfl) | exact rfl
        case r7g4 =>
          intro w9 hb
          refine over_nil ?_
          obtain ⟨p0, q0, r0⟩ := (KX.out.next hb).cells
          go_wp2
          first | exact post_of (by rfl) (by rfl) (Below.refl _ _) (by rfl) | exact rfl
        case r7g5 =>
          intro w9 hb
          refine over_some (ds1 := [58, 59]) (ds2 := []) [(.agg #[.int .u16 r.1, .int .u32 r.2.1, .int .u64 r.2.2]), (.agg #[.int .u8 x.1, .int .u16 x.2.1, .int .u32 x.2.2])] (by kernel_rfl) ?_
          refine over_nil ?_
          simp only [putAll, put_lit, List.set_cons_succ, List.set_cons_zero]
          go_wp2_with fail
          have hc2 := refhas_any r x w9 HR.out HX.out
          rw [HH.out] at hc2
          refine hc2.mono ?_
          clear hc2
          rintro e w8 ⟨rfl, b6⟩
          go_wp2
          exact post_of (by rfl) (by rfl) b6 (by rfl)
        case r7g6 =>
          intro w9 hb
          refine over_some (ds1 := [57, 60]) (ds2 := []) [(.bool h), (.bool h)] (by kernel_rfl) ?_
          refine over_nil ?_
          simp only [putAll, put_lit, List.set_cons_succ, List.set_cons_zero]
          go_wp2
          exact post_of (by rfl) (by rfl) (Below.refl _ _) (by first | rfl | (show Value.bool _ = Value.bool _; rw [Value.bool.injEq]; first | exact decide_eq_true (by omega) | exact decide_eq_false (by omega) | assumption | (simp; omega)))
        case r7g7 =>
          intro w9 hb
          refine over_some (ds1 := [61]) (ds2 := []) [(.bool true)] (by kernel_rfl) ?_
          refine over_nil ?_
          simp only [putAll, put_lit, List.set_cons_succ, List.set_cons_zero]
          go_wp2
          first | exact post_of (by rfl) (by rfl) (Below.refl _ _) (by rfl) | exact rfl
        case r7g8 =>
          intro w9 hb
          refine over_some (ds1 := [62]) (ds2 := []) [(.bool true)] (by kernel_rfl) ?_
          refine over_nil ?_
          simp only [putAll, put_lit, List.set_cons_succ, List.set_cons_zero]
          obtain ⟨p0, q0, r0⟩ := (KR.out.next hb).cells
          go_wp2
          first | exact post_of (by rfl) (by rfl) (Below.refl _ _) (by rfl) | exact rfl
        case r7g9 =>
          intro w9 hb
          refine over_some (ds1 := [62]) (ds2 := []) [(.bool true)] (by kernel_rfl) ?_
          refine over_nil ?_
          simp only [putAll, put_lit, List.set_cons_succ, List.set_cons_zero]
          obtain ⟨p0, q0, r0⟩ := (KX.out.next hb).cells
          go_wp2
          first | exact post_of (by rfl) (by rfl) (Below.refl _ _) (by rfl) | exact rfl
        case r7g10 =>
          intro w9 hb
          refine over_some (ds1 := [62]) (ds2 := []) [(.bool true)] (by kernel_rfl) ?_
          refine over_nil ?_
          simp only [putAll, put_lit, List.set_cons_succ, List.set_cons_zero]
          go_wp2
          first | exact post_of (by rfl) (by rfl) (Below.refl _ _) (by rfl) | exact rfl
        case r7g11 =>
          intro w9 hb
          refine over_some (ds1 := [62, 63, 64, 65]) (ds2 := []) [(.bool true), (.agg #[.int .u16 r.1, .int .u32 r.2.1, .int .u64 r.2.2]), (.agg #[.int .u8 x.1, .int .u16 x.2.1, .int .u32 x.2.2]), (.int .i64 n)] (by kernel_rfl) ?_
          refine over_nil ?_
          simp only [putAll, put_lit, List.set_cons_succ, List.set_cons_zero]
          go_wp2_with fail
          have hc2 := may_any r x n w9 HR.out HX.out
          rw [HM.out] at hc2
          refine hc2.mono ?_
          clear hc2
          rintro e w8 ⟨rfl, b6⟩
          go_wp2
          exact post_of (by rfl) (by rfl) b6 (by rfl)
        case r7g12 =>
          intro w9 hb
          refine over_some (ds1 := [62]) (ds2 := []) [(.bool true)] (by kernel_rfl) ?_
          refine over_nil ?_
          simp only [putAll, put_lit, List.set_cons_succ, List.set_cons_zero]
          obtain ⟨p0, q0, r0⟩ := (KR.out.next hb).cells
          go_wp2
          first | exact post_of (by rfl) (by rfl) (Below.refl _ _) (by rfl) | exact rfl
        case r7g13 =>
          intro w9 hb
          refine over_some (ds1 := [62]) (ds2 := []) [(.bool true)] (by kernel_rfl) ?_
          refine over_nil ?_
          simp only [putAll, put_lit, List.set_cons_succ, List.set_cons_zero]
          obtain ⟨p0, q0, r0⟩ := (KX.out.next hb).cells
          go_wp2
          first | exact post_of (by rfl) (by rfl) (Below.refl _ _) (by rfl) | exact rfl
        case r7g14 =>
          intro w9 hb
          refine over_some (ds1 := [62]) (ds2 := []) [(.bool true)] (by kernel_rfl) ?_
          refine over_nil ?_
          simp only [putAll, put_lit, List.set_cons_succ, List.set_cons_zero]
          go_wp2
          first | exact post_of (by rfl) (by rfl) (Below.refl _ _) (by rfl) | exact rfl
        case r7g15 =>
          intro w9 hb
          refine over_some (ds1 := [62, 67, 68, 69]) (ds2 := []) [(.bool true), (.agg #[.int .u16 r.1, .int .u32 r.2.1, .int .u64 r.2.2]), (.agg #[.int .u8 x.1, .int .u16 x.2.1, .int .u32 x.2.2]), (.int .i64 n)] (by kernel_rfl) ?_
          refine over_nil ?_
          simp only [putAll, put_lit, List.set_cons_succ, List.set_cons_zero]
          go_wp2_with fail
          have hc2 := refmay_any r x n w9 HR.out HX.out
          rw [HM.out] at hc2
          refine hc2.mono ?_
          clear hc2
          rintro e w8 ⟨rfl, b6⟩
          go_wp2
          exact post_of (by rfl) (by rfl) b6 (by rfl)
        case r7g16 =>
          intro w9 hb
          refine over_some (ds1 := [62, 66, 70]) (ds2 := []) [(.bool true), (.bool false), (.bool false)] (by kernel_rfl) ?_
          refine over_nil ?_
          simp only [putAll, put_lit, List.set_cons_succ, List.set_cons_zero]
          go_wp2
          exact post_of (by rfl) (by rfl) (Below.refl _ _) (by first | rfl | (show Value.bool _ = Value.bool _; rw [Value.bool.injEq]; first | exact decide_eq_true (by omega) | exact decide_eq_false (by omega) | assumption | (simp; omega)))
        case r7g17 =>
          intro w9 hb
          refine over_some (ds1 := [62, 71]) (ds2 := []) [(.bool true), (.bool true)] (by kernel_rfl) ?_
          refine over_nil ?_
          simp only [putAll, put_lit, List.set_cons_succ, List.set_cons_zero]
          go_wp2
          first | exact post_of (by rfl) (by rfl) (Below.refl _ _) (by rfl) | exact rfl
        case r7g18 =>
          intro w9 hb
          refine over_some (ds1 := [72]) (ds2 := []) [(.bool true)] (by kernel_rfl) ?_
          refine over_nil ?_
          simp only [putAll, put_lit, List.set_cons_succ, List.set_cons_zero]
          go_wp2
          first | exact post_of (by rfl) (by rfl) (Below.refl _ _) (by rfl) | exact rfl
        case r7g19 =>
          intro w9 hb
          refine over_some (ds1 := [73]) (ds2 := []) [(.bool true)] (by kernel_rfl) ?_
          refine over_nil ?_
          simp only [putAll, put_lit, List.set_cons_succ, List.set_cons_zero]
          obtain ⟨p0, q0, r0⟩ := (KA.out.next hb).cells
          go_wp2
          first | exact post_of (by rfl) (by rfl) (Below.refl _ _) (by rfl) | exact rfl
        case r7g20 =>
          intro w9 hb
          refine over_some (ds1 := [73]) (ds2 := []) [(.bool true)] (by kernel_rfl) ?_
          refine over_nil ?_
          simp only [putAll, put_lit, List.set_cons_succ, List.set_cons_zero]
          obtain ⟨p0, q0, r0⟩ := (KB.out.next hb).cells
          go_wp2
          first | exact post_of (by rfl) (by rfl) (Below.refl _ _) (by rfl) | exact rfl
        case r7g21 =>
          intro w9 hb
          refine over_some (ds1 := [73, 74, 75]) (ds2 := []) [(.bool true), (.agg #[.int .u16 r.1, .int .u32 r.2.1, .int .u64 r.2.2]), (.agg #[.int .u16 r.1, .int .u32 r.2.1, .int .u64 r.2.2])] (by kernel_rfl) ?_
          refine over_nil ?_
          simp only [putAll, put_lit, List.set_cons_succ, List.set_cons_zero]
          go_wp2
          exact post_of (by rfl) (by rfl) (Below.refl _ _) (by first | rfl | (show Value.bool _ = Value.bool _; rw [Value.bool.injEq]; first | exact decide_eq_true (by omega) | exact decide_eq_false (by omega) | assumption | (simp; omega)))
        case r7g22 =>
          intro w9 hb
          refine over_some (ds1 := [73, 76]) (ds2 := []) [(.bool true), (.bool true)] (by kernel_rfl) ?_
          refine over_nil ?_
          simp only [putAll, put_lit, List.set_cons_succ, List.set_cons_zero]
          go_wp2
          first | exact post_of (by rfl) (by rfl) (Below.refl _ _) (by rfl) | exact rfl
        case r7g23 =>
          intro w9 hb
          refine over_some (ds1 := [77]) (ds2 := []) [(.bool true)] (by kernel_rfl) ?_
          refine over_nil ?_
          simp only [putAll, put_lit, List.set_cons_succ, List.set_cons_zero]
          go_wp2
          first | exact post_of (by rfl) (by rfl) (Below.refl _ _) (by rfl) | exact rfl
        case r7g24 =>
          intro w9 hb
          refine over_some (ds1 := [78]) (ds2 := []) [(.bool true)] (by kernel_rfl) ?_
          refine over_nil ?_
          simp only [putAll, put_lit, List.set_cons_succ, List.set_cons_zero]
          go_wp2
          first | exact post_of (by rfl) (by rfl) (Below.refl _ _) (by rfl) | exact rfl
        case r7g25 =>
          intro w9 hb
          refine over_some (ds1 := [78]) (ds2 := []) [(.bool true)] (by kernel_rfl) ?_
          refine over_nil ?_
          simp only [putAll, put_lit, List.set_cons_succ, List.set_cons_zero]
          go_wp2
          first | exact post_of (by rfl) (by rfl) (Below.refl _ _) (by rfl) | exact rfl
        case r7g26 =>
          intro w9 hb
          refine over_some (ds1 := [78, 79, 80]) (ds2 := []) [(.bool true), (.bool false), (.bool false)] (by kernel_rfl) ?_
          refine over_nil ?_
          simp only [putAll, put_lit, List.set_cons_succ, List.set_cons_zero]
          go_wp2
          exact post_of (by rfl) (by rfl) (Below.refl _ _) (by first | rfl | (show Value.bool _ = Value.bool _; rw [Value.bool.injEq]; first | exact decide_eq_true (by omega) | exact decide_eq_false (by omega) | assumption | (simp; omega)))
        case r7g27 =>
          intro w9 hb
          refine over_some (ds1 := [78, 81]) (ds2 := []) [(.bool true), (.bool true)] (by kernel_rfl) ?_
          refine over_nil ?_
          simp only [putAll, put_lit, List.set_cons_succ, List.set_cons_zero]
          go_wp2
          first | exact post_of (by rfl) (by rfl) (Below.refl _ _) (by rfl) | exact rfl
        case r7g28 =>
          intro w9 hb
          refine over_some (ds1 := [82]) (ds2 := []) [(.bool true)] (by kernel_rfl) ?_
          refine over_nil ?_
          simp only [putAll, put_lit, List.set_cons_succ, List.set_cons_zero]
          go_wp2
          first | exact post_of (by rfl) (by rfl) (Below.refl _ _) (by rfl) | exact rfl
        case r7g29 =>
          intro w9 hb
          refine over_some (ds1 := [83]) (ds2 := []) [(.bool true)] (by kernel_rfl) ?_
          refine over_nil ?_
          simp only [putAll, put_lit, List.set_cons_succ, List.set_cons_zero]
          go_wp2_with fail
          have hc2 := awake_any w9 (HT.out.next (thn B.out hb))
          refine hc2.mono ?_
          clear hc2
          rintro e w8 ⟨rfl, b6⟩
          go_wp2
          exact post_of (by rfl) (by rfl) b6 (by rfl)
        case r7g30 =>
          intro w9 hb
          refine over_some (ds1 := [83, 84]) (ds2 := []) [(.bool true), (.bool true)] (by kernel_rfl) ?_
          refine over_nil ?_
          simp only [putAll, put_lit, List.set_cons_succ, List.set_cons_zero]
          go_wp2
          first | exact post_of (by rfl) (by rfl) (Below.refl _ _) (by rfl) | exact rfl
      simp only [List.take_succ_cons, List.take_zero]
      refine ⟨?r1g0, ?r1g1, ?r1g2, ?r1g3, ?r1g4, ?r1g5, ?r1g6, ?r1g7, ?r1g8, ?r1g9, ?r1g10, ?r1g11, ?r1g12, ?r1g13, ?r1g14, ?r1g15, trivial⟩
      case r1g0 =>
        intro w9 hb
        refine over_nil ?_
        obtain ⟨p0, q0, r0⟩ := (KR.out.next hb).cells
        go_wp2
        first | exact post_of (by rfl) (by rfl) (Below.refl _ _) (by rfl) | exact rfl
      case r1g1 =>
        intro w9 hb
        refine over_nil ?_
        go_wp2
        first | exact post_of (by rfl) (by rfl) (Below.refl _ _) (by rfl) | exact rfl
      case r1g2 =>
        intro w9 hb
        refine over_some (ds1 := [13, 14]) (ds2 := []) [(.agg #[.int .u16 r.1, .int .u32 r.2.1, .int .u64 r.2.2]), (.int .i64 n)] (by kernel_rfl) ?_
        refine over_nil ?_
        simp only [putAll, put_lit, List.set_cons_succ, List.set_cons_zero]
        go_wp2_with fail
        have hc2 := sright_any r n w9 HR.out
        rw [HQ.out] at hc2
        refine hc2.mono ?_
        clear hc2
        rintro e w8 ⟨rfl, b6⟩
        go_wp2
        exact post_of (by rfl) (by rfl) b6 (by rfl)
      case r1g3 =>
        intro w9 hb
        refine over_nil ?_
        obtain ⟨p0, q0, r0⟩ := (KR.out.next hb).cells
        go_wp2
        first | exact post_of (by rfl) (by rfl) (Below.refl _ _) (by rfl) | exact rfl
      case r1g4 =>
        intro w9 hb
        refine over_nil ?_
        go_wp2
        first | exact post_of (by rfl) (by rfl) (Below.refl _ _) (by rfl) | exact rfl
      case r1g5 =>
        intro w9 hb
        refine over_some (ds1 := [16, 17]) (ds2 := []) [(.agg #[.int .u16 r.1, .int .u32 r.2.1, .int .u64 r.2.2]), (.int .i64 n)] (by kernel_rfl) ?_
        refine over_nil ?_
        simp only [putAll, put_lit, List.set_cons_succ, List.set_cons_zero]
        go_wp2_with fail
        have hc2 := refright_any r n w9 HR.out
        rw [HQ.out] at hc2
        refine hc2.mono ?_
        clear hc2
        rintro e w8 ⟨rfl, b6⟩
        go_wp2
        exact post_of (by rfl) (by rfl) b6 (by rfl)
      case r1g6 =>
        intro w9 hb
        refine over_some (ds1 := [15, 18]) (ds2 := []) [(.bool true), (.bool true)] (by kernel_rfl) ?_
        refine over_nil ?_
        simp only [putAll, put_lit, List.set_cons_succ, List.set_cons_zero]
        go_wp2
        exact post_of (by rfl) (by rfl) (Below.refl _ _) (by first | rfl | (show Value.bool _ = Value.bool _; rw [Value.bool.injEq]; first | exact decide_eq_true (by omega) | exact decide_eq_false (by omega) | assumption | (simp; omega)))
      case r1g7 =>
        intro w9 hb
        refine over_some (ds1 := [19]) (ds2 := []) [(.bool false)] (by kernel_rfl) ?_
        refine over_nil ?_
        simp only [putAll, put_lit, List.set_cons_succ, List.set_cons_zero]
        go_wp2
        first | exact post_of (by rfl) (by rfl) (Below.refl _ _) (by rfl) | exact rfl
      case r1g8 =>
        intro w9 hb
        refine over_some (ds1 := [20]) (ds2 := []) [(.bool false)] (by kernel_rfl) ?_
        refine over_nil ?_
        simp only [putAll, put_lit, List.set_cons_succ, List.set_cons_zero]
        go_wp2
        first | exact post_of (by rfl) (by rfl) (Below.refl _ _) (by rfl) | exact rfl
      case r1g9 =>
        intro w9 hb
        refine over_some (ds1 := [20]) (ds2 := []) [(.bool false)] (by kernel_rfl) ?_
        refine over_nil ?_
        simp only [putAll, put_lit, List.set_cons_succ, List.set_cons_zero]
        obtain ⟨p0, q0, r0⟩ := (KR.out.next hb).cells
        go_wp2
        first | exact post_of (by rfl) (by rfl) (Below.refl _ _) (by rfl) | exact rfl
      case r1g10 =>
        intro w9 hb
        refine over_some (ds1 := [20, 21, 22]) (ds2 := []) [(.bool false), (.int .u8 nd), (.agg #[.int .u16 r.1, .int .u32 r.2.1, .int .u64 r.2.2])] (by kernel_rfl) ?_
        refine over_nil ?_
        simp only [putAll, put_lit, List.set_cons_succ, List.set_cons_zero]
        go_wp2_with fail
        have hc2 := mark_any nd r w9
        refine hc2.mono ?_
        clear hc2
        rintro e w8 ⟨rfl, b6⟩
        go_wp2
        exact post_of (by rfl) (by rfl) b6 (by rfl)
      case r1g11 =>
        intro w9 hb
        refine over_some (ds1 := [20]) (ds2 := []) [(.bool false)] (by kernel_rfl) ?_
        refine over_nil ?_
        simp only [putAll, put_lit, List.set_cons_succ, List.set_cons_zero]
        go_wp2
        first | exact post_of (by rfl) (by rfl) (Below.refl _ _) (by rfl) | exact rfl
      case r1g12 =>
        intro w9 hb
        refine over_some (ds1 := [20]) (ds2 := []) [(.bool false)] (by kernel_rfl) ?_
        refine over_nil ?_
        simp only [putAll, put_lit, List.set_cons_succ, List.set_cons_zero]
        obtain ⟨p0, q0, r0⟩ := (KR.out.next hb).cells
        go_wp2
        first | exact post_of (by rfl) (by rfl) (Below.refl _ _) (by rfl) | exact rfl
      case r1g13 =>
        intro w9 hb
        refine over_some (ds1 := [20, 24, 25]) (ds2 := []) [(.bool false), (.int .u8 nd), (.agg #[.int .u16 r.1, .int .u32 r.2.1, .int .u64 r.2.2])] (by kernel_rfl) ?_
        refine over_nil ?_
        simp only [putAll, put_lit, List.set_cons_succ, List.set_cons_zero]
        go_wp2_with fail
        have hc2 := refMark_any nd r w9
        refine hc2.mono ?_
        clear hc2
        rintro e w8 ⟨rfl, b6⟩
        go_wp2
        exact post_of (by rfl) (by rfl) b6 (by rfl)
      case r1g14 =>
        intro w9 hb
        refine over_some (ds1 := [20, 23, 26]) (ds2 := []) [(.bool false), (.agg #[.int .u8 nd, .int .u16 r.1, .int .u32 r.2.1]), (.agg #[.int .u8 nd, .int .u16 r.1, .int .u32 r.2.1])] (by kernel_rfl) ?_
        refine over_nil ?_
        simp only [putAll, put_lit, List.set_cons_succ, List.set_cons_zero]
        go_wp2
        exact post_of (by rfl) (by rfl) (Below.refl _ _) (by first | rfl | (show Value.bool _ = Value.bool _; rw [Value.bool.injEq]; first | exact decide_eq_true (by omega) | exact decide_eq_false (by omega) | assumption | (simp; omega)))
      case r1g15 =>
        intro w9 hb
        refine over_some (ds1 := [20, 27]) (ds2 := []) [(.bool false), (.bool false)] (by kernel_rfl) ?_
        refine over_nil ?_
        simp only [putAll, put_lit, List.set_cons_succ, List.set_cons_zero]
        go_wp2
        first | exact post_of (by rfl) (by rfl) (Below.refl _ _) (by rfl) | exact rfl
    | true =>
      have HM := Lib.hid hm
      have htt := hcc true
      have hrr := eq_refl tk
      clear hm hcc
      go_enter Tryd.func3, Tryd.ntmps3
      go_upto_region 1 with fail
      generalize (w.alloc (.cells #[.int .u16 r.1, .int .u32 r.2.1, .int .u64 r.2.2] 26)).alloc (.cells #[.int .u8 x.1, .int .u16 x.2.1, .int .u32 x.2.2] 28) = w1 at *
      obtain ⟨gr, hgr⟩ : ∃ g, w.heap.size = g := ⟨_, rfl⟩
      rw [hgr] at KR KX ⊢
      clear hgr
      obtain ⟨gx, hgx⟩ : ∃ g, gr + 1 = g := ⟨_, rfl⟩
      rw [hgx] at KX ⊢
      clear hgx
      refine wp_region_typed 16 [(13, .val (.agg #[.int .u16 r.1, .int .u32 r.2.1, .int .u64 r.2.2])), (14, .val (.int .i64 n)), (15, .val (.bool true)), (16, .val (.agg #[.int .u16 r.1, .int .u32 r.2.1, .int .u64 r.2.2])), (17, .val (.int .i64 n)), (18, .val (.bool true)), (19, .val (.bool false)), (20, .val (.bool false)), (21, .val (.int .u8 nd)), (22, .val (.agg #[.int .u16 r.1, .int .u32 r.2.1, .int .u64 r.2.2])), (23, .val (.agg #[.int .u8 nd, .int .u16 r.1, .int .u32 r.2.1])), (24, .val (.int .u8 nd)), (25, .val (.agg #[.int .u16 r.1, .int .u32 r.2.1, .int .u64 r.2.2])), (26, .val (.agg #[.int .u8 nd, .int .u16 r.1, .int .u32 r.2.1])), (27, .val (.bool false)), (28, .val (.bool false))]
        [[], [], [13, 14], [], [], [16, 17], [15, 18], [19], [20], [20], [20, 21, 22], [20], [20], [20, 24, 25], [20, 23, 26], [20, 27]] (by kernel_rfl) (by kernel_rfl) ?_ ?_
      rotate_left
      · intro v2 hb
        simp only [List.take_succ_cons, List.take_zero, List.drop_succ_cons, List.drop_zero]
        refine over_ds (ds := [13, 14, 15, 16, 17, 18, 19, 20, 21, 22, 23, 24, 25, 26, 27, 28]) (by kernel_rfl) ?_
        refine over_some (ds1 := [13, 14, 15, 16, 17, 18, 19, 20, 21, 22, 23, 24, 25, 26, 27, 28]) (ds2 := []) [(.agg #[.int .u16 r.1, .int .u32 r.2.1, .int .u64 r.2.2]), (.int .i64 n), (.bool true), (.agg #[.int .u16 r.1, .int .u32 r.2.1, .int .u64 r.2.2]), (.int .i64 n), (.bool true), (.bool false), (.bool false), (.int .u8 nd), (.agg #[.int .u16 r.1, .int .u32 r.2.1, .int .u64 r.2.2]), (.agg #[.int .u8 nd, .int .u16 r.1, .int .u32 r.2.1]), (.int .u8 nd), (.agg #[.int .u16 r.1, .int .u32 r.2.1, .int .u64 r.2.2]), (.agg #[.int .u8 nd, .int .u16 r.1, .int .u32 r.2.1]), (.bool false), (.bool false)] (by kernel_rfl) ?_
        refine over_nil ?_
        simp only [putAll, put_lit, List.set_cons_succ, List.set_cons_zero]
        replace KR := Lib.hid (KR.out.next hb)
        replace KX := Lib.hid (KX.out.next hb)
        replace B := Lib.hid (thn B.out hb)
        clear hb
        obtain ⟨pKR, qKR, rKR⟩ := KR.out.cells
        obtain ⟨pKX, qKX, rKX⟩ := KX.out.cells
        go_wp2_with fail
        have hc := refright_any r n v2 HR.out
        rw [HQ.out] at hc
        refine hc.mono ?_
        clear hc
        clear pKR qKR rKR pKX qKX rKX
        rintro e w3 ⟨rfl, b5⟩
        replace KR := Lib.hid (KR.out.next b5)
        replace KX := Lib.hid (KX.out.next b5)
        replace B := Lib.hid (thn B.out b5)
        clear b5
        obtain ⟨pKR, qKR, rKR⟩ := KR.out.cells
        obtain ⟨pKX, qKX, rKX⟩ := KX.out.cells
        go_wp2_with fail
        have hc := take_yes r x n w3 HR.out HX.out HQ.out HM.out (HT.out.next B.out)
        rw [HTK.out] at hc
        refine hc.mono ?_
        clear hc
        clear pKR qKR rKR pKX qKX rKX
        rintro e w4 ⟨rfl, b5⟩
        replace KR := Lib.hid (KR.out.next b5)
        replace KX := Lib.hid (KX.out.next b5)
        replace B := Lib.hid (thn B.out b5)
        clear b5
        go_upto_region 6 with fail
        have hbl := below_lit w4 (.cells #[.int .u16 tk.1, .int .u32 tk.2.1, .int .u64 tk.2.2] 26)
        replace KR := Lib.hid (KR.out.next hbl)
        replace KX := Lib.hid (KX.out.next hbl)
        replace B := Lib.hid (thn B.out hbl)
        clear hbl
        have KA : Hid (RowBlk (w4.alloc (.cells #[.int .u16 tk.1, .int .u32 tk.2.1, .int .u64 tk.2.2] 26)) w4.heap.size tk) := RowBlk.new w4 tk
        generalize w4.alloc (.cells #[.int .u16 tk.1, .int .u32 tk.2.1, .int .u64 tk.2.2] 26) = w5 at *
        obtain ⟨ga, hga⟩ : ∃ g, w4.heap.size = g := ⟨_, rfl⟩
        rw [hga] at KA ⊢
        clear hga
        obtain ⟨pKR, qKR, rKR⟩ := KR.out.cells
        obtain ⟨pKX, qKX, rKX⟩ := KX.out.cells
        obtain ⟨pKA, qKA, rKA⟩ := KA.out.cells
        go_wp2_with fail
        have hc := reftake_yes r x n w5 HR.out HX.out HQ.out HM.out
        rw [HTK.out] at hc
        refine hc.mono ?_
        clear hc
        clear pKR qKR rKR pKX qKX rKX pKA qKA rKA
        rintro e w6 ⟨rfl, b5⟩
        replace KR := Lib.hid (KR.out.next b5)
        replace KX := Lib.hid (KX.out.next b5)
        replace KA := Lib.hid (KA.out.next b5)
        replace B := Lib.hid (thn B.out b5)
        clear b5
        go_wp2_with fail
        have hbl := below_lit w6 (.cells #[.int .u16 tk.1, .int .u32 tk.2.1, .int .u64 tk.2.2] 26)
        replace KR := Lib.hid (KR.out.next hbl)
        replace KX := Lib.hid (KX.out.next hbl)
        replace KA := Lib.hid (KA.out.next hbl)
        replace B := Lib.hid (thn B.out hbl)
        clear hbl
        have KB : Hid (RowBlk (w6.alloc (.cells #[.int .u16 tk.1, .int .u32 tk.2.1, .int .u64 tk.2.2] 26)) w6.heap.size tk) := RowBlk.new w6 tk
        generalize w6.alloc (.cells #[.int .u16 tk.1, .int .u32 tk.2.1, .int .u64 tk.2.2] 26) = w7 at *
        obtain ⟨gb, hgb⟩ : ∃ g, w6.heap.size = g := ⟨_, rfl⟩
        rw [hgb] at KB ⊢
        clear hgb
        refine wp_region_typed 31 [(55, .val (.agg #[.int .u16 r.1, .int .u32 r.2.1, .int .u64 r.2.2])), (56, .val (.agg #[.int .u8 x.1, .int .u16 x.2.1, .int .u32 x.2.2])), (57, .val (.bool h)), (58, .val (.agg #[.int .u16 r.1, .int .u32 r.2.1, .int .u64 r.2.2])), (59, .val (.agg #[.int .u8 x.1, .int .u16 x.2.1, .int .u32 x.2.2])), (60, .val (.bool h)), (61, .val (.bool true)), (62, .val (.bool true)), (63, .val (.agg #[.int .u16 r.1, .int .u32 r.2.1, .int .u64 r.2.2])), (64, .val (.agg #[.int .u8 x.1, .int .u16 x.2.1, .int .u32 x.2.2])), (65, .val (.int .i64 n)), (66, .val (.bool true)), (67, .val (.agg #[.int .u16 r.1, .int .u32 r.2.1, .int .u64 r.2.2])), (68, .val (.agg #[.int .u8 x.1, .int .u16 x.2.1, .int .u32 x.2.2])), (69, .val (.int .i64 n)), (70, .val (.bool true)), (71, .val (.bool true)), (72, .val (.bool true)), (73, .val (.bool true)), (74, .val (.agg #[.int .u16 tk.1, .int .u32 tk.2.1, .int .u64 tk.2.2])), (75, .val (.agg #[.int .u16 tk.1, .int .u32 tk.2.1, .int .u64 tk.2.2])), (76, .val (.bool true)), (77, .val (.bool true)), (78, .val (.bool true)), (79, .val (.bool true)), (80, .val (.bool true)), (81, .val (.bool true)), (82, .val (.bool true)), (83, .val (.bool true)), (84, .val (.bool true)), (85, .val (.bool true))]
          [[], [], [55, 56], [], [], [58, 59], [57, 60], [61], [62], [62], [62], [62, 63, 64, 65], [62], [62], [62], [62, 67, 68, 69], [62, 66, 70], [62, 71], [72], [73], [73], [73, 74, 75], [73, 76], [77], [78], [78], [78, 79, 80], [78, 81], [82], [83], [83, 84]] (by kernel_rfl) (by kernel_rfl) ?_ ?_
        rotate_left
        · intro v8 hb
          simp only [List.take_succ_cons, List.take_zero, List.drop_succ_cons, List.drop_zero]
          refine over_ds (ds := [55, 56, 57, 58, 59, 60, 61, 62, 63, 64, 65, 66, 67, 68, 69, 70, 71, 72, 73, 74, 75, 76, 77, 78, 79, 80, 81, 82, 83, 84, 85]) (by kernel_rfl) ?_
          refine over_some (ds1 := [55, 56, 57, 58, 59, 60, 61, 62, 63, 64, 65, 66, 67, 68, 69, 70, 71, 72, 73, 74, 75, 76, 77, 78, 79, 80, 81, 82, 83, 84, 85]) (ds2 := []) [(.agg #[.int .u16 r.1, .int .u32 r.2.1, .int .u64 r.2.2]), (.agg #[.int .u8 x.1, .int .u16 x.2.1, .int .u32 x.2.2]), (.bool h), (.agg #[.int .u16 r.1, .int .u32 r.2.1, .int .u64 r.2.2]), (.agg #[.int .u8 x.1, .int .u16 x.2.1, .int .u32 x.2.2]), (.bool h), (.bool true), (.bool true), (.agg #[.int .u16 r.1, .int .u32 r.2.1, .int .u64 r.2.2]), (.agg #[.int .u8 x.1, .int .u16 x.2.1, .int .u32 x.2.2]), (.int .i64 n), (.bool true), (.agg #[.int .u16 r.1, .int .u32 r.2.1, .int .u64 r.2.2]), (.agg #[.int .u8 x.1, .int .u16 x.2.1, .int .u32 x.2.2]), (.int .i64 n), (.bool true), (.bool true), (.bool true), (.bool true), (.agg #[.int .u16 tk.1, .int .u32 tk.2.1, .int .u64 tk.2.2]), (.agg #[.int .u16 tk.1, .int .u32 tk.2.1, .int .u64 tk.2.2]), (.bool true), (.bool true), (.bool true), (.bool true), (.bool true), (.bool true), (.bool true), (.bool true), (.bool true), (.bool true)] (by kernel_rfl) ?_
          refine over_nil ?_
          simp only [putAll, put_lit, List.set_cons_succ, List.set_cons_zero]
          replace KR := Lib.hid (KR.out.next hb)
          replace KX := Lib.hid (KX.out.next hb)
          replace KA := Lib.hid (KA.out.next hb)
          replace KB := Lib.hid (KB.out.next hb)
          replace B := Lib.hid (thn B.out hb)
          clear hb
          go_wp2
          go_ret
          exact ⟨rfl, B.out⟩
        simp only [List.take_succ_cons, List.take_zero]
        refine ⟨?r7g0, ?r7g1, ?r7g2, ?r7g3, ?r7g4, ?r7g5, ?r7g6, ?r7g7, ?r7g8, ?r7g9, ?r7g10, ?r7g11, ?r7g12, ?r7g13, ?r7g14, ?r7g15, ?r7g16, ?r7g17, ?r7g18, ?r7g19, ?r7g20, ?r7g21, ?r7g22, ?r7g23, ?r7g24, ?r7g25, ?r7g26, ?r7g27, ?r7g28, ?r7g29, ?r7g30, trivial⟩
        case r7g0 =>
          intro w9 hb
          refine over_nil ?_
          obtain ⟨p0, q0, r0⟩ := (KR.out.next hb).cells
          go_wp2
          first | exact post_of (by rfl) (by rfl) (Below.refl _ _) (by rfl) | exact rfl
        case r7g1 =>
          intro w9 hb
          refine over_nil ?_
          obtain ⟨p0, q0, r0⟩ := (KX.out.next hb).cells
          go_wp2
          first | exact post_of (by rfl) (by rfl) (Below.refl _ _) (by rfl) | exact rfl
        case r7g2 =>
          intro w9 hb
          refine over_some (ds1 := [55, 56]) (ds2 := []) [(.agg #[.int .u16 r.1, .int .u32 r.2.1, .int .u64 r.2.2]), (.agg #[.int .u8 x.1, .int .u16 x.2.1, .int .u32 x.2.2])] (by kernel_rfl) ?_
          refine over_nil ?_
          simp only [putAll, put_lit, List.set_cons_succ, List.set_cons_zero]
          go_wp2_with fail
          have hc2 := shas_any r x w9 HR.out HX.out
          rw [HH.out] at hc2
          refine hc2.mono ?_
          clear hc2
          rintro e w8 ⟨rfl, b6⟩
          go_wp2
          exact post_of (by rfl) (by rfl) b6 (by rfl)
        case r7g3 =>
          intro w9 hb
          refine over_nil ?_
          obtain ⟨p0, q0, r0⟩ := (KR.out.next hb).cells
          go_wp2
          first | exact post_of (by rfl) (by rfl) (Below.refl _ _) (by rfl) | exact rfl
        case r7g4 =>
          intro w9 hb
          refine over_nil ?_
          obtain ⟨p0, q0, r0⟩ := (KX.out.next hb).cells
          go_wp2
          first | exact post_of (by rfl) (by rfl) (Below.refl _ _) (by rfl) | exact rfl
        case r7g5 =>
          intro w9 hb
          refine over_some (ds1 := [58, 59]) (ds2 := []) [(.agg #[.int .u16 r.1, .int .u32 r.2.1, .int .u64 r.2.2]), (.agg #[.int .u8 x.1, .int .u16 x.2.1, .int .u32 x.2.2])] (by kernel_rfl) ?_
          refine over_nil ?_
          simp only [putAll, put_lit, List.set_cons_succ, List.set_cons_zero]
          go_wp2_with fail
          have hc2 := refhas_any r x w9 HR.out HX.out
          rw [HH.out] at hc2
          refine hc2.mono ?_
          clear hc2
          rintro e w8 ⟨rfl, b6⟩
          go_wp2
          exact post_of (by rfl) (by rfl) b6 (by rfl)
        case r7g6 =>
          intro w9 hb
          refine over_some (ds1 := [57, 60]) (ds2 := []) [(.bool h), (.bool h)] (by kernel_rfl) ?_
          refine over_nil ?_
          simp only [putAll, put_lit, List.set_cons_succ, List.set_cons_zero]
          go_wp2
          exact post_of (by rfl) (by rfl) (Below.refl _ _) (by first | rfl | (show Value.bool _ = Value.bool _; rw [Value.bool.injEq]; first | exact decide_eq_true (by omega) | exact decide_eq_false (by omega) | assumption | (simp; omega)))
        case r7g7 =>
          intro w9 hb
          refine over_some (ds1 := [61]) (ds2 := []) [(.bool true)] (by kernel_rfl) ?_
          refine over_nil ?_
          simp only [putAll, put_lit, List.set_cons_succ, List.set_cons_zero]
          go_wp2
          first | exact post_of (by rfl) (by rfl) (Below.refl _ _) (by rfl) | exact rfl
        case r7g8 =>
          intro w9 hb
          refine over_some (ds1 := [62]) (ds2 := []) [(.bool true)] (by kernel_rfl) ?_
          refine over_nil ?_
          simp only [putAll, put_lit, List.set_cons_succ, List.set_cons_zero]
          obtain ⟨p0, q0, r0⟩ := (KR.out.next hb).cells
          go_wp2
          first | exact post_of (by rfl) (by rfl) (Below.refl _ _) (by rfl) | exact rfl
        case r7g9 =>
          intro w9 hb
          refine over_some (ds1 := [62]) (ds2 := []) [(.bool true)] (by kernel_rfl) ?_
          refine over_nil ?_
          simp only [putAll, put_lit, List.set_cons_succ, List.set_cons_zero]
          obtain ⟨p0, q0, r0⟩ := (KX.out.next hb).cells
          go_wp2
          first | exact post_of (by rfl) (by rfl) (Below.refl _ _) (by rfl) | exact rfl
        case r7g10 =>
          intro w9 hb
          refine over_some (ds1 := [62]) (ds2 := []) [(.bool true)] (by kernel_rfl) ?_
          refine over_nil ?_
          simp only [putAll, put_lit, List.set_cons_succ, List.set_cons_zero]
          go_wp2
          first | exact post_of (by rfl) (by rfl) (Below.refl _ _) (by rfl) | exact rfl
        case r7g11 =>
          intro w9 hb
          refine over_some (ds1 := [62, 63, 64, 65]) (ds2 := []) [(.bool true), (.agg #[.int .u16 r.1, .int .u32 r.2.1, .int .u64 r.2.2]), (.agg #[.int .u8 x.1, .int .u16 x.2.1, .int .u32 x.2.2]), (.int .i64 n)] (by kernel_rfl) ?_
          refine over_nil ?_
          simp only [putAll, put_lit, List.set_cons_succ, List.set_cons_zero]
          go_wp2_with fail
          have hc2 := may_any r x n w9 HR.out HX.out
          rw [HM.out] at hc2
          refine hc2.mono ?_
          clear hc2
          rintro e w8 ⟨rfl, b6⟩
          go_wp2
          exact post_of (by rfl) (by rfl) b6 (by rfl)
        case r7g12 =>
          intro w9 hb
          refine over_some (ds1 := [62]) (ds2 := []) [(.bool true)] (by kernel_rfl) ?_
          refine over_nil ?_
          simp only [putAll, put_lit, List.set_cons_succ, List.set_cons_zero]
          obtain ⟨p0, q0, r0⟩ := (KR.out.next hb).cells
          go_wp2
          first | exact post_of (by rfl) (by rfl) (Below.refl _ _) (by rfl) | exact rfl
        case r7g13 =>
          intro w9 hb
          refine over_some (ds1 := [62]) (ds2 := []) [(.bool true)] (by kernel_rfl) ?_
          refine over_nil ?_
          simp only [putAll, put_lit, List.set_cons_succ, List.set_cons_zero]
          obtain ⟨p0, q0, r0⟩ := (KX.out.next hb).cells
          go_wp2
          first | exact post_of (by rfl) (by rfl) (Below.refl _ _) (by rfl) | exact rfl
        case r7g14 =>
          intro w9 hb
          refine over_some (ds1 := [62]) (ds2 := []) [(.bool true)] (by kernel_rfl) ?_
          refine over_nil ?_
          simp only [putAll, put_lit, List.set_cons_succ, List.set_cons_zero]
          go_wp2
          first | exact post_of (by rfl) (by rfl) (Below.refl _ _) (by rfl) | exact rfl
        case r7g15 =>
          intro w9 hb
          refine over_some (ds1 := [62, 67, 68, 69]) (ds2 := []) [(.bool true), (.agg #[.int .u16 r.1, .int .u32 r.2.1, .int .u64 r.2.2]), (.agg #[.int .u8 x.1, .int .u16 x.2.1, .int .u32 x.2.2]), (.int .i64 n)] (by kernel_rfl) ?_
          refine over_nil ?_
          simp only [putAll, put_lit, List.set_cons_succ, List.set_cons_zero]
          go_wp2_with fail
          have hc2 := refmay_any r x n w9 HR.out HX.out
          rw [HM.out] at hc2
          refine hc2.mono ?_
          clear hc2
          rintro e w8 ⟨rfl, b6⟩
          go_wp2
          exact post_of (by rfl) (by rfl) b6 (by rfl)
        case r7g16 =>
          intro w9 hb
          refine over_some (ds1 := [62, 66, 70]) (ds2 := []) [(.bool true), (.bool true), (.bool true)] (by kernel_rfl) ?_
          refine over_nil ?_
          simp only [putAll, put_lit, List.set_cons_succ, List.set_cons_zero]
          go_wp2
          exact post_of (by rfl) (by rfl) (Below.refl _ _) (by first | rfl | (show Value.bool _ = Value.bool _; rw [Value.bool.injEq]; first | exact decide_eq_true (by omega) | exact decide_eq_false (by omega) | assumption | (simp; omega)))
        case r7g17 =>
          intro w9 hb
          refine over_some (ds1 := [62, 71]) (ds2 := []) [(.bool true), (.bool true)] (by kernel_rfl) ?_
          refine over_nil ?_
          simp only [putAll, put_lit, List.set_cons_succ, List.set_cons_zero]
          go_wp2
          first | exact post_of (by rfl) (by rfl) (Below.refl _ _) (by rfl) | exact rfl
        case r7g18 =>
          intro w9 hb
          refine over_some (ds1 := [72]) (ds2 := []) [(.bool true)] (by kernel_rfl) ?_
          refine over_nil ?_
          simp only [putAll, put_lit, List.set_cons_succ, List.set_cons_zero]
          go_wp2
          first | exact post_of (by rfl) (by rfl) (Below.refl _ _) (by rfl) | exact rfl
        case r7g19 =>
          intro w9 hb
          refine over_some (ds1 := [73]) (ds2 := []) [(.bool true)] (by kernel_rfl) ?_
          refine over_nil ?_
          simp only [putAll, put_lit, List.set_cons_succ, List.set_cons_zero]
          obtain ⟨p0, q0, r0⟩ := (KA.out.next hb).cells
          go_wp2
          first | exact post_of (by rfl) (by rfl) (Below.refl _ _) (by rfl) | exact rfl
        case r7g20 =>
          intro w9 hb
          refine over_some (ds1 := [73]) (ds2 := []) [(.bool true)] (by kernel_rfl) ?_
          refine over_nil ?_
          simp only [putAll, put_lit, List.set_cons_succ, List.set_cons_zero]
          obtain ⟨p0, q0, r0⟩ := (KB.out.next hb).cells
          go_wp2
          first | exact post_of (by rfl) (by rfl) (Below.refl _ _) (by rfl) | exact rfl
        case r7g21 =>
          intro w9 hb
          refine over_some (ds1 := [73, 74, 75]) (ds2 := []) [(.bool true), (.agg #[.int .u16 tk.1, .int .u32 tk.2.1, .int .u64 tk.2.2]), (.agg #[.int .u16 tk.1, .int .u32 tk.2.1, .int .u64 tk.2.2])] (by kernel_rfl) ?_
          refine over_nil ?_
          simp only [putAll, put_lit, List.set_cons_succ, List.set_cons_zero]
          go_wp2
          exact post_of (by rfl) (by rfl) (Below.refl _ _) (by first | rfl | (show Value.bool _ = Value.bool _; rw [Value.bool.injEq]; first | exact decide_eq_true (by omega) | exact decide_eq_false (by omega) | assumption | (simp; omega)))
        case r7g22 =>
          intro w9 hb
          refine over_some (ds1 := [73, 76]) (ds2 := []) [(.bool true), (.bool true)] (by kernel_rfl) ?_
          refine over_nil ?_
          simp only [putAll, put_lit, List.set_cons_succ, List.set_cons_zero]
          go_wp2
          first | exact post_of (by rfl) (by rfl) (Below.refl _ _) (by rfl) | exact rfl
        case r7g23 =>
          intro w9 hb
          refine over_some (ds1 := [77]) (ds2 := []) [(.bool true)] (by kernel_rfl) ?_
          refine over_nil ?_
          simp only [putAll, put_lit, List.set_cons_succ, List.set_cons_zero]
          go_wp2
          first | exact post_of (by rfl) (by rfl) (Below.refl _ _) (by rfl) | exact rfl
        case r7g24 =>
          intro w9 hb
          refine over_some (ds1 := [78]) (ds2 := []) [(.bool true)] (by kernel_rfl) ?_
          refine over_nil ?_
          simp only [putAll, put_lit, List.set_cons_succ, List.set_cons_zero]
          go_wp2
          first | exact post_of (by rfl) (by rfl) (Below.refl _ _) (by rfl) | exact rfl
        case r7g25 =>
          intro w9 hb
          refine over_some (ds1 := [78]) (ds2 := []) [(.bool true)] (by kernel_rfl) ?_
          refine over_nil ?_
          simp only [putAll, put_lit, List.set_cons_succ, List.set_cons_zero]
          go_wp2
          first | exact post_of (by rfl) (by rfl) (Below.refl _ _) (by rfl) | exact rfl
        case r7g26 =>
          intro w9 hb
          refine over_some (ds1 := [78, 79, 80]) (ds2 := []) [(.bool true), (.bool true), (.bool true)] (by kernel_rfl) ?_
          refine over_nil ?_
          simp only [putAll, put_lit, List.set_cons_succ, List.set_cons_zero]
          go_wp2
          exact post_of (by rfl) (by rfl) (Below.refl _ _) (by first | rfl | (show Value.bool _ = Value.bool _; rw [Value.bool.injEq]; first | exact decide_eq_true (by omega) | exact decide_eq_false (by omega) | assumption | (simp; omega)))
        case r7g27 =>
          intro w9 hb
          refine over_some (ds1 := [78, 81]) (ds2 := []) [(.bool true), (.bool true)] (by kernel_rfl) ?_
          refine over_nil ?_
          simp only [putAll, put_lit, List.set_cons_succ, List.set_cons_zero]
          go_wp2
          first | exact post_of (by rfl) (by rfl) (Below.refl _ _) (by rfl) | exact rfl
        case r7g28 =>
          intro w9 hb
          refine over_some (ds1 := [82]) (ds2 := []) [(.bool true)] (by kernel_rfl) ?_
          refine over_nil ?_
          simp only [putAll, put_lit, List.set_cons_succ, List.set_cons_zero]
          go_wp2
          first | exact post_of (by rfl) (by rfl) (Below.refl _ _) (by rfl) | exact rfl
        case r7g29 =>
          intro w9 hb
          refine over_some (ds1 := [83]) (ds2 := []) [(.bool true)] (by kernel_rfl) ?_
          refine over_nil ?_
          simp only [putAll, put_lit, List.set_cons_succ, List.set_cons_zero]
          go_wp2_with fail
          have hc2 := awake_any w9 (HT.out.next (thn B.out hb))
          refine hc2.mono ?_
          clear hc2
          rintro e w8 ⟨rfl, b6⟩
          go_wp2
          exact post_of (by rfl) (by rfl) b6 (by rfl)
        case r7g30 =>
          intro w9 hb
          refine over_some (ds1 := [83, 84]) (ds2 := []) [(.bool true), (.bool true)] (by kernel_rfl) ?_
          refine over_nil ?_
          simp only [putAll, put_lit, List.set_cons_succ, List.set_cons_zero]
          go_wp2
          first | exact post_of (by rfl) (by rfl) (Below.refl _ _) (by rfl) | exact rfl
      simp only [List.take_succ_cons, List.take_zero]
      refine ⟨?r1g0, ?r1g1, ?r1g2, ?r1g3, ?r1g4, ?r1g5, ?r1g6, ?r1g7, ?r1g8, ?r1g9, ?r1g10, ?r1g11, ?r1g12, ?r1g13, ?r1g14, ?r1g15, trivial⟩
      case r1g0 =>
        intro w9 hb
        refine over_nil ?_
        obtain ⟨p0, q0, r0⟩ := (KR.out.next hb).cells
        go_wp2
        first | exact post_of (by rfl) (by rfl) (Below.refl _ _) (by rfl) | exact rfl
      case r1g1 =>
        intro w9 hb
        refine over_nil ?_
        go_wp2
        first | exact post_of (by rfl) (by rfl) (Below.refl _ _) (by rfl) | exact rfl
      case r1g2 =>
        intro w9 hb
        refine over_some (ds1 := [13, 14]) (ds2 := []) [(.agg #[.int .u16 r.1, .int .u32 r.2.1, .int .u64 r.2.2]), (.int .i64 n)] (by kernel_rfl) ?_
        refine over_nil ?_
        simp only [putAll, put_lit, List.set_cons_succ, List.set_cons_zero]
        go_wp2_with fail
        have hc2 := sright_any r n w9 HR.out
        rw [HQ.out] at hc2
        refine hc2.mono ?_
        clear hc2
        rintro e w8 ⟨rfl, b6⟩
        go_wp2
        exact post_of (by rfl) (by rfl) b6 (by rfl)
      case r1g3 =>
        intro w9 hb
        refine over_nil ?_
        obtain ⟨p0, q0, r0⟩ := (KR.out.next hb).cells
        go_wp2
        first | exact post_of (by rfl) (by rfl) (Below.refl _ _) (by rfl) | exact rfl
      case r1g4 =>
        intro w9 hb
        refine over_nil ?_
        go_wp2
        first | exact post_of (by rfl) (by rfl) (Below.refl _ _) (by rfl) | exact rfl
      case r1g5 =>
        intro w9 hb
        refine over_some (ds1 := [16, 17]) (ds2 := []) [(.agg #[.int .u16 r.1, .int .u32 r.2.1, .int .u64 r.2.2]), (.int .i64 n)] (by kernel_rfl) ?_
        refine over_nil ?_
        simp only [putAll, put_lit, List.set_cons_succ, List.set_cons_zero]
        go_wp2_with fail
        have hc2 := refright_any r n w9 HR.out
        rw [HQ.out] at hc2
        refine hc2.mono ?_
        clear hc2
        rintro e w8 ⟨rfl, b6⟩
        go_wp2
        exact post_of (by rfl) (by rfl) b6 (by rfl)
      case r1g6 =>
        intro w9 hb
        refine over_some (ds1 := [15, 18]) (ds2 := []) [(.bool true), (.bool true)] (by kernel_rfl) ?_
        refine over_nil ?_
        simp only [putAll, put_lit, List.set_cons_succ, List.set_cons_zero]
        go_wp2
        exact post_of (by rfl) (by rfl) (Below.refl _ _) (by first | rfl | (show Value.bool _ = Value.bool _; rw [Value.bool.injEq]; first | exact decide_eq_true (by omega) | exact decide_eq_false (by omega) | assumption | (simp; omega)))
      case r1g7 =>
        intro w9 hb
        refine over_some (ds1 := [19]) (ds2 := []) [(.bool false)] (by kernel_rfl) ?_
        refine over_nil ?_
        simp only [putAll, put_lit, List.set_cons_succ, List.set_cons_zero]
        go_wp2
        first | exact post_of (by rfl) (by rfl) (Below.refl _ _) (by rfl) | exact rfl
      case r1g8 =>
        intro w9 hb
        refine over_some (ds1 := [20]) (ds2 := []) [(.bool false)] (by kernel_rfl) ?_
        refine over_nil ?_
        simp only [putAll, put_lit, List.set_cons_succ, List.set_cons_zero]
        go_wp2
        first | exact post_of (by rfl) (by rfl) (Below.refl _ _) (by rfl) | exact rfl
      case r1g9 =>
        intro w9 hb
        refine over_some (ds1 := [20]) (ds2 := []) [(.bool false)] (by kernel_rfl) ?_
        refine over_nil ?_
        simp only [putAll, put_lit, List.set_cons_succ, List.set_cons_zero]
        obtain ⟨p0, q0, r0⟩ := (KR.out.next hb).cells
        go_wp2
        first | exact post_of (by rfl) (by rfl) (Below.refl _ _) (by rfl) | exact rfl
      case r1g10 =>
        intro w9 hb
        refine over_some (ds1 := [20, 21, 22]) (ds2 := []) [(.bool false), (.int .u8 nd), (.agg #[.int .u16 r.1, .int .u32 r.2.1, .int .u64 r.2.2])] (by kernel_rfl) ?_
        refine over_nil ?_
        simp only [putAll, put_lit, List.set_cons_succ, List.set_cons_zero]
        go_wp2_with fail
        have hc2 := mark_any nd r w9
        refine hc2.mono ?_
        clear hc2
        rintro e w8 ⟨rfl, b6⟩
        go_wp2
        exact post_of (by rfl) (by rfl) b6 (by rfl)
      case r1g11 =>
        intro w9 hb
        refine over_some (ds1 := [20]) (ds2 := []) [(.bool false)] (by kernel_rfl) ?_
        refine over_nil ?_
        simp only [putAll, put_lit, List.set_cons_succ, List.set_cons_zero]
        go_wp2
        first | exact post_of (by rfl) (by rfl) (Below.refl _ _) (by rfl) | exact rfl
      case r1g12 =>
        intro w9 hb
        refine over_some (ds1 := [20]) (ds2 := []) [(.bool false)] (by kernel_rfl) ?_
        refine over_nil ?_
        simp only [putAll, put_lit, List.set_cons_succ, List.set_cons_zero]
        obtain ⟨p0, q0, r0⟩ := (KR.out.next hb).cells
        go_wp2
        first | exact post_of (by rfl) (by rfl) (Below.refl _ _) (by rfl) | exact rfl
      case r1g13 =>
        intro w9 hb
        refine over_some (ds1 := [20, 24, 25]) (ds2 := []) [(.bool false), (.int .u8 nd), (.agg #[.int .u16 r.1, .int .u32 r.2.1, .int .u64 r.2.2])] (by kernel_rfl) ?_
        refine over_nil ?_
        simp only [putAll, put_lit, List.set_cons_succ, List.set_cons_zero]
        go_wp2_with fail
        have hc2 := refMark_any nd r w9
        refine hc2.mono ?_
        clear hc2
        rintro e w8 ⟨rfl, b6⟩
        go_wp2
        exact post_of (by rfl) (by rfl) b6 (by rfl)
      case r1g14 =>
        intro w9 hb
        refine over_some (ds1 := [20, 23, 26]) (ds2 := []) [(.bool false), (.agg #[.int .u8 nd, .int .u16 r.1, .int .u32 r.2.1]), (.agg #[.int .u8 nd, .int .u16 r.1, .int .u32 r.2.1])] (by kernel_rfl) ?_
        refine over_nil ?_
        simp only [putAll, put_lit, List.set_cons_succ, List.set_cons_zero]
        go_wp2
        exact post_of (by rfl) (by rfl) (Below.refl _ _) (by first | rfl | (show Value.bool _ = Value.bool _; rw [Value.bool.injEq]; first | exact decide_eq_true (by omega) | exact decide_eq_false (by omega) | assumption | (simp; omega)))
      case r1g15 =>
        intro w9 hb
        refine over_some (ds1 := [20, 27]) (ds2 := []) [(.bool false), (.bool false)] (by kernel_rfl) ?_
        refine over_nil ?_
        simp only [putAll, put_lit, List.set_cons_succ, List.set_cons_zero]
        go_wp2
        first | exact post_of (by rfl) (by rfl) (Below.refl _ _) (by rfl) | exact rfl
end Go.Proofs.YtkdlgejkgcojkaaDoor
