/- Layer 8: May; its reference. -/
import Derived.Test.YtkdlgejkgcojkaaDoorQd
namespace Go.Proofs.YtkdlgejkgcojkaaDoor
open Go.RowKit
set_option linter.unusedVariables false
theorem fits_below (n : Int) (w : World) : Calls Tryd.prog 21 #[.int .i64 n] w fun e w' => e = .returned (.bool (decide (1 ≤ n ∧ n ≤ 64))) ∧ Below w.heap.size w w' :=
  (fits_any n w).mono fun e w' ⟨h, h'⟩ => ⟨h, by rw [← h']; exact Below.refl _ _⟩
theorem may_zero {r : Row3} {x : Id3} {n : Int} (h : ¬ ((1 ≤ n ∧ n ≤ 64) ∧ (1 ≤ x.2.1 ∧ r.1 ≤ x.2.1) ∧ 1 ≤ x.2.2)) : mayI r x n = false := by
  unfold mayI
  rw [decide_eq_false (fun h' => h ⟨h'.1, h'.2.1, h'.2.2.1⟩)]; rfl
theorem may_some {r : Row3} {x : Id3} {n : Int} (h : (1 ≤ n ∧ n ≤ 64) ∧ (1 ≤ x.2.1 ∧ r.1 ≤ x.2.1) ∧ 1 ≤ x.2.2) : mayI r x n = (decide (x.2.2 ≤ (ofI r x.2.1).2.1 + n) && !seenI (ofI r x.2.1) x.2.2) := by
  unfold mayI
  congr 1
  rw [decide_eq_decide]
  exact ⟨fun h' => h'.2.2.2, fun h' => ⟨h.1, h.2.1, h.2.2, h'⟩⟩
set_option maxRecDepth 100000 in
set_option maxHeartbeats 4000000 in
theorem may_any (r : Row3) (x : Id3) (n : Int) (w : World) (hr : rowR r) (hx : idR x) : Calls Tryd.prog 17 #[(.agg #[.int .u16 r.1, .int .u32 r.2.1, .int .u64 r.2.2]), (.agg #[.int .u8 x.1, .int .u16 x.2.1, .int .u32 x.2.2]), .int .i64 n] w fun e w' => e = .returned (.bool (mayI r x n)) ∧ Below w.heap.size w w' := by
  obtain ⟨_, ⟨i0, i1⟩, n0, n1⟩ := hx
  have ho := ofI_R hr ⟨i0, i1⟩
  obtain ⟨KR, KX, B⟩ := boxes2 w r x
  clear hr
  obtain ⟨o, HO⟩ : ∃ o, Hid (ofI r x.2.1 = o) := ⟨_, rfl⟩
  rw [HO.out] at ho
  have HR := Lib.hid ho
  clear ho
  by_cases hf : 1 ≤ n ∧ n ≤ 64
  · have F : Hid (decide (1 ≤ n ∧ n ≤ 64) = true) := decide_eq_true hf
    by_cases hi : 1 ≤ x.2.1
    · by_cases hg : r.1 ≤ x.2.1
      · obtain ⟨q, HC, HM⟩ : ∃ q, Hid (∀ W, Calls Tryd.prog 26 #[.int .u32 x.2.2, .func (.func 29) #[.agg #[.int .u16 o.1, .int .u32 o.2.1, .int .u64 o.2.2, .int .i64 n]] #[]] W fun e w' => e = .returned (.bool q) ∧ Below W.heap.size W w') ∧ Hid (mayI r x n = q) := by
          by_cases hs : 1 ≤ x.2.2
          · refine ⟨_, fun W => told_yes x.2.2 _ _ _ W (enters_of Tryd.func29 (by kernel_rfl) rfl) hs (rowopen_any o n x.2.2 W HR.out ⟨hs, n1⟩ hf), ?_⟩
            have := may_some (r := r) (x := x) (n := n) ⟨hf, ⟨hi, hg⟩, hs⟩
            rw [HO.out] at this
            exact this
          · exact ⟨false, fun W => told_no x.2.2 _ W (by omega), may_zero (by omega)⟩
        go_enter Tryd.func17, Tryd.ntmps17
        go_upto_region 1 with fail
        generalize (w.alloc (.cells #[.int .u16 r.1, .int .u32 r.2.1, .int .u64 r.2.2] 26)).alloc (.cells #[.int .u8 x.1, .int .u16 x.2.1, .int .u32 x.2.2] 28) = w1 at *
        obtain ⟨gr, hgr⟩ : ∃ g, w.heap.size = g := ⟨_, rfl⟩
        rw [hgr] at KR KX ⊢
        clear hgr
        obtain ⟨gx, hgx⟩ : ∃ g, gr + 1 = g := ⟨_, rfl⟩
        rw [hgx] at KX ⊢
        clear hgx
        refine wp_region_typed 26 [(7, .val (.int .i64 n)), (8, .val (.bool true)), (9, .val (.bool true)), (10, .val (.pointer (some ⟨gx, 1, none⟩))), (11, .val (.int .u16 x.2.1)), (12, .val (.bool true)), (13, .val (.bool true)), (14, .val (.bool true)), (15, .val (.pointer (some ⟨gx, 1, none⟩))), (16, .val (.int .u16 x.2.1)), (17, .val (.pointer (some ⟨gr, 0, none⟩))), (18, .val (.int .u16 r.1)), (19, .val (.bool true)), (20, .val (.bool true)), (21, .val (.bool true)), (22, .val (.pointer (some ⟨gx, 2, none⟩))), (23, .val (.int .u32 x.2.2)), (24, .val (.agg #[.int .u16 r.1, .int .u32 r.2.1, .int .u64 r.2.2])), (25, .val (.pointer (some ⟨gx, 1, none⟩))), (26, .val (.int .u16 x.2.1)), (27, .val (.agg #[.int .u16 o.1, .int .u32 o.2.1, .int .u64 o.2.2])), (28, .val (.int .i64 n)), (29, .val (.agg #[.int .u16 o.1, .int .u32 o.2.1, .int .u64 o.2.2, .int .i64 n])), (30, .val (.func (.func 29) #[(.agg #[.int .u16 o.1, .int .u32 o.2.1, .int .u64 o.2.2, .int .i64 n])] #[])), (31, .val (.bool q)), (32, .val (.bool q))]
          [[], [7], [8], [9], [9, 10], [9, 11], [9, 12], [13], [14], [14, 15], [14], [14, 17], [14, 16, 18], [14, 19], [20], [21], [21, 22], [21], [21], [21, 25], [21, 24, 26], [21], [21, 27, 28], [21, 29], [21, 23, 30], [21, 31]] (by kernel_rfl) (by kernel_rfl) ?_ ?_
        rotate_left
        · intro w9 hb
          simp only [List.take_succ_cons, List.take_zero, List.drop_succ_cons, List.drop_zero]
          refine over_ds (ds := [7, 8, 9, 10, 11, 12, 13, 14, 15, 16, 17, 18, 19, 20, 21, 22, 23, 24, 25, 26, 27, 28, 29, 30, 31, 32]) (by kernel_rfl) ?_
          refine over_some (ds1 := [7, 8, 9, 10, 11, 12, 13, 14, 15, 16, 17, 18, 19, 20, 21, 22, 23, 24, 25, 26, 27, 28, 29, 30, 31, 32]) (ds2 := []) [(.int .i64 n), (.bool true), (.bool true), (.pointer (some ⟨gx, 1, none⟩)), (.int .u16 x.2.1), (.bool true), (.bool true), (.bool true), (.pointer (some ⟨gx, 1, none⟩)), (.int .u16 x.2.1), (.pointer (some ⟨gr, 0, none⟩)), (.int .u16 r.1), (.bool true), (.bool true), (.bool true), (.pointer (some ⟨gx, 2, none⟩)), (.int .u32 x.2.2), (.agg #[.int .u16 r.1, .int .u32 r.2.1, .int .u64 r.2.2]), (.pointer (some ⟨gx, 1, none⟩)), (.int .u16 x.2.1), (.agg #[.int .u16 o.1, .int .u32 o.2.1, .int .u64 o.2.2]), (.int .i64 n), (.agg #[.int .u16 o.1, .int .u32 o.2.1, .int .u64 o.2.2, .int .i64 n]), (.func (.func 29) #[(.agg #[.int .u16 o.1, .int .u32 o.2.1, .int .u64 o.2.2, .int .i64 n])] #[]), (.bool q), (.bool q)] (by kernel_rfl) ?_
          refine over_nil ?_
          simp only [putAll, put_lit, List.set_cons_succ, List.set_cons_zero]
          have BB := Lib.hid (thn B.out hb)
          clear hb
          go_wp2
          go_ret
          exact ⟨ret_bool (by rw [HM.out]), BB.out⟩
        simp only [List.take_succ_cons, List.take_zero]
        refine ⟨?r1g0, ?r1g1, ?r1g2, ?r1g3, ?r1g4, ?r1g5, ?r1g6, ?r1g7, ?r1g8, ?r1g9, ?r1g10, ?r1g11, ?r1g12, ?r1g13, ?r1g14, ?r1g15, ?r1g16, ?r1g17, ?r1g18, ?r1g19, ?r1g20, ?r1g21, ?r1g22, ?r1g23, ?r1g24, ?r1g25, trivial⟩
        case r1g0 =>
          intro w9 hb
          refine over_nil ?_
          go_wp2
          first | exact post_of (by rfl) (by rfl) (Below.refl _ _) (by rfl) | exact rfl
        case r1g1 =>
          intro w9 hb
          refine over_some (ds1 := [7]) (ds2 := []) [(.int .i64 n)] (by kernel_rfl) ?_
          refine over_nil ?_
          simp only [putAll, put_lit, List.set_cons_succ, List.set_cons_zero]
          go_wp2_with fail
          have hc2 := fits_below n w9
          rw [F.out] at hc2
          refine hc2.mono ?_
          clear hc2
          rintro e w8 ⟨rfl, b6⟩
          go_wp2
          exact post_of (by rfl) (by rfl) b6 (by rfl)
        case r1g2 =>
          intro w9 hb
          refine over_some (ds1 := [8]) (ds2 := []) [(.bool true)] (by kernel_rfl) ?_
          refine over_nil ?_
          simp only [putAll, put_lit, List.set_cons_succ, List.set_cons_zero]
          go_wp2
          first | exact post_of (by rfl) (by rfl) (Below.refl _ _) (by rfl) | exact rfl
        case r1g3 =>
          intro w9 hb
          refine over_some (ds1 := [9]) (ds2 := []) [(.bool true)] (by kernel_rfl) ?_
          refine over_nil ?_
          simp only [putAll, put_lit, List.set_cons_succ, List.set_cons_zero]
          go_wp2
          first | exact post_of (by rfl) (by rfl) (Below.refl _ _) (by rfl) | exact rfl
        case r1g4 =>
          intro w9 hb
          refine over_some (ds1 := [9, 10]) (ds2 := []) [(.bool true), (.pointer (some ⟨gx, 1, none⟩))] (by kernel_rfl) ?_
          refine over_nil ?_
          simp only [putAll, put_lit, List.set_cons_succ, List.set_cons_zero]
          obtain ⟨p0, q0, r0⟩ := (KX.out.next hb).cells
          go_wp2
          first | exact post_of (by rfl) (by rfl) (Below.refl _ _) (by rfl) | exact rfl
        case r1g5 =>
          intro w9 hb
          refine over_some (ds1 := [9, 11]) (ds2 := []) [(.bool true), (.int .u16 x.2.1)] (by kernel_rfl) ?_
          refine over_nil ?_
          simp only [putAll, put_lit, List.set_cons_succ, List.set_cons_zero]
          go_wp2
          exact post_of (by rfl) (by rfl) (Below.refl _ _) (by first | rfl | (show Value.bool _ = Value.bool _; rw [Value.bool.injEq]; first | exact decide_eq_true (by omega) | exact decide_eq_false (by omega) | assumption | (simp; omega)))
        case r1g6 =>
          intro w9 hb
          refine over_some (ds1 := [9, 12]) (ds2 := []) [(.bool true), (.bool true)] (by kernel_rfl) ?_
          refine over_nil ?_
          simp only [putAll, put_lit, List.set_cons_succ, List.set_cons_zero]
          go_wp2
          first | exact post_of (by rfl) (by rfl) (Below.refl _ _) (by rfl) | exact rfl
        case r1g7 =>
          intro w9 hb
          refine over_some (ds1 := [13]) (ds2 := []) [(.bool true)] (by kernel_rfl) ?_
          refine over_nil ?_
          simp only [putAll, put_lit, List.set_cons_succ, List.set_cons_zero]
          go_wp2
          first | exact post_of (by rfl) (by rfl) (Below.refl _ _) (by rfl) | exact rfl
        case r1g8 =>
          intro w9 hb
          refine over_some (ds1 := [14]) (ds2 := []) [(.bool true)] (by kernel_rfl) ?_
          refine over_nil ?_
          simp only [putAll, put_lit, List.set_cons_succ, List.set_cons_zero]
          go_wp2
          first | exact post_of (by rfl) (by rfl) (Below.refl _ _) (by rfl) | exact rfl
        case r1g9 =>
          intro w9 hb
          refine over_some (ds1 := [14, 15]) (ds2 := []) [(.bool true), (.pointer (some ⟨gx, 1, none⟩))] (by kernel_rfl) ?_
          refine over_nil ?_
          simp only [putAll, put_lit, List.set_cons_succ, List.set_cons_zero]
          obtain ⟨p0, q0, r0⟩ := (KX.out.next hb).cells
          go_wp2
          first | exact post_of (by rfl) (by rfl) (Below.refl _ _) (by rfl) | exact rfl
        case r1g10 =>
          intro w9 hb
          refine over_some (ds1 := [14]) (ds2 := []) [(.bool true)] (by kernel_rfl) ?_
          refine over_nil ?_
          simp only [putAll, put_lit, List.set_cons_succ, List.set_cons_zero]
          go_wp2
          first | exact post_of (by rfl) (by rfl) (Below.refl _ _) (by rfl) | exact rfl
        case r1g11 =>
          intro w9 hb
          refine over_some (ds1 := [14, 17]) (ds2 := []) [(.bool true), (.pointer (some ⟨gr, 0, none⟩))] (by kernel_rfl) ?_
          refine over_nil ?_
          simp only [putAll, put_lit, List.set_cons_succ, List.set_cons_zero]
          obtain ⟨p0, q0, r0⟩ := (KR.out.next hb).cells
          go_wp2
          first | exact post_of (by rfl) (by rfl) (Below.refl _ _) (by rfl) | exact rfl
        case r1g12 =>
          intro w9 hb
          refine over_some (ds1 := [14, 16, 18]) (ds2 := []) [(.bool true), (.int .u16 x.2.1), (.int .u16 r.1)] (by kernel_rfl) ?_
          refine over_nil ?_
          simp only [putAll, put_lit, List.set_cons_succ, List.set_cons_zero]
          go_wp2
          exact post_of (by rfl) (by rfl) (Below.refl _ _) (by first | rfl | (show Value.bool _ = Value.bool _; rw [Value.bool.injEq]; first | exact decide_eq_true (by omega) | exact decide_eq_false (by omega) | assumption | (simp; omega)))
        case r1g13 =>
          intro w9 hb
          refine over_some (ds1 := [14, 19]) (ds2 := []) [(.bool true), (.bool true)] (by kernel_rfl) ?_
          refine over_nil ?_
          simp only [putAll, put_lit, List.set_cons_succ, List.set_cons_zero]
          go_wp2
          first | exact post_of (by rfl) (by rfl) (Below.refl _ _) (by rfl) | exact rfl
        case r1g14 =>
          intro w9 hb
          refine over_some (ds1 := [20]) (ds2 := []) [(.bool true)] (by kernel_rfl) ?_
          refine over_nil ?_
          simp only [putAll, put_lit, List.set_cons_succ, List.set_cons_zero]
          go_wp2
          first | exact post_of (by rfl) (by rfl) (Below.refl _ _) (by rfl) | exact rfl
        case r1g15 =>
          intro w9 hb
          refine over_some (ds1 := [21]) (ds2 := []) [(.bool true)] (by kernel_rfl) ?_
          refine over_nil ?_
          simp only [putAll, put_lit, List.set_cons_succ, List.set_cons_zero]
          go_wp2
          first | exact post_of (by rfl) (by rfl) (Below.refl _ _) (by rfl) | exact rfl
        case r1g16 =>
          intro w9 hb
          refine over_some (ds1 := [21, 22]) (ds2 := []) [(.bool true), (.pointer (some ⟨gx, 2, none⟩))] (by kernel_rfl) ?_
          refine over_nil ?_
          simp only [putAll, put_lit, List.set_cons_succ, List.set_cons_zero]
          obtain ⟨p0, q0, r0⟩ := (KX.out.next hb).cells
          go_wp2
          first | exact post_of (by rfl) (by rfl) (Below.refl _ _) (by rfl) | exact rfl
        case r1g17 =>
          intro w9 hb
          refine over_some (ds1 := [21]) (ds2 := []) [(.bool true)] (by kernel_rfl) ?_
          refine over_nil ?_
          simp only [putAll, put_lit, List.set_cons_succ, List.set_cons_zero]
          obtain ⟨p0, q0, r0⟩ := (KR.out.next hb).cells
          go_wp2
          first | exact post_of (by rfl) (by rfl) (Below.refl _ _) (by rfl) | exact rfl
        case r1g18 =>
          intro w9 hb
          refine over_some (ds1 := [21]) (ds2 := []) [(.bool true)] (by kernel_rfl) ?_
          refine over_nil ?_
          simp only [putAll, put_lit, List.set_cons_succ, List.set_cons_zero]
          go_wp2
          first | exact post_of (by rfl) (by rfl) (Below.refl _ _) (by rfl) | exact rfl
        case r1g19 =>
          intro w9 hb
          refine over_some (ds1 := [21, 25]) (ds2 := []) [(.bool true), (.pointer (some ⟨gx, 1, none⟩))] (by kernel_rfl) ?_
          refine over_nil ?_
          simp only [putAll, put_lit, List.set_cons_succ, List.set_cons_zero]
          obtain ⟨p0, q0, r0⟩ := (KX.out.next hb).cells
          go_wp2
          first | exact post_of (by rfl) (by rfl) (Below.refl _ _) (by rfl) | exact rfl
        case r1g20 =>
          intro w9 hb
          refine over_some (ds1 := [21, 24, 26]) (ds2 := []) [(.bool true), (.agg #[.int .u16 r.1, .int .u32 r.2.1, .int .u64 r.2.2]), (.int .u16 x.2.1)] (by kernel_rfl) ?_
          refine over_nil ?_
          simp only [putAll, put_lit, List.set_cons_succ, List.set_cons_zero]
          go_wp2_with fail
          have hc2 := of_any r x.2.1 w9
          rw [HO.out] at hc2
          refine hc2.mono ?_
          clear hc2
          rintro e w8 ⟨rfl, b6⟩
          go_wp2
          exact post_of (by rfl) (by rfl) b6 (by rfl)
        case r1g21 =>
          intro w9 hb
          refine over_some (ds1 := [21]) (ds2 := []) [(.bool true)] (by kernel_rfl) ?_
          refine over_nil ?_
          simp only [putAll, put_lit, List.set_cons_succ, List.set_cons_zero]
          go_wp2
          first | exact post_of (by rfl) (by rfl) (Below.refl _ _) (by rfl) | exact rfl
        case r1g22 =>
          intro w9 hb
          refine over_some (ds1 := [21, 27, 28]) (ds2 := []) [(.bool true), (.agg #[.int .u16 o.1, .int .u32 o.2.1, .int .u64 o.2.2]), (.int .i64 n)] (by kernel_rfl) ?_
          refine over_nil ?_
          simp only [putAll, put_lit, List.set_cons_succ, List.set_cons_zero]
          go_wp2
          first | exact post_of (by rfl) (by rfl) (Below.refl _ _) (by rfl) | exact rfl
        case r1g23 =>
          intro w9 hb
          refine over_some (ds1 := [21, 29]) (ds2 := []) [(.bool true), (.agg #[.int .u16 o.1, .int .u32 o.2.1, .int .u64 o.2.2, .int .i64 n])] (by kernel_rfl) ?_
          refine over_nil ?_
          simp only [putAll, put_lit, List.set_cons_succ, List.set_cons_zero]
          go_wp2
          first | exact post_of (by rfl) (by rfl) (Below.refl _ _) (by rfl) | exact rfl
        case r1g24 =>
          intro w9 hb
          refine over_some (ds1 := [21, 23, 30]) (ds2 := []) [(.bool true), (.int .u32 x.2.2), (.func (.func 29) #[(.agg #[.int .u16 o.1, .int .u32 o.2.1, .int .u64 o.2.2, .int .i64 n])] #[])] (by kernel_rfl) ?_
          refine over_nil ?_
          simp only [putAll, put_lit, List.set_cons_succ, List.set_cons_zero]
          go_wp2_with fail
          have hc2 := HC.out w9
          refine hc2.mono ?_
          clear hc2
          rintro e w8 ⟨rfl, b6⟩
          go_wp2
          exact post_of (by rfl) (by rfl) b6 (by rfl)
        case r1g25 =>
          intro w9 hb
          refine over_some (ds1 := [21, 31]) (ds2 := []) [(.bool true), (.bool q)] (by kernel_rfl) ?_
          refine over_nil ?_
          simp only [putAll, put_lit, List.set_cons_succ, List.set_cons_zero]
          go_wp2
          first | exact post_of (by rfl) (by rfl) (Below.refl _ _) (by rfl) | exact rfl
      · have HM : Hid (mayI r x n = false) := may_zero (by omega)
        go_enter Tryd.func17, Tryd.ntmps17
        go_upto_region 1 with fail
        generalize (w.alloc (.cells #[.int .u16 r.1, .int .u32 r.2.1, .int .u64 r.2.2] 26)).alloc (.cells #[.int .u8 x.1, .int .u16 x.2.1, .int .u32 x.2.2] 28) = w1 at *
        obtain ⟨gr, hgr⟩ : ∃ g, w.heap.size = g := ⟨_, rfl⟩
        rw [hgr] at KR KX ⊢
        clear hgr
        obtain ⟨gx, hgx⟩ : ∃ g, gr + 1 = g := ⟨_, rfl⟩
        rw [hgx] at KX ⊢
        clear hgx
        refine wp_region_typed 26 [(7, .val (.int .i64 n)), (8, .val (.bool true)), (9, .val (.bool true)), (10, .val (.pointer (some ⟨gx, 1, none⟩))), (11, .val (.int .u16 x.2.1)), (12, .val (.bool true)), (13, .val (.bool true)), (14, .val (.bool true)), (15, .val (.pointer (some ⟨gx, 1, none⟩))), (16, .val (.int .u16 x.2.1)), (17, .val (.pointer (some ⟨gr, 0, none⟩))), (18, .val (.int .u16 r.1)), (19, .val (.bool false)), (20, .val (.bool false)), (21, .val (.bool false)), (22, .val undef), (23, .val undef), (24, .val undef), (25, .val undef), (26, .val undef), (27, .val undef), (28, .val undef), (29, .val undef), (30, .val undef), (31, .val undef), (32, .val (.bool false))]
          [[], [7], [8], [9], [9, 10], [9, 11], [9, 12], [13], [14], [14, 15], [14], [14, 17], [14, 16, 18], [14, 19], [20], [21], [21, 22], [21], [21], [21, 25], [21, 24, 26], [21], [21, 27, 28], [21, 29], [21, 23, 30], [21, 31]] (by kernel_rfl) (by kernel_rfl) ?_ ?_
        rotate_left
        · intro w9 hb
          simp only [List.take_succ_cons, List.take_zero, List.drop_succ_cons, List.drop_zero]
          refine over_ds (ds := [7, 8, 9, 10, 11, 12, 13, 14, 15, 16, 17, 18, 19, 20, 21, 22, 23, 24, 25, 26, 27, 28, 29, 30, 31, 32]) (by kernel_rfl) ?_
          refine over_some (ds1 := [7, 8, 9, 10, 11, 12, 13, 14, 15, 16, 17, 18, 19, 20, 21, 22, 23, 24, 25, 26, 27, 28, 29, 30, 31, 32]) (ds2 := []) [(.int .i64 n), (.bool true), (.bool true), (.pointer (some ⟨gx, 1, none⟩)), (.int .u16 x.2.1), (.bool true), (.bool true), (.bool true), (.pointer (some ⟨gx, 1, none⟩)), (.int .u16 x.2.1), (.pointer (some ⟨gr, 0, none⟩)), (.int .u16 r.1), (.bool false), (.bool false), (.bool false), undef, undef, undef, undef, undef, undef, undef, undef, undef, undef, (.bool false)] (by kernel_rfl) ?_
          refine over_nil ?_
          simp only [putAll, put_lit, List.set_cons_succ, List.set_cons_zero]
          have BB := Lib.hid (thn B.out hb)
          clear hb
          go_wp2
          go_ret
          exact ⟨ret_bool (by rw [HM.out]), BB.out⟩
        simp only [List.take_succ_cons, List.take_zero]
        refine ⟨?r1g0, ?r1g1, ?r1g2, ?r1g3, ?r1g4, ?r1g5, ?r1g6, ?r1g7, ?r1g8, ?r1g9, ?r1g10, ?r1g11, ?r1g12, ?r1g13, ?r1g14, ?r1g15, ?r1g16, ?r1g17, ?r1g18, ?r1g19, ?r1g20, ?r1g21, ?r1g22, ?r1g23, ?r1g24, ?r1g25, trivial⟩
        case r1g0 =>
          intro w9 hb
          refine over_nil ?_
          go_wp2
          first | exact post_of (by rfl) (by rfl) (Below.refl _ _) (by rfl) | exact rfl
        case r1g1 =>
          intro w9 hb
          refine over_some (ds1 := [7]) (ds2 := []) [(.int .i64 n)] (by kernel_rfl) ?_
          refine over_nil ?_
          simp only [putAll, put_lit, List.set_cons_succ, List.set_cons_zero]
          go_wp2_with fail
          have hc2 := fits_below n w9
          rw [F.out] at hc2
          refine hc2.mono ?_
          clear hc2
          rintro e w8 ⟨rfl, b6⟩
          go_wp2
          exact post_of (by rfl) (by rfl) b6 (by rfl)
        case r1g2 =>
          intro w9 hb
          refine over_some (ds1 := [8]) (ds2 := []) [(.bool true)] (by kernel_rfl) ?_
          refine over_nil ?_
          simp only [putAll, put_lit, List.set_cons_succ, List.set_cons_zero]
          go_wp2
          first | exact post_of (by rfl) (by rfl) (Below.refl _ _) (by rfl) | exact rfl
        case r1g3 =>
          intro w9 hb
          refine over_some (ds1 := [9]) (ds2 := []) [(.bool true)] (by kernel_rfl) ?_
          refine over_nil ?_
          simp only [putAll, put_lit, List.set_cons_succ, List.set_cons_zero]
          go_wp2
          first | exact post_of (by rfl) (by rfl) (Below.refl _ _) (by rfl) | exact rfl
        case r1g4 =>
          intro w9 hb
          refine over_some (ds1 := [9, 10]) (ds2 := []) [(.bool true), (.pointer (some ⟨gx, 1, none⟩))] (by kernel_rfl) ?_
          refine over_nil ?_
          simp only [putAll, put_lit, List.set_cons_succ, List.set_cons_zero]
          obtain ⟨p0, q0, r0⟩ := (KX.out.next hb).cells
          go_wp2
          first | exact post_of (by rfl) (by rfl) (Below.refl _ _) (by rfl) | exact rfl
        case r1g5 =>
          intro w9 hb
          refine over_some (ds1 := [9, 11]) (ds2 := []) [(.bool true), (.int .u16 x.2.1)] (by kernel_rfl) ?_
          refine over_nil ?_
          simp only [putAll, put_lit, List.set_cons_succ, List.set_cons_zero]
          go_wp2
          exact post_of (by rfl) (by rfl) (Below.refl _ _) (by first | rfl | (show Value.bool _ = Value.bool _; rw [Value.bool.injEq]; first | exact decide_eq_true (by omega) | exact decide_eq_false (by omega) | assumption | (simp; omega)))
        case r1g6 =>
          intro w9 hb
          refine over_some (ds1 := [9, 12]) (ds2 := []) [(.bool true), (.bool true)] (by kernel_rfl) ?_
          refine over_nil ?_
          simp only [putAll, put_lit, List.set_cons_succ, List.set_cons_zero]
          go_wp2
          first | exact post_of (by rfl) (by rfl) (Below.refl _ _) (by rfl) | exact rfl
        case r1g7 =>
          intro w9 hb
          refine over_some (ds1 := [13]) (ds2 := []) [(.bool true)] (by kernel_rfl) ?_
          refine over_nil ?_
          simp only [putAll, put_lit, List.set_cons_succ, List.set_cons_zero]
          go_wp2
          first | exact post_of (by rfl) (by rfl) (Below.refl _ _) (by rfl) | exact rfl
        case r1g8 =>
          intro w9 hb
          refine over_some (ds1 := [14]) (ds2 := []) [(.bool true)] (by kernel_rfl) ?_
          refine over_nil ?_
          simp only [putAll, put_lit, List.set_cons_succ, List.set_cons_zero]
          go_wp2
          first | exact post_of (by rfl) (by rfl) (Below.refl _ _) (by rfl) | exact rfl
        case r1g9 =>
          intro w9 hb
          refine over_some (ds1 := [14, 15]) (ds2 := []) [(.bool true), (.pointer (some ⟨gx, 1, none⟩))] (by kernel_rfl) ?_
          refine over_nil ?_
          simp only [putAll, put_lit, List.set_cons_succ, List.set_cons_zero]
          obtain ⟨p0, q0, r0⟩ := (KX.out.next hb).cells
          go_wp2
          first | exact post_of (by rfl) (by rfl) (Below.refl _ _) (by rfl) | exact rfl
        case r1g10 =>
          intro w9 hb
          refine over_some (ds1 := [14]) (ds2 := []) [(.bool true)] (by kernel_rfl) ?_
          refine over_nil ?_
          simp only [putAll, put_lit, List.set_cons_succ, List.set_cons_zero]
          go_wp2
          first | exact post_of (by rfl) (by rfl) (Below.refl _ _) (by rfl) | exact rfl
        case r1g11 =>
          intro w9 hb
          refine over_some (ds1 := [14, 17]) (ds2 := []) [(.bool true), (.pointer (some ⟨gr, 0, none⟩))] (by kernel_rfl) ?_
          refine over_nil ?_
          simp only [putAll, put_lit, List.set_cons_succ, List.set_cons_zero]
          obtain ⟨p0, q0, r0⟩ := (KR.out.next hb).cells
          go_wp2
          first | exact post_of (by rfl) (by rfl) (Below.refl _ _) (by rfl) | exact rfl
        case r1g12 =>
          intro w9 hb
          refine over_some (ds1 := [14, 16, 18]) (ds2 := []) [(.bool true), (.int .u16 x.2.1), (.int .u16 r.1)] (by kernel_rfl) ?_
          refine over_nil ?_
          simp only [putAll, put_lit, List.set_cons_succ, List.set_cons_zero]
          go_wp2
          exact post_of (by rfl) (by rfl) (Below.refl _ _) (by first | rfl | (show Value.bool _ = Value.bool _; rw [Value.bool.injEq]; first | exact decide_eq_true (by omega) | exact decide_eq_false (by omega) | assumption | (simp; omega)))
        case r1g13 =>
          intro w9 hb
          refine over_some (ds1 := [14, 19]) (ds2 := []) [(.bool true), (.bool false)] (by kernel_rfl) ?_
          refine over_nil ?_
          simp only [putAll, put_lit, List.set_cons_succ, List.set_cons_zero]
          go_wp2
          first | exact post_of (by rfl) (by rfl) (Below.refl _ _) (by rfl) | exact rfl
        case r1g14 =>
          intro w9 hb
          refine over_some (ds1 := [20]) (ds2 := []) [(.bool false)] (by kernel_rfl) ?_
          refine over_nil ?_
          simp only [putAll, put_lit, List.set_cons_succ, List.set_cons_zero]
          go_wp2
          first | exact post_of (by rfl) (by rfl) (Below.refl _ _) (by rfl) | exact rfl
        case r1g15 =>
          intro w9 hb
          refine over_some (ds1 := [21]) (ds2 := []) [(.bool false)] (by kernel_rfl) ?_
          refine over_nil ?_
          simp only [putAll, put_lit, List.set_cons_succ, List.set_cons_zero]
          exact post_skip rfl (by kernel_rfl) (by kernel_rfl) (by kernel_rfl) (by kernel_rfl)
        case r1g16 =>
          intro w9 hb
          refine over_some (ds1 := [21, 22]) (ds2 := []) [(.bool false), undef] (by kernel_rfl) ?_
          refine over_nil ?_
          simp only [putAll, put_lit, List.set_cons_succ, List.set_cons_zero]
          exact post_skip rfl (by kernel_rfl) (by kernel_rfl) (by kernel_rfl) (by kernel_rfl)
        case r1g17 =>
          intro w9 hb
          refine over_some (ds1 := [21]) (ds2 := []) [(.bool false)] (by kernel_rfl) ?_
          refine over_nil ?_
          simp only [putAll, put_lit, List.set_cons_succ, List.set_cons_zero]
          exact post_skip rfl (by kernel_rfl) (by kernel_rfl) (by kernel_rfl) (by kernel_rfl)
        case r1g18 =>
          intro w9 hb
          refine over_some (ds1 := [21]) (ds2 := []) [(.bool false)] (by kernel_rfl) ?_
          refine over_nil ?_
          simp only [putAll, put_lit, List.set_cons_succ, List.set_cons_zero]
          exact post_skip rfl (by kernel_rfl) (by kernel_rfl) (by kernel_rfl) (by kernel_rfl)
        case r1g19 =>
          intro w9 hb
          refine over_some (ds1 := [21, 25]) (ds2 := []) [(.bool false), undef] (by kernel_rfl) ?_
          refine over_nil ?_
          simp only [putAll, put_lit, List.set_cons_succ, List.set_cons_zero]
          exact post_skip rfl (by kernel_rfl) (by kernel_rfl) (by kernel_rfl) (by kernel_rfl)
        case r1g20 =>
          intro w9 hb
          refine over_some (ds1 := [21, 24, 26]) (ds2 := []) [(.bool false), undef, undef] (by kernel_rfl) ?_
          refine over_nil ?_
          simp only [putAll, put_lit, List.set_cons_succ, List.set_cons_zero]
          exact post_skip rfl (by kernel_rfl) (by kernel_rfl) (by kernel_rfl) (by kernel_rfl)
        case r1g21 =>
          intro w9 hb
          refine over_some (ds1 := [21]) (ds2 := []) [(.bool false)] (by kernel_rfl) ?_
          refine over_nil ?_
          simp only [putAll, put_lit, List.set_cons_succ, List.set_cons_zero]
          exact post_skip rfl (by kernel_rfl) (by kernel_rfl) (by kernel_rfl) (by kernel_rfl)
        case r1g22 =>
          intro w9 hb
          refine over_some (ds1 := [21, 27, 28]) (ds2 := []) [(.bool false), undef, undef] (by kernel_rfl) ?_
          refine over_nil ?_
          simp only [putAll, put_lit, List.set_cons_succ, List.set_cons_zero]
          exact post_skip rfl (by kernel_rfl) (by kernel_rfl) (by kernel_rfl) (by kernel_rfl)
        case r1g23 =>
          intro w9 hb
          refine over_some (ds1 := [21, 29]) (ds2 := []) [(.bool false), undef] (by kernel_rfl) ?_
          refine over_nil ?_
          simp only [putAll, put_lit, List.set_cons_succ, List.set_cons_zero]
          exact post_skip rfl (by kernel_rfl) (by kernel_rfl) (by kernel_rfl) (by kernel_rfl)
        case r1g24 =>
          intro w9 hb
          refine over_some (ds1 := [21, 23, 30]) (ds2 := []) [(.bool false), undef, undef] (by kernel_rfl) ?_
          refine over_nil ?_
          simp only [putAll, put_lit, List.set_cons_succ, List.set_cons_zero]
          exact post_skip rfl (by kernel_rfl) (by kernel_rfl) (by kernel_rfl) (by kernel_rfl)
        case r1g25 =>
          intro w9 hb
          refine over_some (ds1 := [21, 31]) (ds2 := []) [(.bool false), undef] (by kernel_rfl) ?_
          refine over_nil ?_
          simp only [putAll, put_lit, List.set_cons_succ, List.set_cons_zero]
          go_wp2
          first | exact post_of (by rfl) (by rfl) (Below.refl _ _) (by rfl) | exact rfl
    · have HM : Hid (mayI r x n = false) := may_zero (by omega)
      go_enter Tryd.func17, Tryd.ntmps17
      go_upto_region 1 with fail
      generalize (w.alloc (.cells #[.int .u16 r.1, .int .u32 r.2.1, .int .u64 r.2.2] 26)).alloc (.cells #[.int .u8 x.1, .int .u16 x.2.1, .int .u32 x.2.2] 28) = w1 at *
      obtain ⟨gr, hgr⟩ : ∃ g, w.heap.size = g := ⟨_, rfl⟩
      rw [hgr] at KR KX ⊢
      clear hgr
      obtain ⟨gx, hgx⟩ : ∃ g, gr + 1 = g := ⟨_, rfl⟩
      rw [hgx] at KX ⊢
      clear hgx
      refine wp_region_typed 26 [(7, .val (.int .i64 n)), (8, .val (.bool true)), (9, .val (.bool true)), (10, .val (.pointer (some ⟨gx, 1, none⟩))), (11, .val (.int .u16 x.2.1)), (12, .val (.bool false)), (13, .val (.bool false)), (14, .val (.bool false)), (15, .val undef), (16, .val undef), (17, .val undef), (18, .val undef), (19, .val undef), (20, .val (.bool false)), (21, .val (.bool false)), (22, .val undef), (23, .val undef), (24, .val undef), (25, .val undef), (26, .val undef), (27, .val undef), (28, .val undef), (29, .val undef), (30, .val undef), (31, .val undef), (32, .val (.bool false))]
        [[], [7], [8], [9], [9, 10], [9, 11], [9, 12], [13], [14], [14, 15], [14], [14, 17], [14, 16, 18], [14, 19], [20], [21], [21, 22], [21], [21], [21, 25], [21, 24, 26], [21], [21, 27, 28], [21, 29], [21, 23, 30], [21, 31]] (by kernel_rfl) (by kernel_rfl) ?_ ?_
      rotate_left
      · intro w9 hb
        simp only [List.take_succ_cons, List.take_zero, List.drop_succ_cons, List.drop_zero]
        refine over_ds (ds := [7, 8, 9, 10, 11, 12, 13, 14, 15, 16, 17, 18, 19, 20, 21, 22, 23, 24, 25, 26, 27, 28, 29, 30, 31, 32]) (by kernel_rfl) ?_
        refine over_some (ds1 := [7, 8, 9, 10, 11, 12, 13, 14, 15, 16, 17, 18, 19, 20, 21, 22, 23, 24, 25, 26, 27, 28, 29, 30, 31, 32]) (ds2 := []) [(.int .i64 n), (.bool true), (.bool true), (.pointer (some ⟨gx, 1, none⟩)), (.int .u16 x.2.1), (.bool false), (.bool false), (.bool false), undef, undef, undef, undef, undef, (.bool false), (.bool false), undef, undef, undef, undef, undef, undef, undef, undef, undef, undef, (.bool false)] (by kernel_rfl) ?_
        refine over_nil ?_
        simp only [putAll, put_lit, List.set_cons_succ, List.set_cons_zero]
        have BB := Lib.hid (thn B.out hb)
        clear hb
        go_wp2
        go_ret
        exact ⟨ret_bool (by rw [HM.out]), BB.out⟩
      simp only [List.take_succ_cons, List.take_zero]
      refine ⟨?r1g0, ?r1g1, ?r1g2, ?r1g3, ?r1g4, ?r1g5, ?r1g6, ?r1g7, ?r1g8, ?r1g9, ?r1g10, ?r1g11, ?r1g12, ?r1g13, ?r1g14, ?r1g15, ?r1g16, ?r1g17, ?r1g18, ?r1g19, ?r1g20, ?r1g21, ?r1g22, ?r1g23, ?r1g24, ?r1g25, trivial⟩
      case r1g0 =>
        intro w9 hb
        refine over_nil ?_
        go_wp2
        first | exact post_of (by rfl) (by rfl) (Below.refl _ _) (by rfl) | exact rfl
      case r1g1 =>
        intro w9 hb
        refine over_some (ds1 := [7]) (ds2 := []) [(.int .i64 n)] (by kernel_rfl) ?_
        refine over_nil ?_
        simp only [putAll, put_lit, List.set_cons_succ, List.set_cons_zero]
        go_wp2_with fail
        have hc2 := fits_below n w9
        rw [F.out] at hc2
        refine hc2.mono ?_
        clear hc2
        rintro e w8 ⟨rfl, b6⟩
        go_wp2
        exact post_of (by rfl) (by rfl) b6 (by rfl)
      case r1g2 =>
        intro w9 hb
        refine over_some (ds1 := [8]) (ds2 := []) [(.bool true)] (by kernel_rfl) ?_
        refine over_nil ?_
        simp only [putAll, put_lit, List.set_cons_succ, List.set_cons_zero]
        go_wp2
        first | exact post_of (by rfl) (by rfl) (Below.refl _ _) (by rfl) | exact rfl
      case r1g3 =>
        intro w9 hb
        refine over_some (ds1 := [9]) (ds2 := []) [(.bool true)] (by kernel_rfl) ?_
        refine over_nil ?_
        simp only [putAll, put_lit, List.set_cons_succ, List.set_cons_zero]
        go_wp2
        first | exact post_of (by rfl) (by rfl) (Below.refl _ _) (by rfl) | exact rfl
      case r1g4 =>
        intro w9 hb
        refine over_some (ds1 := [9, 10]) (ds2 := []) [(.bool true), (.pointer (some ⟨gx, 1, none⟩))] (by kernel_rfl) ?_
        refine over_nil ?_
        simp only [putAll, put_lit, List.set_cons_succ, List.set_cons_zero]
        obtain ⟨p0, q0, r0⟩ := (KX.out.next hb).cells
        go_wp2
        first | exact post_of (by rfl) (by rfl) (Below.refl _ _) (by rfl) | exact rfl
      case r1g5 =>
        intro w9 hb
        refine over_some (ds1 := [9, 11]) (ds2 := []) [(.bool true), (.int .u16 x.2.1)] (by kernel_rfl) ?_
        refine over_nil ?_
        simp only [putAll, put_lit, List.set_cons_succ, List.set_cons_zero]
        go_wp2
        exact post_of (by rfl) (by rfl) (Below.refl _ _) (by first | rfl | (show Value.bool _ = Value.bool _; rw [Value.bool.injEq]; first | exact decide_eq_true (by omega) | exact decide_eq_false (by omega) | assumption | (simp; omega)))
      case r1g6 =>
        intro w9 hb
        refine over_some (ds1 := [9, 12]) (ds2 := []) [(.bool true), (.bool false)] (by kernel_rfl) ?_
        refine over_nil ?_
        simp only [putAll, put_lit, List.set_cons_succ, List.set_cons_zero]
        go_wp2
        first | exact post_of (by rfl) (by rfl) (Below.refl _ _) (by rfl) | exact rfl
      case r1g7 =>
        intro w9 hb
        refine over_some (ds1 := [13]) (ds2 := []) [(.bool false)] (by kernel_rfl) ?_
        refine over_nil ?_
        simp only [putAll, put_lit, List.set_cons_succ, List.set_cons_zero]
        go_wp2
        first | exact post_of (by rfl) (by rfl) (Below.refl _ _) (by rfl) | exact rfl
      case r1g8 =>
        intro w9 hb
        refine over_some (ds1 := [14]) (ds2 := []) [(.bool false)] (by kernel_rfl) ?_
        refine over_nil ?_
        simp only [putAll, put_lit, List.set_cons_succ, List.set_cons_zero]
        exact post_skip rfl (by kernel_rfl) (by kernel_rfl) (by kernel_rfl) (by kernel_rfl)
      case r1g9 =>
        intro w9 hb
        refine over_some (ds1 := [14, 15]) (ds2 := []) [(.bool false), undef] (by kernel_rfl) ?_
        refine over_nil ?_
        simp only [putAll, put_lit, List.set_cons_succ, List.set_cons_zero]
        exact post_skip rfl (by kernel_rfl) (by kernel_rfl) (by kernel_rfl) (by kernel_rfl)
      case r1g10 =>
        intro w9 hb
        refine over_some (ds1 := [14]) (ds2 := []) [(.bool false)] (by kernel_rfl) ?_
        refine over_nil ?_
        simp only [putAll, put_lit, List.set_cons_succ, List.set_cons_zero]
        exact post_skip rfl (by kernel_rfl) (by kernel_rfl) (by kernel_rfl) (by kernel_rfl)
      case r1g11 =>
        intro w9 hb
        refine over_some (ds1 := [14, 17]) (ds2 := []) [(.bool false), undef] (by kernel_rfl) ?_
        refine over_nil ?_
        simp only [putAll, put_lit, List.set_cons_succ, List.set_cons_zero]
        exact post_skip rfl (by kernel_rfl) (by kernel_rfl) (by kernel_rfl) (by kernel_rfl)
      case r1g12 =>
        intro w9 hb
        refine over_some (ds1 := [14, 16, 18]) (ds2 := []) [(.bool false), undef, undef] (by kernel_rfl) ?_
        refine over_nil ?_
        simp only [putAll, put_lit, List.set_cons_succ, List.set_cons_zero]
        exact post_skip rfl (by kernel_rfl) (by kernel_rfl) (by kernel_rfl) (by kernel_rfl)
      case r1g13 =>
        intro w9 hb
        refine over_some (ds1 := [14, 19]) (ds2 := []) [(.bool false), undef] (by kernel_rfl) ?_
        refine over_nil ?_
        simp only [putAll, put_lit, List.set_cons_succ, List.set_cons_zero]
        go_wp2
        first | exact post_of (by rfl) (by rfl) (Below.refl _ _) (by rfl) | exact rfl
      case r1g14 =>
        intro w9 hb
        refine over_some (ds1 := [20]) (ds2 := []) [(.bool false)] (by kernel_rfl) ?_
        refine over_nil ?_
        simp only [putAll, put_lit, List.set_cons_succ, List.set_cons_zero]
        go_wp2
        first | exact post_of (by rfl) (by rfl) (Below.refl _ _) (by rfl) | exact rfl
      case r1g15 =>
        intro w9 hb
        refine over_some (ds1 := [21]) (ds2 := []) [(.bool false)] (by kernel_rfl) ?_
        refine over_nil ?_
        simp only [putAll, put_lit, List.set_cons_succ, List.set_cons_zero]
        exact post_skip rfl (by kernel_rfl) (by kernel_rfl) (by kernel_rfl) (by kernel_rfl)
      case r1g16 =>
        intro w9 hb
        refine over_some (ds1 := [21, 22]) (ds2 := []) [(.bool false), undef] (by kernel_rfl) ?_
        refine over_nil ?_
        simp only [putAll, put_lit, List.set_cons_succ, List.set_cons_zero]
        exact post_skip rfl (by kernel_rfl) (by kernel_rfl) (by kernel_rfl) (by kernel_rfl)
      case r1g17 =>
        intro w9 hb
        refine over_some (ds1 := [21]) (ds2 := []) [(.bool false)] (by kernel_rfl) ?_
        refine over_nil ?_
        simp only [putAll, put_lit, List.set_cons_succ, List.set_cons_zero]
        exact post_skip rfl (by kernel_rfl) (by kernel_rfl) (by kernel_rfl) (by kernel_rfl)
      case r1g18 =>
        intro w9 hb
        refine over_some (ds1 := [21]) (ds2 := []) [(.bool false)] (by kernel_rfl) ?_
        refine over_nil ?_
        simp only [putAll, put_lit, List.set_cons_succ, List.set_cons_zero]
        exact post_skip rfl (by kernel_rfl) (by kernel_rfl) (by kernel_rfl) (by kernel_rfl)
      case r1g19 =>
        intro w9 hb
        refine over_some (ds1 := [21, 25]) (ds2 := []) [(.bool false), undef] (by kernel_rfl) ?_
        refine over_nil ?_
        simp only [putAll, put_lit, List.set_cons_succ, List.set_cons_zero]
        exact post_skip rfl (by kernel_rfl) (by kernel_rfl) (by kernel_rfl) (by kernel_rfl)
      case r1g20 =>
        intro w9 hb
        refine over_some (ds1 := [21, 24, 26]) (ds2 := []) [(.bool false), undef, undef] (by kernel_rfl) ?_
        refine over_nil ?_
        simp only [putAll, put_lit, List.set_cons_succ, List.set_cons_zero]
        exact post_skip rfl (by kernel_rfl) (by kernel_rfl) (by kernel_rfl) (by kernel_rfl)
      case r1g21 =>
        intro w9 hb
        refine over_some (ds1 := [21]) (ds2 := []) [(.bool false)] (by kernel_rfl) ?_
        refine over_nil ?_
        simp only [putAll, put_lit, List.set_cons_succ, List.set_cons_zero]
        exact post_skip rfl (by kernel_rfl) (by kernel_rfl) (by kernel_rfl) (by kernel_rfl)
      case r1g22 =>
        intro w9 hb
        refine over_some (ds1 := [21, 27, 28]) (ds2 := []) [(.bool false), undef, undef] (by kernel_rfl) ?_
        refine over_nil ?_
        simp only [putAll, put_lit, List.set_cons_succ, List.set_cons_zero]
        exact post_skip rfl (by kernel_rfl) (by kernel_rfl) (by kernel_rfl) (by kernel_rfl)
      case r1g23 =>
        intro w9 hb
        refine over_some (ds1 := [21, 29]) (ds2 := []) [(.bool false), undef] (by kernel_rfl) ?_
        refine over_nil ?_
        simp only [putAll, put_lit, List.set_cons_succ, List.set_cons_zero]
        exact post_skip rfl (by kernel_rfl) (by kernel_rfl) (by kernel_rfl) (by kernel_rfl)
      case r1g24 =>
        intro w9 hb
        refine over_some (ds1 := [21, 23, 30]) (ds2 := []) [(.bool false), undef, undef] (by kernel_rfl) ?_
        refine over_nil ?_
        simp only [putAll, put_lit, List.set_cons_succ, List.set_cons_zero]
        exact post_skip rfl (by kernel_rfl) (by kernel_rfl) (by kernel_rfl) (by kernel_rfl)
      case r1g25 =>
        intro w9 hb
        refine over_some (ds1 := [21, 31]) (ds2 := []) [(.bool false), undef] (by kernel_rfl) ?_
        refine over_nil ?_
        simp only [putAll, put_lit, List.set_cons_succ, List.set_cons_zero]
        go_wp2
        first | exact post_of (by rfl) (by rfl) (Below.refl _ _) (by rfl) | exact rfl
  · have HM : Hid (mayI r x n = false) := may_zero (by omega)
    have F : Hid (decide (1 ≤ n ∧ n ≤ 64) = false) := decide_eq_false hf
    clear hf
    go_enter Tryd.func17, Tryd.ntmps17
    go_upto_region 1 with fail
    generalize (w.alloc (.cells #[.int .u16 r.1, .int .u32 r.2.1, .int .u64 r.2.2] 26)).alloc (.cells #[.int .u8 x.1, .int .u16 x.2.1, .int .u32 x.2.2] 28) = w1 at *
    obtain ⟨gr, hgr⟩ : ∃ g, w.heap.size = g := ⟨_, rfl⟩
    rw [hgr] at KR KX ⊢
    clear hgr
    obtain ⟨gx, hgx⟩ : ∃ g, gr + 1 = g := ⟨_, rfl⟩
    rw [hgx] at KX ⊢
    clear hgx
    refine wp_region_typed 26 [(7, .val (.int .i64 n)), (8, .val (.bool false)), (9, .val (.bool false)), (10, .val undef), (11, .val undef), (12, .val undef), (13, .val (.bool false)), (14, .val (.bool false)), (15, .val undef), (16, .val undef), (17, .val undef), (18, .val undef), (19, .val undef), (20, .val (.bool false)), (21, .val (.bool false)), (22, .val undef), (23, .val undef), (24, .val undef), (25, .val undef), (26, .val undef), (27, .val undef), (28, .val undef), (29, .val undef), (30, .val undef), (31, .val undef), (32, .val (.bool false))]
      [[], [7], [8], [9], [9, 10], [9, 11], [9, 12], [13], [14], [14, 15], [14], [14, 17], [14, 16, 18], [14, 19], [20], [21], [21, 22], [21], [21], [21, 25], [21, 24, 26], [21], [21, 27, 28], [21, 29], [21, 23, 30], [21, 31]] (by kernel_rfl) (by kernel_rfl) ?_ ?_
    rotate_left
    · intro w9 hb
      simp only [List.take_succ_cons, List.take_zero, List.drop_succ_cons, List.drop_zero]
      refine over_ds (ds := [7, 8, 9, 10, 11, 12, 13, 14, 15, 16, 17, 18, 19, 20, 21, 22, 23, 24, 25, 26, 27, 28, 29, 30, 31, 32]) (by kernel_rfl) ?_
      refine over_some (ds1 := [7, 8, 9, 10, 11, 12, 13, 14, 15, 16, 17, 18, 19, 20, 21, 22, 23, 24, 25, 26, 27, 28, 29, 30, 31, 32]) (ds2 := []) [(.int .i64 n), (.bool false), (.bool false), undef, undef, undef, (.bool false), (.bool false), undef, undef, undef, undef, undef, (.bool false), (.bool false), undef, undef, undef, undef, undef, undef, undef, undef, undef, undef, (.bool false)] (by kernel_rfl) ?_
      refine over_nil ?_
      simp only [putAll, put_lit, List.set_cons_succ, List.set_cons_zero]
      have BB := Lib.hid (thn B.out hb)
      clear hb
      go_wp2
      go_ret
      exact ⟨ret_bool (by rw [HM.out]), BB.out⟩
    simp only [List.take_succ_cons, List.take_zero]
    refine ⟨?r1g0, ?r1g1, ?r1g2, ?r1g3, ?r1g4, ?r1g5, ?r1g6, ?r1g7, ?r1g8, ?r1g9, ?r1g10, ?r1g11, ?r1g12, ?r1g13, ?r1g14, ?r1g15, ?r1g16, ?r1g17, ?r1g18, ?r1g19, ?r1g20, ?r1g21, ?r1g22, ?r1g23, ?r1g24, ?r1g25, trivial⟩
    case r1g0 =>
      intro w9 hb
      refine over_nil ?_
      go_wp2
      first | exact post_of (by rfl) (by rfl) (Below.refl _ _) (by rfl) | exact rfl
    case r1g1 =>
      intro w9 hb
      refine over_some (ds1 := [7]) (ds2 := []) [(.int .i64 n)] (by kernel_rfl) ?_
      refine over_nil ?_
      simp only [putAll, put_lit, List.set_cons_succ, List.set_cons_zero]
      go_wp2_with fail
      have hc2 := fits_below n w9
      rw [F.out] at hc2
      refine hc2.mono ?_
      clear hc2
      rintro e w8 ⟨rfl, b6⟩
      go_wp2
      exact post_of (by rfl) (by rfl) b6 (by rfl)
    case r1g2 =>
      intro w9 hb
      refine over_some (ds1 := [8]) (ds2 := []) [(.bool false)] (by kernel_rfl) ?_
      refine over_nil ?_
      simp only [putAll, put_lit, List.set_cons_succ, List.set_cons_zero]
      go_wp2
      first | exact post_of (by rfl) (by rfl) (Below.refl _ _) (by rfl) | exact rfl
    case r1g3 =>
      intro w9 hb
      refine over_some (ds1 := [9]) (ds2 := []) [(.bool false)] (by kernel_rfl) ?_
      refine over_nil ?_
      simp only [putAll, put_lit, List.set_cons_succ, List.set_cons_zero]
      exact post_skip rfl (by kernel_rfl) (by kernel_rfl) (by kernel_rfl) (by kernel_rfl)
    case r1g4 =>
      intro w9 hb
      refine over_some (ds1 := [9, 10]) (ds2 := []) [(.bool false), undef] (by kernel_rfl) ?_
      refine over_nil ?_
      simp only [putAll, put_lit, List.set_cons_succ, List.set_cons_zero]
      exact post_skip rfl (by kernel_rfl) (by kernel_rfl) (by kernel_rfl) (by kernel_rfl)
    case r1g5 =>
      intro w9 hb
      refine over_some (ds1 := [9, 11]) (ds2 := []) [(.bool false), undef] (by kernel_rfl) ?_
      refine over_nil ?_
      simp only [putAll, put_lit, List.set_cons_succ, List.set_cons_zero]
      exact post_skip rfl (by kernel_rfl) (by kernel_rfl) (by kernel_rfl) (by kernel_rfl)
    case r1g6 =>
      intro w9 hb
      refine over_some (ds1 := [9, 12]) (ds2 := []) [(.bool false), undef] (by kernel_rfl) ?_
      refine over_nil ?_
      simp only [putAll, put_lit, List.set_cons_succ, List.set_cons_zero]
      go_wp2
      first | exact post_of (by rfl) (by rfl) (Below.refl _ _) (by rfl) | exact rfl
    case r1g7 =>
      intro w9 hb
      refine over_some (ds1 := [13]) (ds2 := []) [(.bool false)] (by kernel_rfl) ?_
      refine over_nil ?_
      simp only [putAll, put_lit, List.set_cons_succ, List.set_cons_zero]
      go_wp2
      first | exact post_of (by rfl) (by rfl) (Below.refl _ _) (by rfl) | exact rfl
    case r1g8 =>
      intro w9 hb
      refine over_some (ds1 := [14]) (ds2 := []) [(.bool false)] (by kernel_rfl) ?_
      refine over_nil ?_
      simp only [putAll, put_lit, List.set_cons_succ, List.set_cons_zero]
      exact post_skip rfl (by kernel_rfl) (by kernel_rfl) (by kernel_rfl) (by kernel_rfl)
    case r1g9 =>
      intro w9 hb
      refine over_some (ds1 := [14, 15]) (ds2 := []) [(.bool false), undef] (by kernel_rfl) ?_
      refine over_nil ?_
      simp only [putAll, put_lit, List.set_cons_succ, List.set_cons_zero]
      exact post_skip rfl (by kernel_rfl) (by kernel_rfl) (by kernel_rfl) (by kernel_rfl)
    case r1g10 =>
      intro w9 hb
      refine over_some (ds1 := [14]) (ds2 := []) [(.bool false)] (by kernel_rfl) ?_
      refine over_nil ?_
      simp only [putAll, put_lit, List.set_cons_succ, List.set_cons_zero]
      exact post_skip rfl (by kernel_rfl) (by kernel_rfl) (by kernel_rfl) (by kernel_rfl)
    case r1g11 =>
      intro w9 hb
      refine over_some (ds1 := [14, 17]) (ds2 := []) [(.bool false), undef] (by kernel_rfl) ?_
      refine over_nil ?_
      simp only [putAll, put_lit, List.set_cons_succ, List.set_cons_zero]
      exact post_skip rfl (by kernel_rfl) (by kernel_rfl) (by kernel_rfl) (by kernel_rfl)
    case r1g12 =>
      intro w9 hb
      refine over_some (ds1 := [14, 16, 18]) (ds2 := []) [(.bool false), undef, undef] (by kernel_rfl) ?_
      refine over_nil ?_
      simp only [putAll, put_lit, List.set_cons_succ, List.set_cons_zero]
      exact post_skip rfl (by kernel_rfl) (by kernel_rfl) (by kernel_rfl) (by kernel_rfl)
    case r1g13 =>
      intro w9 hb
      refine over_some (ds1 := [14, 19]) (ds2 := []) [(.bool false), undef] (by kernel_rfl) ?_
      refine over_nil ?_
      simp only [putAll, put_lit, List.set_cons_succ, List.set_cons_zero]
      go_wp2
      first | exact post_of (by rfl) (by rfl) (Below.refl _ _) (by rfl) | exact rfl
    case r1g14 =>
      intro w9 hb
      refine over_some (ds1 := [20]) (ds2 := []) [(.bool false)] (by kernel_rfl) ?_
      refine over_nil ?_
      simp only [putAll, put_lit, List.set_cons_succ, List.set_cons_zero]
      go_wp2
      first | exact post_of (by rfl) (by rfl) (Below.refl _ _) (by rfl) | exact rfl
    case r1g15 =>
      intro w9 hb
      refine over_some (ds1 := [21]) (ds2 := []) [(.bool false)] (by kernel_rfl) ?_
      refine over_nil ?_
      simp only [putAll, put_lit, List.set_cons_succ, List.set_cons_zero]
      exact post_skip rfl (by kernel_rfl) (by kernel_rfl) (by kernel_rfl) (by kernel_rfl)
    case r1g16 =>
      intro w9 hb
      refine over_some (ds1 := [21, 22]) (ds2 := []) [(.bool false), undef] (by kernel_rfl) ?_
      refine over_nil ?_
      simp only [putAll, put_lit, List.set_cons_succ, List.set_cons_zero]
      exact post_skip rfl (by kernel_rfl) (by kernel_rfl) (by kernel_rfl) (by kernel_rfl)
    case r1g17 =>
      intro w9 hb
      refine over_some (ds1 := [21]) (ds2 := []) [(.bool false)] (by kernel_rfl) ?_
      refine over_nil ?_
      simp only [putAll, put_lit, List.set_cons_succ, List.set_cons_zero]
      exact post_skip rfl (by kernel_rfl) (by kernel_rfl) (by kernel_rfl) (by kernel_rfl)
    case r1g18 =>
      intro w9 hb
      refine over_some (ds1 := [21]) (ds2 := []) [(.bool false)] (by kernel_rfl) ?_
      refine over_nil ?_
      simp only [putAll, put_lit, List.set_cons_succ, List.set_cons_zero]
      exact post_skip rfl (by kernel_rfl) (by kernel_rfl) (by kernel_rfl) (by kernel_rfl)
    case r1g19 =>
      intro w9 hb
      refine over_some (ds1 := [21, 25]) (ds2 := []) [(.bool false), undef] (by kernel_rfl) ?_
      refine over_nil ?_
      simp only [putAll, put_lit, List.set_cons_succ, List.set_cons_zero]
      exact post_skip rfl (by kernel_rfl) (by kernel_rfl) (by kernel_rfl) (by kernel_rfl)
    case r1g20 =>
      intro w9 hb
      refine over_some (ds1 := [21, 24, 26]) (ds2 := []) [(.bool false), undef, undef] (by kernel_rfl) ?_
      refine over_nil ?_
      simp only [putAll, put_lit, List.set_cons_succ, List.set_cons_zero]
      exact post_skip rfl (by kernel_rfl) (by kernel_rfl) (by kernel_rfl) (by kernel_rfl)
    case r1g21 =>
      intro w9 hb
      refine over_some (ds1 := [21]) (ds2 := []) [(.bool false)] (by kernel_rfl) ?_
      refine over_nil ?_
      simp only [putAll, put_lit, List.set_cons_succ, List.set_cons_zero]
      exact post_skip rfl (by kernel_rfl) (by kernel_rfl) (by kernel_rfl) (by kernel_rfl)
    case r1g22 =>
      intro w9 hb
      refine over_some (ds1 := [21, 27, 28]) (ds2 := []) [(.bool false), undef, undef] (by kernel_rfl) ?_
      refine over_nil ?_
      simp only [putAll, put_lit, List.set_cons_succ, List.set_cons_zero]
      exact post_skip rfl (by kernel_rfl) (by kernel_rfl) (by kernel_rfl) (by kernel_rfl)
    case r1g23 =>
      intro w9 hb
      refine over_some (ds1 := [21, 29]) (ds2 := []) [(.bool false), undef] (by kernel_rfl) ?_
      refine over_nil ?_
      simp only [putAll, put_lit, List.set_cons_succ, List.set_cons_zero]
      exact post_skip rfl (by kernel_rfl) (by kernel_rfl) (by kernel_rfl) (by kernel_rfl)
    case r1g24 =>
      intro w9 hb
      refine over_some (ds1 := [21, 23, 30]) (ds2 := []) [(.bool false), undef, undef] (by kernel_rfl) ?_
      refine over_nil ?_
      simp only [putAll, put_lit, List.set_cons_succ, List.set_cons_zero]
      exact post_skip rfl (by kernel_rfl) (by kernel_rfl) (by kernel_rfl) (by kernel_rfl)
    case r1g25 =>
      intro w9 hb
      refine over_some (ds1 := [21, 31]) (ds2 := []) [(.bool false), undef] (by kernel_rfl) ?_
      refine over_nil ?_
      simp only [putAll, put_lit, List.set_cons_succ, List.set_cons_zero]
      go_wp2
      first | exact post_of (by rfl) (by rfl) (Below.refl _ _) (by rfl) | exact rfl
set_option maxHeartbeats 1000000 in
theorem refmay_any (r : Row3) (x : Id3) (n : Int) (w : World) (hr : rowR r) (hx : idR x) : Calls Tryd.prog 18 #[(.agg #[.int .u16 r.1, .int .u32 r.2.1, .int .u64 r.2.2]), (.agg #[.int .u8 x.1, .int .u16 x.2.1, .int .u32 x.2.2]), .int .i64 n] w fun e w' => e = .returned (.bool (mayI r x n)) ∧ Below w.heap.size w w' := by
  obtain ⟨_, ⟨i0, i1⟩, n0, n1⟩ := hx
  obtain ⟨KR, KX, B⟩ := boxes2 w r x
  have HR := Lib.hid hr
  obtain ⟨_, ⟨p0, p1⟩, _⟩ := hr
  obtain ⟨m, HM⟩ : ∃ m, Hid (mayI r x n = m) := ⟨_, rfl⟩
  rw [HM.out]
  by_cases hf0 : n < 1
  · skip
    obtain rfl : false = m := (may_zero (by omega)).symm.trans HM.out
    clear HM
    go_enter Tryd.func18, Tryd.ntmps18
    go_wp2
    go_ret
    exact ⟨rfl, B.out⟩
  · by_cases hf1 : 64 < n
    · skip
      obtain rfl : false = m := (may_zero (by omega)).symm.trans HM.out
      clear HM
      go_enter Tryd.func18, Tryd.ntmps18
      go_wp2
      go_ret
      exact ⟨rfl, B.out⟩
    · by_cases hi : x.2.1 = 0
      · have hi' : (x.2.1 == 0) = true := by simpa using hi
        obtain rfl : false = m := (may_zero (by omega)).symm.trans HM.out
        clear HM hi
        go_enter Tryd.func18, Tryd.ntmps18
        go_wp2
        go_ret
        exact ⟨rfl, B.out⟩
      · have hi' : (x.2.1 == 0) = false := by simpa using hi
        by_cases hs : x.2.2 = 0
        · have hs' : (x.2.2 == 0) = true := by simpa using hs
          obtain rfl : false = m := (may_zero (by omega)).symm.trans HM.out
          clear HM hi hs
          go_enter Tryd.func18, Tryd.ntmps18
          go_wp2
          go_ret
          exact ⟨rfl, B.out⟩
        · have hs' : (x.2.2 == 0) = false := by simpa using hs
          by_cases hg : x.2.1 < r.1
          · skip
            obtain rfl : false = m := (may_zero (by omega)).symm.trans HM.out
            clear HM hi hs
            go_enter Tryd.func18, Tryd.ntmps18
            go_wp2
            go_ret
            exact ⟨rfl, B.out⟩
          · have HE := Lib.hid (may_some (r := r) (x := x) (n := n) (by omega))
            by_cases hl : r.1 < x.2.1
            · obtain rfl : decide (x.2.2 ≤ n) = m := by
                have h1 := HE.out
                rw [ofI_other (by omega), seenI_none, HM.out] at h1
                rw [h1]; simp
              clear HE HM hi hs
              go_enter Tryd.func18, Tryd.ntmps18
              go_wp2
              go_ret
              exact ⟨ret_bool (by simp), B.out⟩
            · have he : r.1 = x.2.1 := by omega
              obtain ⟨q, HQ⟩ : ∃ q, Hid (seenI r x.2.2 = q) := ⟨_, rfl⟩
              obtain rfl : (decide (x.2.2 ≤ r.2.1 + n) && !q) = m := by
                have h1 := HE.out
                rw [ofI_same he, HM.out, HQ.out] at h1
                exact h1.symm
              have hc := refseen_any r x.2.2 ((w.alloc (.cells #[.int .u16 r.1, .int .u32 r.2.1, .int .u64 r.2.2] 26)).alloc (.cells #[.int .u8 x.1, .int .u16 x.2.1, .int .u32 x.2.2] 28)) HR.out ⟨n0, n1⟩
              rw [HQ.out] at hc
              clear HE HM hi hs he
              go_enter Tryd.func18, Tryd.ntmps18
              go_upto_region 1 with fail
              generalize (w.alloc (.cells #[.int .u16 r.1, .int .u32 r.2.1, .int .u64 r.2.2] 26)).alloc (.cells #[.int .u8 x.1, .int .u16 x.2.1, .int .u32 x.2.2] 28) = w1 at *
              obtain ⟨c0, c1, c2⟩ := KR.out.cells
              obtain ⟨d0, d1, d2⟩ := KX.out.cells
              obtain ⟨g, hg'⟩ : ∃ g, w.heap.size = g := ⟨_, rfl⟩
              rw [hg'] at c0 c1 c2 d0 d1 d2 ⊢
              obtain ⟨g', hg2⟩ : ∃ g', g + 1 = g' := ⟨_, rfl⟩
              have ne1 : g ≠ g' := by omega
              have ne2 : g' ≠ g := by omega
              rw [hg2] at d0 d1 d2 ⊢
              have HG2 := Lib.hid hg2
              clear hg2
              go_wp2_with fail
              refine hc.mono ?_
              rintro e w2 ⟨rfl, b5⟩
              clear c0 c1 c2 d0 d1 d2
              obtain ⟨c0, c1, c2⟩ := (KR.out.next b5).cells
              obtain ⟨d0, d1, d2⟩ := (KX.out.next b5).cells
              rw [hg'] at c0 c1 c2 d0 d1 d2
              have hg3 : g + 1 = g' := HG2.out
              rw [hg3] at d0 d1 d2
              replace b5 := Lib.hid b5
              clear hg3
              cases q
              · go_wp2
                go_ret
                exact ⟨ret_bool (by simp), by rw [hg']; exact hg' ▸ thn B.out b5.out⟩
              · go_wp2
                go_ret
                exact ⟨ret_bool (by simp), by rw [hg']; exact hg' ▸ thn B.out b5.out⟩
end Go.Proofs.YtkdlgejkgcojkaaDoor
