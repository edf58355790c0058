/- Layer 5: filters: the reference's Right, Meet, Normal. -/
import Derived.Test.YtmajempbncllgaaDoorFl
namespace Go.Proofs.YtmajempbncllgaaDoor
open Go.RowKit
set_option linter.unusedVariables false
theorem all_bad {α : Type} {l : List α} {f : α → Bool} {j : Nat} {x : α} (h : l[j]? = some x) (hx : f x = false) : l.all f = false := by
  rw [← Bool.not_eq_true, List.all_eq_true]
  exact fun hall => by rw [hall x (List.mem_of_getElem? h)] at hx; cases hx
def GaveF (ps : List (Int × Int)) (w : World) (e : Ending) (w' : World) : Prop := ∃ A c, e = .returned (.slice A ps.length c) ∧ Sp w' w'.heap.size A ps.length c ps ∧ Below w.heap.size w w'
theorem sp_zero (w : World) (k : Nat) (A : Option Addr) : Sp w k A 0 0 [] := ⟨rfl, Nat.le_refl _, by simp [maxLen], fun h => absurd h (by omega)⟩
theorem infoSpan : (Tryd.prog.info? 36).map (fun i => (i.zero, i.size, i.bytes)) = some (some (.agg #[.int .i32 0, .int .i32 0]), 2, 8) := by kernel_rfl
theorem span_one (a b : Int) : ∀ u ∈ (#[.int .i32 a, .int .i32 b] : Array Value).toList, u.oneCell' = true := by
  intro u hu
  simp at hu
  rcases hu with rfl | rfl <;> rfl
def tyZ (B : Nat) : Ty := .pred (fun v w => ∃ g, v = .pointer (some ⟨g, 0, none⟩) ∧ B ≤ g ∧ Blk w g (0, 0)) (fun _ _ _ ⟨g, h, hB, hh⟩ hb => ⟨g, h, hB, hh.next hb⟩)
set_option maxHeartbeats 4000000 in
theorem refRightF_any (A : Option Addr) (n c : Nat) (es : List (Int × Int)) (A' : Option Addr) (n' c' : Nat) (bs : List (Int × Int)) (w : World) (h : Sp w w.heap.size A n c es) (h' : Sp w w.heap.size A' n' c' bs) :
    Calls Tryd.prog 13 #[.slice A n c, .slice A' n' c'] w fun e w' => e = .returned (.bool (rightF es bs)) ∧ Below w.heap.size w w' := by
  have HL : Hid (n = es.length) := sp_len h
  have HL' : Hid (n' = bs.length) := sp_len h'
  have hm := h.max
  have hc := h.cap
  have hm' := h'.max
  have hc' := h'.cap
  unfold maxLen at hm hm'
  have HS := Lib.hid h
  have HS' := Lib.hid h'
  clear h h'
  by_cases h0 : n' = 0
  · subst h0
    go_enter Tryd.func13, Tryd.ntmps13
    go_wp2
    go_ret
    exact ⟨congrArg (fun b => Ending.returned (.bool b)) (show true = _ from Eq.symm (by unfold rightF; rw [← HL'.out]; rfl)), Below.refl _ _⟩
  by_cases hn : n' = n
  · subst hn
    have HF : Hid (rightF es bs = (bs.zip es).all fun x => okF x.1 x.2) := by
      unfold Hid rightF
      rw [← HL.out, ← HL'.out, decide_eq_false h0, decide_eq_true rfl]; rfl
    go_enter Tryd.func13, Tryd.ntmps13
    go_wp2
    go_loopw [5] (fun i wr => ∃ j : Nat, j ≤ n' ∧ i = .int .i64 j ∧ Hid (((bs.zip es).take j).all (fun x => okF x.1 x.2) = true) ∧ Below w.heap.size w wr) (fun i _ => n' - (intOf i).toNat)
    case atStart => exact ⟨0, Nat.zero_le _, rfl, rfl, Below.refl _ _⟩
    case round =>
      obtain ⟨j, hj, rfl, HT, b1⟩ := hrel
      by_cases hlt : j < n'
      · obtain ⟨b, off, p, rfl, hp, HC⟩ := sp_cells (HS.out.next b1) hlt
        obtain ⟨b', off', q, rfl, hq, HC'⟩ := sp_cells (HS'.out.next b1) hlt
        have HZ := Lib.hid (zip_at hq hp)
        have i0 : (0 : Int) ≤ (j : Int) := by omega
        have i1 : (j : Int) < (n' : Int) := by omega
        obtain ⟨c1, c2⟩ := HC.out wr (Below.refl _ _)
        obtain ⟨c3, c4⟩ := HC'.out wr (Below.refl _ _)
        clear hp hq
        obtain ⟨z, HO⟩ : ∃ z, Hid (okF q p = z) := ⟨_, rfl⟩
        obtain ⟨k1, Hk1⟩ : ∃ z, Hid (decide (q.2 < q.1) = z) := ⟨_, rfl⟩
        obtain ⟨k2, Hk2⟩ : ∃ z, Hid (decide (q.1 < p.1) = z) := ⟨_, rfl⟩
        obtain ⟨k3, Hk3⟩ : ∃ z, Hid (decide (p.2 < q.2) = z) := ⟨_, rfl⟩
        have HY : Hid ((k1 || k2) = (k1 || k2)) := rfl
        obtain ⟨d, HD⟩ : ∃ d, Hid ((k1 || k2) = d) := ⟨_, rfl⟩
        have HN : Hid ((d || k3) = (!z)) := by
          unfold Hid
          rw [← HD.out, ← Hk1.out, ← Hk2.out, ← Hk3.out, ← HO.out]
          unfold okF
          rw [Bool.eq_iff_iff]
          simp only [Bool.or_eq_true, Bool.not_eq_true', Bool.and_eq_false_iff, decide_eq_true_eq, decide_eq_false_iff_not]
          omega
        clear c1 c2 c3 c4 HY
        go_wp2
        refine wp_region_vals 37 [(20, (.slice (some ⟨b', off', none⟩) n' c')), (21, (.int .i64 j)), (22, (.pointer (some ⟨b', off' + j * 2, none⟩))), (23, (.pointer (some ⟨b', off' + j * 2, none⟩))), (24, (.int .i32 q.1)), (25, (.slice (some ⟨b', off', none⟩) n' c')), (26, (.int .i64 j)), (27, (.pointer (some ⟨b', off' + j * 2, none⟩))), (28, (.pointer (some ⟨b', off' + j * 2 + 1, none⟩))), (29, (.int .i32 q.2)), (30, (.bool k1)), (31, (.bool k1)), (32, (cond (!k1) (.slice (some ⟨b', off', none⟩) n' c') undef)), (33, (cond (!k1) (.int .i64 j) undef)), (34, (cond (!k1) (.pointer (some ⟨b', off' + j * 2, none⟩)) undef)), (35, (cond (!k1) (.pointer (some ⟨b', off' + j * 2, none⟩)) undef)), (36, (cond (!k1) (.int .i32 q.1) undef)), (37, (cond (!k1) (.slice (some ⟨b, off, none⟩) n' c) undef)), (38, (cond (!k1) (.int .i64 j) undef)), (39, (cond (!k1) (.pointer (some ⟨b, off + j * 2, none⟩)) undef)), (40, (cond (!k1) (.pointer (some ⟨b, off + j * 2, none⟩)) undef)), (41, (cond (!k1) (.int .i32 p.1) undef)), (42, (cond (!k1) (.bool k2) undef)), (43, (.bool d)), (44, (.bool d)), (45, (cond (!d) (.slice (some ⟨b', off', none⟩) n' c') undef)), (46, (cond (!d) (.int .i64 j) undef)), (47, (cond (!d) (.pointer (some ⟨b', off' + j * 2, none⟩)) undef)), (48, (cond (!d) (.pointer (some ⟨b', off' + j * 2 + 1, none⟩)) undef)), (49, (cond (!d) (.int .i32 q.2) undef)), (50, (cond (!d) (.slice (some ⟨b, off, none⟩) n' c) undef)), (51, (cond (!d) (.int .i64 j) undef)), (52, (cond (!d) (.pointer (some ⟨b, off + j * 2, none⟩)) undef)), (53, (cond (!d) (.pointer (some ⟨b, off + j * 2 + 1, none⟩)) undef)), (54, (cond (!d) (.int .i32 p.2) undef)), (55, (cond (!d) (.bool k3) undef)), (56, (.bool (!z)))]
          [[], [], [20, 21], [22], [23], [], [], [25, 26], [27], [28], [24, 29], [30], [31], [31], [31, 32, 33], [31, 34], [31, 35], [31], [31], [31, 37, 38], [31, 39], [31, 40], [31, 36, 41], [31, 42], [43], [44], [44], [44, 45, 46], [44, 47], [44, 48], [44], [44], [44, 50, 51], [44, 52], [44, 53], [44, 49, 54], [44, 55]] (by kernel_rfl) (by kernel_rfl) (by kernel_rfl) (by kernel_rfl) ?_ ?_
        · simp only [List.take_succ_cons, List.take_zero]
          refine ⟨?r8g0, ?r8g1, ?r8g2, ?r8g3, ?r8g4, ?r8g5, ?r8g6, ?r8g7, ?r8g8, ?r8g9, ?r8g10, ?r8g11, ?r8g12, ?r8g13, ?r8g14, ?r8g15, ?r8g16, ?r8g17, ?r8g18, ?r8g19, ?r8g20, ?r8g21, ?r8g22, ?r8g23, ?r8g24, ?r8g25, ?r8g26, ?r8g27, ?r8g28, ?r8g29, ?r8g30, ?r8g31, ?r8g32, ?r8g33, ?r8g34, ?r8g35, ?r8g36, trivial⟩
          case r8g0 =>
            intro w5 hb
            refine over_nil ?_
            exact post_run (.slice (some ⟨b', off', none⟩) n' c') rfl (by kernel_rfl) (by kernel_rfl) (by kernel_rfl) (by kernel_rfl) (by kernel_rfl)
          case r8g1 =>
            intro w5 hb
            refine over_nil ?_
            exact post_run (.int .i64 j) rfl (by kernel_rfl) (by kernel_rfl) (by kernel_rfl) (by kernel_rfl) (by kernel_rfl)
          case r8g2 =>
            intro w5 hb
            refine over_vals (ds := [20, 21]) [(.slice (some ⟨b', off', none⟩) n' c'), (.int .i64 j)] (by kernel_rfl) ?_
            simp only [putAll, put_lit, List.set_cons_succ, List.set_cons_zero]
            (go_wp2; all_goals (first | exact post_of (by rfl) (by rfl) (Below.refl _ _) (by rfl) | (exfalso; simp_all; done)))
          case r8g3 =>
            intro w5 hb
            refine over_vals (ds := [22]) [(.pointer (some ⟨b', off' + j * 2, none⟩))] (by kernel_rfl) ?_
            obtain ⟨u2, u3⟩ := HC'.out w5 hb
            simp only [putAll, put_lit, List.set_cons_succ, List.set_cons_zero]
            (go_wp2; all_goals (first | exact post_of (by rfl) (by rfl) (Below.refl _ _) (by rfl) | (exfalso; simp_all; done)))
          case r8g4 =>
            intro w5 hb
            refine over_vals (ds := [23]) [(.pointer (some ⟨b', off' + j * 2, none⟩))] (by kernel_rfl) ?_
            obtain ⟨u2, u3⟩ := HC'.out w5 hb
            simp only [putAll, put_lit, List.set_cons_succ, List.set_cons_zero]
            (go_wp2; all_goals (first | exact post_of (by rfl) (by rfl) (Below.refl _ _) (by rfl) | (exfalso; simp_all; done)))
          case r8g5 =>
            intro w5 hb
            refine over_nil ?_
            exact post_run (.slice (some ⟨b', off', none⟩) n' c') rfl (by kernel_rfl) (by kernel_rfl) (by kernel_rfl) (by kernel_rfl) (by kernel_rfl)
          case r8g6 =>
            intro w5 hb
            refine over_nil ?_
            exact post_run (.int .i64 j) rfl (by kernel_rfl) (by kernel_rfl) (by kernel_rfl) (by kernel_rfl) (by kernel_rfl)
          case r8g7 =>
            intro w5 hb
            refine over_vals (ds := [25, 26]) [(.slice (some ⟨b', off', none⟩) n' c'), (.int .i64 j)] (by kernel_rfl) ?_
            simp only [putAll, put_lit, List.set_cons_succ, List.set_cons_zero]
            (go_wp2; all_goals (first | exact post_of (by rfl) (by rfl) (Below.refl _ _) (by rfl) | (exfalso; simp_all; done)))
          case r8g8 =>
            intro w5 hb
            refine over_vals (ds := [27]) [(.pointer (some ⟨b', off' + j * 2, none⟩))] (by kernel_rfl) ?_
            obtain ⟨u2, u3⟩ := HC'.out w5 hb
            simp only [putAll, put_lit, List.set_cons_succ, List.set_cons_zero]
            (go_wp2; all_goals (first | exact post_of (by rfl) (by rfl) (Below.refl _ _) (by rfl) | (exfalso; simp_all; done)))
          case r8g9 =>
            intro w5 hb
            refine over_vals (ds := [28]) [(.pointer (some ⟨b', off' + j * 2 + 1, none⟩))] (by kernel_rfl) ?_
            obtain ⟨u2, u3⟩ := HC'.out w5 hb
            simp only [putAll, put_lit, List.set_cons_succ, List.set_cons_zero]
            (go_wp2; all_goals (first | exact post_of (by rfl) (by rfl) (Below.refl _ _) (by rfl) | (exfalso; simp_all; done)))
          case r8g10 =>
            intro w5 hb
            refine over_vals (ds := [24, 29]) [(.int .i32 q.1), (.int .i32 q.2)] (by kernel_rfl) ?_
            simp only [putAll, put_lit, List.set_cons_succ, List.set_cons_zero]
            cases k1
            · try dsimp only [cond]
              ((first | have hl := of_decide_eq_true Hk1.out | have hl := of_decide_eq_false Hk1.out); go_wp2; all_goals (first | exact post_of (by rfl) (by rfl) (Below.refl _ _) (by rfl) | (exfalso; simp_all; done)))
            · try dsimp only [cond]
              ((first | have hl := of_decide_eq_true Hk1.out | have hl := of_decide_eq_false Hk1.out); go_wp2; all_goals (first | exact post_of (by rfl) (by rfl) (Below.refl _ _) (by rfl) | (exfalso; simp_all; done)))
          case r8g11 =>
            intro w5 hb
            refine over_vals (ds := [30]) [(.bool k1)] (by kernel_rfl) ?_
            exact post_run (.bool k1) rfl (by kernel_rfl) (by kernel_rfl) (by kernel_rfl) (by kernel_rfl) (by kernel_rfl)
          case r8g12 =>
            intro w5 hb
            refine over_vals (ds := [31]) [(.bool k1)] (by kernel_rfl) ?_
            cases k1
            · exact post_run (.slice (some ⟨b', off', none⟩) n' c') rfl (by kernel_rfl) (by kernel_rfl) (by kernel_rfl) (by kernel_rfl) (by kernel_rfl)
            · exact post_skip rfl (by kernel_rfl) (by kernel_rfl) (by kernel_rfl) (by kernel_rfl)
          case r8g13 =>
            intro w5 hb
            refine over_vals (ds := [31]) [(.bool k1)] (by kernel_rfl) ?_
            cases k1
            · exact post_run (.int .i64 j) rfl (by kernel_rfl) (by kernel_rfl) (by kernel_rfl) (by kernel_rfl) (by kernel_rfl)
            · exact post_skip rfl (by kernel_rfl) (by kernel_rfl) (by kernel_rfl) (by kernel_rfl)
          case r8g14 =>
            intro w5 hb
            refine over_vals (ds := [31, 32, 33]) [(.bool k1), (cond (!k1) (.slice (some ⟨b', off', none⟩) n' c') undef), (cond (!k1) (.int .i64 j) undef)] (by kernel_rfl) ?_
            simp only [putAll, put_lit, List.set_cons_succ, List.set_cons_zero]
            cases k1
            · try dsimp only [cond]
              (go_wp2; all_goals (first | exact post_of (by rfl) (by rfl) (Below.refl _ _) (by rfl) | (exfalso; simp_all; done)))
            · exact post_skip rfl (by kernel_rfl) (by kernel_rfl) (by kernel_rfl) (by kernel_rfl)
          case r8g15 =>
            intro w5 hb
            refine over_vals (ds := [31, 34]) [(.bool k1), (cond (!k1) (.pointer (some ⟨b', off' + j * 2, none⟩)) undef)] (by kernel_rfl) ?_
            obtain ⟨u2, u3⟩ := HC'.out w5 hb
            simp only [putAll, put_lit, List.set_cons_succ, List.set_cons_zero]
            cases k1
            · try dsimp only [cond]
              (go_wp2; all_goals (first | exact post_of (by rfl) (by rfl) (Below.refl _ _) (by rfl) | (exfalso; simp_all; done)))
            · exact post_skip rfl (by kernel_rfl) (by kernel_rfl) (by kernel_rfl) (by kernel_rfl)
          case r8g16 =>
            intro w5 hb
            refine over_vals (ds := [31, 35]) [(.bool k1), (cond (!k1) (.pointer (some ⟨b', off' + j * 2, none⟩)) undef)] (by kernel_rfl) ?_
            obtain ⟨u2, u3⟩ := HC'.out w5 hb
            simp only [putAll, put_lit, List.set_cons_succ, List.set_cons_zero]
            cases k1
            · try dsimp only [cond]
              (go_wp2; all_goals (first | exact post_of (by rfl) (by rfl) (Below.refl _ _) (by rfl) | (exfalso; simp_all; done)))
            · exact post_skip rfl (by kernel_rfl) (by kernel_rfl) (by kernel_rfl) (by kernel_rfl)
          case r8g17 =>
            intro w5 hb
            refine over_vals (ds := [31]) [(.bool k1)] (by kernel_rfl) ?_
            cases k1
            · exact post_run (.slice (some ⟨b, off, none⟩) n' c) rfl (by kernel_rfl) (by kernel_rfl) (by kernel_rfl) (by kernel_rfl) (by kernel_rfl)
            · exact post_skip rfl (by kernel_rfl) (by kernel_rfl) (by kernel_rfl) (by kernel_rfl)
          case r8g18 =>
            intro w5 hb
            refine over_vals (ds := [31]) [(.bool k1)] (by kernel_rfl) ?_
            cases k1
            · exact post_run (.int .i64 j) rfl (by kernel_rfl) (by kernel_rfl) (by kernel_rfl) (by kernel_rfl) (by kernel_rfl)
            · exact post_skip rfl (by kernel_rfl) (by kernel_rfl) (by kernel_rfl) (by kernel_rfl)
          case r8g19 =>
            intro w5 hb
            refine over_vals (ds := [31, 37, 38]) [(.bool k1), (cond (!k1) (.slice (some ⟨b, off, none⟩) n' c) undef), (cond (!k1) (.int .i64 j) undef)] (by kernel_rfl) ?_
            simp only [putAll, put_lit, List.set_cons_succ, List.set_cons_zero]
            cases k1
            · try dsimp only [cond]
              (go_wp2; all_goals (first | exact post_of (by rfl) (by rfl) (Below.refl _ _) (by rfl) | (exfalso; simp_all; done)))
            · exact post_skip rfl (by kernel_rfl) (by kernel_rfl) (by kernel_rfl) (by kernel_rfl)
          case r8g20 =>
            intro w5 hb
            refine over_vals (ds := [31, 39]) [(.bool k1), (cond (!k1) (.pointer (some ⟨b, off + j * 2, none⟩)) undef)] (by kernel_rfl) ?_
            obtain ⟨u0, u1⟩ := HC.out w5 hb
            simp only [putAll, put_lit, List.set_cons_succ, List.set_cons_zero]
            cases k1
            · try dsimp only [cond]
              (go_wp2; all_goals (first | exact post_of (by rfl) (by rfl) (Below.refl _ _) (by rfl) | (exfalso; simp_all; done)))
            · exact post_skip rfl (by kernel_rfl) (by kernel_rfl) (by kernel_rfl) (by kernel_rfl)
          case r8g21 =>
            intro w5 hb
            refine over_vals (ds := [31, 40]) [(.bool k1), (cond (!k1) (.pointer (some ⟨b, off + j * 2, none⟩)) undef)] (by kernel_rfl) ?_
            obtain ⟨u0, u1⟩ := HC.out w5 hb
            simp only [putAll, put_lit, List.set_cons_succ, List.set_cons_zero]
            cases k1
            · try dsimp only [cond]
              (go_wp2; all_goals (first | exact post_of (by rfl) (by rfl) (Below.refl _ _) (by rfl) | (exfalso; simp_all; done)))
            · exact post_skip rfl (by kernel_rfl) (by kernel_rfl) (by kernel_rfl) (by kernel_rfl)
          case r8g22 =>
            intro w5 hb
            refine over_vals (ds := [31, 36, 41]) [(.bool k1), (cond (!k1) (.int .i32 q.1) undef), (cond (!k1) (.int .i32 p.1) undef)] (by kernel_rfl) ?_
            simp only [putAll, put_lit, List.set_cons_succ, List.set_cons_zero]
            cases k1 <;> cases k2
            · try dsimp only [cond]
              ((first | have hl := of_decide_eq_true Hk2.out | have hl := of_decide_eq_false Hk2.out); go_wp2; all_goals (first | exact post_of (by rfl) (by rfl) (Below.refl _ _) (by rfl) | (exfalso; simp_all; done)))
            · try dsimp only [cond]
              ((first | have hl := of_decide_eq_true Hk2.out | have hl := of_decide_eq_false Hk2.out); go_wp2; all_goals (first | exact post_of (by rfl) (by rfl) (Below.refl _ _) (by rfl) | (exfalso; simp_all; done)))
            · exact post_skip rfl (by kernel_rfl) (by kernel_rfl) (by kernel_rfl) (by kernel_rfl)
            · exact post_skip rfl (by kernel_rfl) (by kernel_rfl) (by kernel_rfl) (by kernel_rfl)
          case r8g23 =>
            intro w5 hb
            refine over_vals (ds := [31, 42]) [(.bool k1), (cond (!k1) (.bool k2) undef)] (by kernel_rfl) ?_
            cases k1 <;> cases k2
            · (obtain rfl : _ = d := HD.out); exact post_run (.bool false) rfl (by kernel_rfl) (by kernel_rfl) (by kernel_rfl) (by kernel_rfl) (by kernel_rfl)
            · (obtain rfl : _ = d := HD.out); exact post_run (.bool true) rfl (by kernel_rfl) (by kernel_rfl) (by kernel_rfl) (by kernel_rfl) (by kernel_rfl)
            · (obtain rfl : _ = d := HD.out); exact post_run (.bool true) rfl (by kernel_rfl) (by kernel_rfl) (by kernel_rfl) (by kernel_rfl) (by kernel_rfl)
            · (obtain rfl : _ = d := HD.out); exact post_run (.bool true) rfl (by kernel_rfl) (by kernel_rfl) (by kernel_rfl) (by kernel_rfl) (by kernel_rfl)
          case r8g24 =>
            intro w5 hb
            refine over_vals (ds := [43]) [(.bool d)] (by kernel_rfl) ?_
            exact post_run (.bool d) rfl (by kernel_rfl) (by kernel_rfl) (by kernel_rfl) (by kernel_rfl) (by kernel_rfl)
          case r8g25 =>
            intro w5 hb
            refine over_vals (ds := [44]) [(.bool d)] (by kernel_rfl) ?_
            cases d
            · exact post_run (.slice (some ⟨b', off', none⟩) n' c') rfl (by kernel_rfl) (by kernel_rfl) (by kernel_rfl) (by kernel_rfl) (by kernel_rfl)
            · exact post_skip rfl (by kernel_rfl) (by kernel_rfl) (by kernel_rfl) (by kernel_rfl)
          case r8g26 =>
            intro w5 hb
            refine over_vals (ds := [44]) [(.bool d)] (by kernel_rfl) ?_
            cases d
            · exact post_run (.int .i64 j) rfl (by kernel_rfl) (by kernel_rfl) (by kernel_rfl) (by kernel_rfl) (by kernel_rfl)
            · exact post_skip rfl (by kernel_rfl) (by kernel_rfl) (by kernel_rfl) (by kernel_rfl)
          case r8g27 =>
            intro w5 hb
            refine over_vals (ds := [44, 45, 46]) [(.bool d), (cond (!d) (.slice (some ⟨b', off', none⟩) n' c') undef), (cond (!d) (.int .i64 j) undef)] (by kernel_rfl) ?_
            simp only [putAll, put_lit, List.set_cons_succ, List.set_cons_zero]
            cases d
            · try dsimp only [cond]
              (go_wp2; all_goals (first | exact post_of (by rfl) (by rfl) (Below.refl _ _) (by rfl) | (exfalso; simp_all; done)))
            · exact post_skip rfl (by kernel_rfl) (by kernel_rfl) (by kernel_rfl) (by kernel_rfl)
          case r8g28 =>
            intro w5 hb
            refine over_vals (ds := [44, 47]) [(.bool d), (cond (!d) (.pointer (some ⟨b', off' + j * 2, none⟩)) undef)] (by kernel_rfl) ?_
            obtain ⟨u2, u3⟩ := HC'.out w5 hb
            simp only [putAll, put_lit, List.set_cons_succ, List.set_cons_zero]
            cases d
            · try dsimp only [cond]
              (go_wp2; all_goals (first | exact post_of (by rfl) (by rfl) (Below.refl _ _) (by rfl) | (exfalso; simp_all; done)))
            · exact post_skip rfl (by kernel_rfl) (by kernel_rfl) (by kernel_rfl) (by kernel_rfl)
          case r8g29 =>
            intro w5 hb
            refine over_vals (ds := [44, 48]) [(.bool d), (cond (!d) (.pointer (some ⟨b', off' + j * 2 + 1, none⟩)) undef)] (by kernel_rfl) ?_
            obtain ⟨u2, u3⟩ := HC'.out w5 hb
            simp only [putAll, put_lit, List.set_cons_succ, List.set_cons_zero]
            cases d
            · try dsimp only [cond]
              (go_wp2; all_goals (first | exact post_of (by rfl) (by rfl) (Below.refl _ _) (by rfl) | (exfalso; simp_all; done)))
            · exact post_skip rfl (by kernel_rfl) (by kernel_rfl) (by kernel_rfl) (by kernel_rfl)
          case r8g30 =>
            intro w5 hb
            refine over_vals (ds := [44]) [(.bool d)] (by kernel_rfl) ?_
            cases d
            · exact post_run (.slice (some ⟨b, off, none⟩) n' c) rfl (by kernel_rfl) (by kernel_rfl) (by kernel_rfl) (by kernel_rfl) (by kernel_rfl)
            · exact post_skip rfl (by kernel_rfl) (by kernel_rfl) (by kernel_rfl) (by kernel_rfl)
          case r8g31 =>
            intro w5 hb
            refine over_vals (ds := [44]) [(.bool d)] (by kernel_rfl) ?_
            cases d
            · exact post_run (.int .i64 j) rfl (by kernel_rfl) (by kernel_rfl) (by kernel_rfl) (by kernel_rfl) (by kernel_rfl)
            · exact post_skip rfl (by kernel_rfl) (by kernel_rfl) (by kernel_rfl) (by kernel_rfl)
          case r8g32 =>
            intro w5 hb
            refine over_vals (ds := [44, 50, 51]) [(.bool d), (cond (!d) (.slice (some ⟨b, off, none⟩) n' c) undef), (cond (!d) (.int .i64 j) undef)] (by kernel_rfl) ?_
            simp only [putAll, put_lit, List.set_cons_succ, List.set_cons_zero]
            cases d
            · try dsimp only [cond]
              (go_wp2; all_goals (first | exact post_of (by rfl) (by rfl) (Below.refl _ _) (by rfl) | (exfalso; simp_all; done)))
            · exact post_skip rfl (by kernel_rfl) (by kernel_rfl) (by kernel_rfl) (by kernel_rfl)
          case r8g33 =>
            intro w5 hb
            refine over_vals (ds := [44, 52]) [(.bool d), (cond (!d) (.pointer (some ⟨b, off + j * 2, none⟩)) undef)] (by kernel_rfl) ?_
            obtain ⟨u0, u1⟩ := HC.out w5 hb
            simp only [putAll, put_lit, List.set_cons_succ, List.set_cons_zero]
            cases d
            · try dsimp only [cond]
              (go_wp2; all_goals (first | exact post_of (by rfl) (by rfl) (Below.refl _ _) (by rfl) | (exfalso; simp_all; done)))
            · exact post_skip rfl (by kernel_rfl) (by kernel_rfl) (by kernel_rfl) (by kernel_rfl)
          case r8g34 =>
            intro w5 hb
            refine over_vals (ds := [44, 53]) [(.bool d), (cond (!d) (.pointer (some ⟨b, off + j * 2 + 1, none⟩)) undef)] (by kernel_rfl) ?_
            obtain ⟨u0, u1⟩ := HC.out w5 hb
            simp only [putAll, put_lit, List.set_cons_succ, List.set_cons_zero]
            cases d
            · try dsimp only [cond]
              (go_wp2; all_goals (first | exact post_of (by rfl) (by rfl) (Below.refl _ _) (by rfl) | (exfalso; simp_all; done)))
            · exact post_skip rfl (by kernel_rfl) (by kernel_rfl) (by kernel_rfl) (by kernel_rfl)
          case r8g35 =>
            intro w5 hb
            refine over_vals (ds := [44, 49, 54]) [(.bool d), (cond (!d) (.int .i32 q.2) undef), (cond (!d) (.int .i32 p.2) undef)] (by kernel_rfl) ?_
            simp only [putAll, put_lit, List.set_cons_succ, List.set_cons_zero]
            cases d <;> cases k3
            · try dsimp only [cond]
              ((first | have hl := of_decide_eq_true Hk3.out | have hl := of_decide_eq_false Hk3.out); go_wp2; all_goals (first | exact post_of (by rfl) (by rfl) (Below.refl _ _) (by rfl) | (exfalso; simp_all; done)))
            · try dsimp only [cond]
              ((first | have hl := of_decide_eq_true Hk3.out | have hl := of_decide_eq_false Hk3.out); go_wp2; all_goals (first | exact post_of (by rfl) (by rfl) (Below.refl _ _) (by rfl) | (exfalso; simp_all; done)))
            · exact post_skip rfl (by kernel_rfl) (by kernel_rfl) (by kernel_rfl) (by kernel_rfl)
            · exact post_skip rfl (by kernel_rfl) (by kernel_rfl) (by kernel_rfl) (by kernel_rfl)
          case r8g36 =>
            intro w5 hb
            refine over_vals (ds := [44, 55]) [(.bool d), (cond (!d) (.bool k3) undef)] (by kernel_rfl) ?_
            cases d <;> cases k3 <;> cases z
            · exact absurd HN.out (by decide)
            · exact post_run (.bool false) rfl (by kernel_rfl) (by kernel_rfl) (by kernel_rfl) (by kernel_rfl) (by kernel_rfl)
            · exact post_run (.bool true) rfl (by kernel_rfl) (by kernel_rfl) (by kernel_rfl) (by kernel_rfl) (by kernel_rfl)
            · exact absurd HN.out (by decide)
            · exact post_run (.bool true) rfl (by kernel_rfl) (by kernel_rfl) (by kernel_rfl) (by kernel_rfl) (by kernel_rfl)
            · exact absurd HN.out (by decide)
            · exact post_run (.bool true) rfl (by kernel_rfl) (by kernel_rfl) (by kernel_rfl) (by kernel_rfl) (by kernel_rfl)
            · exact absurd HN.out (by decide)
        intro w9 b9
        simp only [List.drop_succ_cons, List.drop_zero]
        simp only [List.map_cons, List.map_nil, putAll, put_lit, List.set_cons_succ, List.set_cons_zero]
        have b2 := thn b1 b9
        cases z
        · simp only [Bool.not_false]
          have HY : Hid (rightF es bs = false) := by unfold Hid; rw [HF.out, all_bad (f := fun x : (Int × Int) × (Int × Int) => okF x.1 x.2) HZ.out HO.out]
          go_wp2
          go_ret
          exact ⟨by rw [HY.out]; rfl, b2⟩
        · simp only [Bool.not_true]
          have HP : Hid (((bs.zip es).take (j + 1)).all (fun x => okF x.1 x.2) = true) := by
            unfold Hid
            rw [all_step HZ.out, HT.out, HO.out]; rfl
          go_wp2
          go_roundw
          case rel => exact ⟨j + 1, by omega, by go_num, HP, b2⟩
          case measure => simp [intOf]; omega
      · obtain rfl : j = n' := by omega
        have HW : Hid (((bs.zip es).take j).all (fun x => okF x.1 x.2) = (bs.zip es).all (fun x => okF x.1 x.2)) := all_whole (by rw [zip_len (HL'.out.symm.trans HL.out), ← HL'.out]; exact Nat.le_refl _)
        have HY : Hid (rightF es bs = true) := HF.out.trans (HW.out.symm.trans HT.out)
        go_wp2
        go_ret
        exact ⟨by rw [HY.out]; rfl, b1⟩
  · go_enter Tryd.func13, Tryd.ntmps13
    go_wp2
    go_ret
    exact ⟨congrArg (fun b => Ending.returned (.bool b)) (show false = _ from Eq.symm (by unfold rightF; rw [← HL.out, ← HL'.out, decide_eq_false h0, decide_eq_false hn]; rfl)), Below.refl _ _⟩
theorem meetF_bad {es bs : List (Int × Int)} {j : Nat} {p q : Int × Int} (h : (es.zip bs)[j]? = some (p, q)) (hm : meetB p q = false) : meetF es bs = [] := by
  unfold meetF
  rw [if_neg]
  rintro ⟨_, h2⟩
  rw [all_bad (f := fun x : (Int × Int) × (Int × Int) => meetB x.1 x.2) h hm] at h2
  cases h2
end Go.Proofs.YtmajempbncllgaaDoor
