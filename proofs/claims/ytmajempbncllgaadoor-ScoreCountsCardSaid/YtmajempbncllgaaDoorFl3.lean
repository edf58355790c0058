/- Layer 5: the reference's Meet. -/
import Derived.Test.YtmajempbncllgaaDoorFl2
import Derived.Test.YtmajempbncllgaaDoorReg7
namespace Go.Proofs.YtmajempbncllgaaDoor
open Go.RowKit
set_option linter.unusedVariables false
set_option maxHeartbeats 4000000 in
theorem refMeetF_any (A : Option Addr) (n c : Nat) (es : List (Int × Int)) (A' : Option Addr) (n' c' : Nat) (bs : List (Int × Int)) (w : World) (h : Sp w w.heap.size A n c es) (h' : Sp w w.heap.size A' n' c' bs) (hn8 : n ≤ 1000000) :
    Calls Tryd.prog 27 #[.slice A n c, .slice A' n' c'] w (GaveF (meetF es bs) w) := by
  have HL : Hid (n = es.length) := sp_len h
  have HL' : Hid (n' = bs.length) := sp_len h'
  have hm := h.max
  have hc := h.cap
  have hm' := h'.max
  have hc' := h'.cap
  unfold maxLen at hm hm'
  have HS := Lib.hid h
  have HS' := Lib.hid h'
  clear h h'
  by_cases hn : n = n'
  · subst hn
    go_enter Tryd.func27, Tryd.ntmps27
    go_wp2
    go_loopw [5, 6] (fun v i wr => ∃ (j : Nat) (A2 : Option Addr) (c2 : Nat), j ≤ n ∧ i = .int .i64 j ∧ v = .slice A2 j c2 ∧ Hid (((es.zip bs).take j).all (fun x => meetB x.1 x.2) = true) ∧ Hid (Ows wr w.heap.size 36 2 A2 j c2 (spl (((es.zip bs).take j).map fun x => meetP x.1 x.2))) ∧ Below w.heap.size w wr) (fun _ i _ => n - (intOf i).toNat)
    case atStart => exact ⟨0, none, 0, Nat.zero_le _, rfl, rfl, rfl, Ows.nil _ _ _ _, Below.refl _ _⟩
    case round =>
      obtain ⟨j, A2, c2, hj, rfl, rfl, HT, O3, b1⟩ := hrel
      by_cases hlt : j < n
      · obtain ⟨b, off, p, rfl, hp, HC⟩ := sp_cells (HS.out.next b1) hlt
        obtain ⟨b', off', q, rfl, hq, HC'⟩ := sp_cells (HS'.out.next b1) hlt
        have HX := Lib.hid (zip_at hp hq)
        have i0 : (0 : Int) ≤ (j : Int) := by omega
        have i1 : (j : Int) < (n : Int) := by omega
        clear hp hq
        obtain ⟨z, HZ⟩ : ∃ z, Hid (meetB p q = z) := ⟨_, rfl⟩
        obtain ⟨m, HM⟩ : ∃ m, Hid (meetP p q = m) := ⟨_, rfl⟩
        have hsz := b1.size
        go_wp2
        refine wp_region_late 13 11 _ _ [(22, .val (.slice (some ⟨b, off, none⟩) n c)), (23, .val (.int .i64 j)), (24, .val (.pointer (some ⟨b, off + j * 2, none⟩))), (25, .val (.agg #[.int .i32 p.1, .int .i32 p.2])), (26, .val (.slice (some ⟨b', off', none⟩) n c')), (27, .val (.int .i64 j)), (28, .val (.pointer (some ⟨b', off' + j * 2, none⟩))), (29, .val (.agg #[.int .i32 q.1, .int .i32 q.2])), (30, .val (.tuple #[.agg #[.int .i32 m.1, .int .i32 m.2], .bool z])), (21, .val (.tuple #[.agg #[.int .i32 m.1, .int .i32 m.2], .bool z])), (31, .val (.agg #[.int .i32 m.1, .int .i32 m.2])), (32, .val (.bool z)), (7, tyZ wr.heap.size)]
          [[], [], [22, 23], [24], [], [], [26, 27], [28], [25, 29], [30], [21], [21], []] (by kernel_rfl) (by kernel_rfl) rfl rfl ?_ ?_ ?_
        · simp only [List.take_succ_cons, List.take_zero]
          refine ⟨?r7g0, ?r7g1, ?r7g2, ?r7g3, ?r7g4, ?r7g5, ?r7g6, ?r7g7, ?r7g8, ?r7g9, ?r7g10, ?r7g11, ?r7g12, trivial⟩
          case r7g0 =>
            intro w5 hb
            refine over_nil ?_
            exact post_run (.slice (some ⟨b, off, none⟩) n c) rfl (by kernel_rfl) (by kernel_rfl) (by kernel_rfl) (by kernel_rfl) (by kernel_rfl)
          case r7g1 =>
            intro w5 hb
            refine over_nil ?_
            exact post_run (.int .i64 j) rfl (by kernel_rfl) (by kernel_rfl) (by kernel_rfl) (by kernel_rfl) (by kernel_rfl)
          case r7g2 =>
            intro w5 hb
            refine over_vals (ds := [22, 23]) [(.slice (some ⟨b, off, none⟩) n c), (.int .i64 j)] (by kernel_rfl) ?_
            simp only [putAll, put_lit, List.set_cons_succ, List.set_cons_zero]
            (go_wp2; all_goals (first | exact post_of (by rfl) (by rfl) (Below.refl _ _) (by rfl) | (exfalso; simp_all; done)))
          case r7g3 =>
            intro w5 hb
            refine over_vals (ds := [24]) [(.pointer (some ⟨b, off + j * 2, none⟩))] (by kernel_rfl) ?_
            obtain ⟨u0, u1⟩ := HC.out w5 hb
            simp only [putAll, put_lit, List.set_cons_succ, List.set_cons_zero]
            (go_wp2; all_goals (first | exact post_of (by rfl) (by rfl) (Below.refl _ _) (by rfl) | (exfalso; simp_all; done)))
          case r7g4 =>
            intro w5 hb
            refine over_nil ?_
            exact post_run (.slice (some ⟨b', off', none⟩) n c') rfl (by kernel_rfl) (by kernel_rfl) (by kernel_rfl) (by kernel_rfl) (by kernel_rfl)
          case r7g5 =>
            intro w5 hb
            refine over_nil ?_
            exact post_run (.int .i64 j) rfl (by kernel_rfl) (by kernel_rfl) (by kernel_rfl) (by kernel_rfl) (by kernel_rfl)
          case r7g6 =>
            intro w5 hb
            refine over_vals (ds := [26, 27]) [(.slice (some ⟨b', off', none⟩) n c'), (.int .i64 j)] (by kernel_rfl) ?_
            simp only [putAll, put_lit, List.set_cons_succ, List.set_cons_zero]
            (go_wp2; all_goals (first | exact post_of (by rfl) (by rfl) (Below.refl _ _) (by rfl) | (exfalso; simp_all; done)))
          case r7g7 =>
            intro w5 hb
            refine over_vals (ds := [28]) [(.pointer (some ⟨b', off' + j * 2, none⟩))] (by kernel_rfl) ?_
            obtain ⟨u2, u3⟩ := HC'.out w5 hb
            simp only [putAll, put_lit, List.set_cons_succ, List.set_cons_zero]
            (go_wp2; all_goals (first | exact post_of (by rfl) (by rfl) (Below.refl _ _) (by rfl) | (exfalso; simp_all; done)))
          case r7g8 =>
            intro w5 hb
            refine over_vals (ds := [25, 29]) [(.agg #[.int .i32 p.1, .int .i32 p.2]), (.agg #[.int .i32 q.1, .int .i32 q.2])] (by kernel_rfl) ?_
            simp only [putAll, put_lit, List.set_cons_succ, List.set_cons_zero]
            (go_wp2_with (go_at_call 40; go_must (refine (refMeet_of HM.out HZ.out).mono ?_); rintro r w6 ⟨rfl, b6⟩); all_goals (first | exact post_of (by rfl) (by rfl) (Below.refl _ _) (by rfl) | exact post_of (by rfl) (by rfl) b6 (by rfl) | (exfalso; simp_all; done)))
          case r7g9 =>
            intro w5 hb
            refine over_vals (ds := [30]) [(.tuple #[.agg #[.int .i32 m.1, .int .i32 m.2], .bool z])] (by kernel_rfl) ?_
            exact post_run (.tuple #[.agg #[.int .i32 m.1, .int .i32 m.2], .bool z]) rfl (by kernel_rfl) (by kernel_rfl) (by kernel_rfl) (by kernel_rfl) (by kernel_rfl)
          case r7g10 =>
            intro w5 hb
            refine over_vals (ds := [21]) [(.tuple #[.agg #[.int .i32 m.1, .int .i32 m.2], .bool z])] (by kernel_rfl) ?_
            simp only [putAll, put_lit, List.set_cons_succ, List.set_cons_zero]
            (go_wp2; all_goals (first | exact post_of (by rfl) (by rfl) (Below.refl _ _) (by rfl) | (exfalso; simp_all; done)))
          case r7g11 =>
            intro w5 hb
            refine over_vals (ds := [21]) [(.tuple #[.agg #[.int .i32 m.1, .int .i32 m.2], .bool z])] (by kernel_rfl) ?_
            simp only [putAll, put_lit, List.set_cons_succ, List.set_cons_zero]
            (go_wp2; all_goals (first | exact post_of (by rfl) (by rfl) (Below.refl _ _) (by rfl) | (exfalso; simp_all; done)))
          case r7g12 =>
            intro w5 hb
            refine over_nil ?_
            go_wp2
            exact post_of (by rfl) (by rfl) (below_lit _ _) (by exact ⟨_, rfl, hb.size, Blk.lit _ 0 0⟩)
        · intro w9 b9
          simp only [List.take_succ_cons, List.take_zero, List.drop_succ_cons, List.drop_zero]
          repeat (first | refine over_val rfl ?_ | (refine over_pred rfl ?_; rintro _ ⟨g7, rfl, hg7, k7⟩))
          refine over_nil ?_
          simp only [put_lit, List.set_cons_succ, List.set_cons_zero]
          obtain ⟨e0, e1⟩ := k7.cells
          obtain ⟨f0, f1⟩ := k7.free
          have K8 := Lib.hid (k7.set m.1 m.2)
          have b8 := below_set b9 hg7 (.int .i32 m.1) (.int .i32 m.2)
          have B8 := Lib.hid b8
          clear k7 b9 b8
          cases z
          · have HE : Hid (meetF es bs = []) := meetF_bad HX.out HZ.out
            have b9' := b1.trans ((B8.out.alloc B8.out.size (.cells #[] 36)).mono hsz)
            go_wp2
            go_ret
            exact ⟨_, 0, by rw [HE.out]; rfl, by rw [HE.out]; exact sp_zero _ _ _, b9'⟩
          · have hz8 := B8.out.size
            simp only [World.size_setCell] at hz8
            have B9 := Lib.hid (B8.out.alloc B8.out.size (.cells #[.int .i32 m.1, .int .i32 m.2] 36))
            have HP : Hid (((es.zip bs).take (j + 1)).map (fun x => meetP x.1 x.2) = ((es.zip bs).take j).map (fun x => meetP x.1 x.2) ++ [m]) := by
              unfold Hid
              rw [List.take_add_one, HX.out, List.map_append, ← HM.out]; rfl
            have HT2 : Hid (((es.zip bs).take (j + 1)).all (fun x => meetB x.1 x.2) = true) := by
              unfold Hid
              rw [all_step HX.out, HT.out, HZ.out]; rfl
            have f10 := e0
            go_wp2_with (at_builtin; go_must (refine wpList_apps rfl _ _ 24 rfl Tryd.underlying24 infoSpan rfl (by decide) rfl (O3.out.below B9.out) rfl (Sn.lit_at _ _ _ _ 2 1 _ (by simp) rfl (by decide)) (span_one _ _) (by omega) (by omega) (by decide) (by simp only [World.size_alloc, World.size_setCell]; omega) ?_); intro A4 c4 w4 o4 g4)
            have O5 : Hid (Ows w4 w.heap.size 36 2 A4 (j + 1) c4 (spl (((es.zip bs).take (j + 1)).map fun x => meetP x.1 x.2))) := by
              unfold Hid
              rw [HP.out, spl_append]
              exact o4
            have b4 := (b1.trans (B9.out.mono hsz)).grown g4 (by simp only [World.size_alloc, World.size_setCell]; omega) O3.out.lt
            clear o4 g4
            go_wp2
            go_roundw
            case rel => exact ⟨j + 1, A4, c4, by omega, by go_num, rfl, HT2, O5, b4⟩
            case measure => simp [intOf]; omega
        · intro w9 b9
          simp only [List.take_succ_cons, List.take_zero, List.drop_succ_cons, List.drop_zero, List.eraseIdx_cons_succ, List.eraseIdx_cons_zero]
          repeat (first | refine over_val rfl ?_ | (refine over_pred rfl ?_; rintro _ ⟨g7, rfl, hg7, k7⟩))
          refine over_nil ?_
          simp only [put_lit, List.set_cons_succ, List.set_cons_zero]
          obtain ⟨e0, e1⟩ := k7.cells
          obtain ⟨f0, f1⟩ := k7.free
          have K8 := Lib.hid (k7.set m.1 m.2)
          have b8 := below_set b9 hg7 (.int .i32 m.1) (.int .i32 m.2)
          have B8 := Lib.hid b8
          clear k7 b9 b8
          cases z
          · have HE : Hid (meetF es bs = []) := meetF_bad HX.out HZ.out
            have b9' := b1.trans ((B8.out.alloc B8.out.size (.cells #[] 36)).mono hsz)
            go_wp2
            go_ret
            exact ⟨_, 0, by rw [HE.out]; rfl, by rw [HE.out]; exact sp_zero _ _ _, b9'⟩
          · have hz8 := B8.out.size
            simp only [World.size_setCell] at hz8
            have B9 := Lib.hid (B8.out.alloc B8.out.size (.cells #[.int .i32 m.1, .int .i32 m.2] 36))
            have HP : Hid (((es.zip bs).take (j + 1)).map (fun x => meetP x.1 x.2) = ((es.zip bs).take j).map (fun x => meetP x.1 x.2) ++ [m]) := by
              unfold Hid
              rw [List.take_add_one, HX.out, List.map_append, ← HM.out]; rfl
            have HT2 : Hid (((es.zip bs).take (j + 1)).all (fun x => meetB x.1 x.2) = true) := by
              unfold Hid
              rw [all_step HX.out, HT.out, HZ.out]; rfl
            have f10 := e0
            go_wp2_with (at_builtin; go_must (refine wpList_apps rfl _ _ 24 rfl Tryd.underlying24 infoSpan rfl (by decide) rfl (O3.out.below B9.out) rfl (Sn.lit_at _ _ _ _ 2 1 _ (by simp) rfl (by decide)) (span_one _ _) (by omega) (by omega) (by decide) (by simp only [World.size_alloc, World.size_setCell]; omega) ?_); intro A4 c4 w4 o4 g4)
            have O5 : Hid (Ows w4 w.heap.size 36 2 A4 (j + 1) c4 (spl (((es.zip bs).take (j + 1)).map fun x => meetP x.1 x.2))) := by
              unfold Hid
              rw [HP.out, spl_append]
              exact o4
            have b4 := (b1.trans (B9.out.mono hsz)).grown g4 (by simp only [World.size_alloc, World.size_setCell]; omega) O3.out.lt
            clear o4 g4
            go_wp2
            go_roundw
            case rel => exact ⟨j + 1, A4, c4, by omega, by go_num, rfl, HT2, O5, b4⟩
            case measure => simp [intOf]; omega
      · obtain rfl : j = n := by omega
        have hz := zip_len (HL.out.symm.trans HL'.out)
        have HW : Hid ((es.zip bs).take j = es.zip bs) := List.take_of_length_le (by rw [hz, ← HL.out]; exact Nat.le_refl _)
        have HE : Hid (meetF es bs = (es.zip bs).map (fun x => meetP x.1 x.2)) := if_pos ⟨HL.out.symm.trans HL'.out, by have := HT.out; rwa [HW.out] at this⟩
        have HN : Hid ((meetF es bs).length = j) := by unfold Hid; rw [HE.out, List.length_map, hz, ← HL.out]
        rw [HW.out, ← HE.out] at O3
        go_wp2
        go_ret
        exact ⟨A2, c2, by rw [HN.out]; rfl, by rw [HN.out]; exact Sn.of_own O3.out, b1⟩
  · go_enter Tryd.func27, Tryd.ntmps27
    go_wp2
    go_ret
    have HE : Hid (meetF es bs = []) := if_neg (fun e => hn (by rw [HL.out, HL'.out]; exact e.1))
    exact ⟨none, 0, by rw [HE.out]; rfl, by rw [HE.out]; exact sp_zero _ _ _, Below.refl _ _⟩
end Go.Proofs.YtmajempbncllgaaDoor
