/- Layer 4: spans: Len, and the references. -/
import Derived.Test.YtofphdodihbijaaDoorSp2
namespace Go.Proofs.YtofphdodihbijaaDoor
open Go.RowKit
set_option linter.unusedVariables false
theorem len_any (p : Int × Int) (w : World) (hT : Tab w) (hp : inR p) : Calls Tryd.prog 12 #[(.agg #[.int .i32 p.1, .int .i32 p.2])] w fun e w' => e = .returned (.int .u32 (lenP p)) ∧ Below w.heap.size w w' := by
  obtain ⟨r, Hr⟩ : ∃ r, Hid (plainP p = r) := ⟨_, rfl⟩
  obtain ⟨b, Hb⟩ : ∃ b, Hid (decide (p.2 < p.1) = b) := ⟨_, rfl⟩
  obtain ⟨⟨hp0, hp1⟩, hp2, hp3⟩ := hp
  have HE : Hid (decide (r.1 = 2147483647 ∧ r.2 = -2147483648) = b) := by
    unfold Hid
    rw [← Hr.out, ← Hb.out]
    unfold plainP E0
    rw [Bool.eq_iff_iff]
    simp only [decide_eq_true_eq]
    split
    all_goals (first | omega | (simp only; omega))
  obtain ⟨m, em⟩ : ∃ m, (if 4294967295 < p.2 - p.1 + 1 then 4294967295 else p.2 - p.1 + 1) = m := ⟨_, rfl⟩
  have HL : Hid (lenP p = if b then 0 else m) := by
    unfold Hid lenP
    rw [← Hb.out, ← em]
    simp only [decide_eq_true_eq]
    split
    · rfl
    · rw [Int.min_def]; split <;> split <;> omega
  have hm : b = false → 0 ≤ m ∧ m ≤ 4294967295 := by
    intro h
    rw [← Hb.out] at h
    simp only [decide_eq_false_iff_not] at h
    rw [← em]
    split <;> omega
  generalize lenP p = n at *
  have b2 := below_lit w (.cells #[.int .i32 p.1, .int .i32 p.2] 23)
  have K2 : Hid (Blk (w.alloc (.cells #[.int .i32 p.1, .int .i32 p.2] 23)) w.heap.size p) := Blk.lit w p.1 p.2
  have HT : Hid (Tab (w.alloc (.cells #[.int .i32 p.1, .int .i32 p.2] 23))) := hT.next b2
  clear hT
  go_enter Tryd.func12, Tryd.ntmps12
  go_wp2
  generalize w.alloc _ = W at *
  generalize w.heap.size = g2 at K2 ⊢
  refine wp_region_typed 4 [(3, .val (.agg #[.int .i32 p.1, .int .i32 p.2])), (4, .val (.agg #[.int .i32 r.1, .int .i32 r.2])), (5, .val (.agg #[.int .i32 2147483647, .int .i32 (-2147483648)])), (6, .val (.bool b))]
    [[], [3], [], [4, 5]] (by kernel_rfl) (by kernel_rfl) ?_ ?_
  rotate_left
  · intro w5 hb
    simp only [List.take_succ_cons, List.take_zero, List.drop_succ_cons, List.drop_zero]
    repeat refine over_val rfl ?_
    refine over_nil ?_
    simp only [put_lit, List.set_cons_succ, List.set_cons_zero]
    have BB := Lib.hid (b2.trans (hb.mono b2.size))
    obtain ⟨c0, c1⟩ := (K2.out.next hb).cells
    cases b
    · obtain ⟨hm0, hm1⟩ := hm rfl
      clear hm
      go_wp2
      go_ret
      exact ⟨by rw [HL.out]; rfl, BB.out⟩
    · clear hm
      go_wp2
      go_ret
      exact ⟨by rw [HL.out]; rfl, BB.out⟩
  simp only [List.take_succ_cons, List.take_zero]
  refine ⟨?g0, ?g1, ?g2, ?g3, trivial⟩
  case g0 =>
    intro w5 hb
    repeat refine over_val rfl ?_
    refine over_nil ?_
    obtain ⟨c0, c1⟩ := (K2.out.next hb).cells
    go_wp2
    exact post_of (by rfl) (by rfl) (Below.refl _ _) (by rfl)
  case g1 =>
    intro w5 hb
    repeat refine over_val rfl ?_
    refine over_nil ?_
    have hT5 := Lib.hid (HT.out.next hb)
    go_wp2_with (go_at_call 22; go_must (refine (plain_of hT5.out Hr.out).mono ?_); rintro r w6 ⟨rfl, b6⟩)
    first | exact post_of (by rfl) (by rfl) (Below.refl _ _) (by rfl) | exact post_of (by rfl) (by rfl) b6 (by rfl)
  case g2 =>
    intro w5 hb
    repeat refine over_val rfl ?_
    refine over_nil ?_
    obtain ⟨T0, T1, _⟩ := HT.out.next hb
    go_wp2
    exact post_of (by rfl) (by rfl) (Below.refl _ _) (by rfl)
  case g3 =>
    intro w5 hb
    repeat refine over_val rfl ?_
    refine over_nil ?_
    have heq := fun w' : World => (eql_run r (2147483647, -2147483648) w').trans (by rw [HE.out])
    go_wp2
    exact post_of (by rfl) (by rfl) (Below.refl _ _) (by rfl)
theorem refLen_any (p : Int × Int) (w : World) (hp : inR p) : Calls Tryd.prog 13 #[(.agg #[.int .i32 p.1, .int .i32 p.2])] w fun e w' => e = .returned (.int .u32 (lenP p)) ∧ Below w.heap.size w w' := by
  obtain ⟨⟨hp0, hp1⟩, hp2, hp3⟩ := hp
  rcases Int.lt_or_le p.2 p.1 with h | h
  · rw [show lenP p = 0 from if_pos h]
    go_enter Tryd.func13, Tryd.ntmps13
    go_wp2
    go_ret
    exact ⟨rfl, below_lit _ _⟩
  · rcases Int.lt_or_le 4294967295 (p.2 - p.1 + 1) with h4 | h4
    · have HL : Hid (lenP p = 4294967295) := by unfold Hid lenP; rw [if_neg (by omega), Int.min_def]; split <;> omega
      go_enter Tryd.func13, Tryd.ntmps13
      go_wp2
      go_ret
      exact ⟨by rw [HL.out]; rfl, below_lit _ _⟩
    · have HL : Hid (lenP p = p.2 - p.1 + 1) := by unfold Hid lenP; rw [if_neg (by omega), Int.min_def]; split <;> omega
      go_enter Tryd.func13, Tryd.ntmps13
      go_wp2
      go_ret
      exact ⟨by rw [HL.out]; rfl, below_lit _ _⟩
theorem refCovers_any (p q : Int × Int) (w : World) : Calls Tryd.prog 15 #[(.agg #[.int .i32 p.1, .int .i32 p.2]), (.agg #[.int .i32 q.1, .int .i32 q.2])] w fun e w' => e = .returned (.bool (covB p q)) ∧ Below w.heap.size w w' := by
  rcases Int.lt_or_le q.2 q.1 with h | h
  · rw [show covB p q = true by unfold covB; rw [decide_eq_true h]; rfl]
    go_enter Tryd.func15, Tryd.ntmps15
    go_wp2
    go_ret
    exact ⟨rfl, Go.Joins.below_alloc2 w (.cells #[.int .i32 p.1, .int .i32 p.2] 23) (.cells #[.int .i32 q.1, .int .i32 q.2] 23)⟩
  · have HC : Hid (covB p q = (hasB p q.1 && hasB p q.2)) := by
      unfold Hid covB hasB
      rw [Bool.eq_iff_iff]
      simp only [Bool.or_eq_true, Bool.and_eq_true, decide_eq_true_eq]
      omega
    obtain ⟨b1, H1⟩ : ∃ b, Hid (hasB p q.1 = b) := ⟨_, rfl⟩
    obtain ⟨b2, H2⟩ : ∃ b, Hid (hasB p q.2 = b) := ⟨_, rfl⟩
    rw [H1.out, H2.out] at HC
    generalize covB p q = c at *
    have bb := Go.Joins.below_alloc2 w (.cells #[.int .i32 p.1, .int .i32 p.2] 23) (.cells #[.int .i32 q.1, .int .i32 q.2] 23)
    have K2 : Hid (Blk ((w.alloc (.cells #[.int .i32 p.1, .int .i32 p.2] 23)).alloc (.cells #[.int .i32 q.1, .int .i32 q.2] 23)) w.heap.size p) := (Blk.lit w p.1 p.2).old _
    have K3 : Hid (Blk ((w.alloc (.cells #[.int .i32 p.1, .int .i32 p.2] 23)).alloc (.cells #[.int .i32 q.1, .int .i32 q.2] 23)) (w.heap.size + 1) q) := by
      have := Blk.lit (w.alloc (.cells #[.int .i32 p.1, .int .i32 p.2] 23)) q.1 q.2
      unfold Hid
      simpa using this
    cases b1
    · go_enter Tryd.func15, Tryd.ntmps15
      go_wp2_with fail
      generalize (w.alloc _).alloc _ = W at *
      refine (refHas_of H1.out).mono ?_
      rintro e w1 ⟨rfl, b3⟩
      obtain ⟨c0, c1⟩ := (K2.out.next b3).cells
      obtain ⟨c2, c3⟩ := (K3.out.next b3).cells
      go_wp2
      go_ret
      exact ⟨by rw [HC.out]; rfl, bb.trans (b3.mono bb.size)⟩
    · go_enter Tryd.func15, Tryd.ntmps15
      go_wp2_with fail
      generalize (w.alloc _).alloc _ = W at *
      refine (refHas_of H1.out).mono ?_
      rintro e w1 ⟨rfl, b3⟩
      obtain ⟨c0, c1⟩ := (K2.out.next b3).cells
      obtain ⟨c2, c3⟩ := (K3.out.next b3).cells
      go_wp2_with fail
      refine (refHas_of H2.out).mono ?_
      rintro e w2 ⟨rfl, b4⟩
      go_wp2
      go_ret
      exact ⟨by rw [HC.out]; rfl, thn (bb.trans (b3.mono bb.size)) b4⟩
set_option maxHeartbeats 4000000 in
theorem refMeet_any (p q : Int × Int) (w : World) : Calls Tryd.prog 9 #[(.agg #[.int .i32 p.1, .int .i32 p.2]), (.agg #[.int .i32 q.1, .int .i32 q.2])] w fun e w' => e = .returned (.tuple #[(.agg #[.int .i32 (meetP p q).1, .int .i32 (meetP p q).2]), .bool (meetB p q)]) ∧ Below w.heap.size w w' := by
  by_cases h1 : p.2 < p.1
  · have hn : ¬ (max p.1 q.1 ≤ min p.2 q.2) := by omega
    rw [show meetB p q = false from decide_eq_false hn, show meetP p q = (0, 0) from if_neg hn]
    clear hn
    go_enter Tryd.func9, Tryd.ntmps9
    go_wp2
    exact bodyPost_ret (v := .tuple #[.agg #[.int .i32 0, .int .i32 0], .bool false]) (by simp [results, Tryd.results9, go_sem]) rfl ⟨rfl, thn (Go.Joins.below_alloc2 w (.cells #[.int .i32 p.1, .int .i32 p.2] 23) (.cells #[.int .i32 q.1, .int .i32 q.2] 23)) (below_lit _ (.cells #[.int .i32 0, .int .i32 0] 23))⟩
  by_cases h2 : q.2 < q.1
  · have hn : ¬ (max p.1 q.1 ≤ min p.2 q.2) := by omega
    rw [show meetB p q = false from decide_eq_false hn, show meetP p q = (0, 0) from if_neg hn]
    clear hn
    go_enter Tryd.func9, Tryd.ntmps9
    go_wp2
    exact bodyPost_ret (v := .tuple #[.agg #[.int .i32 0, .int .i32 0], .bool false]) (by simp [results, Tryd.results9, go_sem]) rfl ⟨rfl, thn (Go.Joins.below_alloc2 w (.cells #[.int .i32 p.1, .int .i32 p.2] 23) (.cells #[.int .i32 q.1, .int .i32 q.2] 23)) (below_lit _ (.cells #[.int .i32 0, .int .i32 0] 23))⟩
  have b3 := thn (Go.Joins.below_alloc2 w (.cells #[.int .i32 p.1, .int .i32 p.2] 23) (.cells #[.int .i32 q.1, .int .i32 q.2] 23)) (below_lit _ (.cells #[.int .i32 0, .int .i32 0] 23))
  have K2 : Hid (Blk (((w.alloc (.cells #[.int .i32 p.1, .int .i32 p.2] 23)).alloc (.cells #[.int .i32 q.1, .int .i32 q.2] 23)).alloc (.cells #[.int .i32 0, .int .i32 0] 23)) w.heap.size p) := ((Blk.lit w p.1 p.2).old _).old _
  have K3 : Hid (Blk (((w.alloc (.cells #[.int .i32 p.1, .int .i32 p.2] 23)).alloc (.cells #[.int .i32 q.1, .int .i32 q.2] 23)).alloc (.cells #[.int .i32 0, .int .i32 0] 23)) (w.heap.size + 1) q) := by
    have := (Blk.lit (w.alloc (.cells #[.int .i32 p.1, .int .i32 p.2] 23)) q.1 q.2).old (.cells #[.int .i32 0, .int .i32 0] 23)
    unfold Hid
    simpa using this
  have K4 : Hid (Blk (((w.alloc (.cells #[.int .i32 p.1, .int .i32 p.2] 23)).alloc (.cells #[.int .i32 q.1, .int .i32 q.2] 23)).alloc (.cells #[.int .i32 0, .int .i32 0] 23)) (w.heap.size + 1 + 1) (0, 0)) := by
    have := Blk.lit ((w.alloc (.cells #[.int .i32 p.1, .int .i32 p.2] 23)).alloc (.cells #[.int .i32 q.1, .int .i32 q.2] 23)) 0 0
    unfold Hid
    simpa using this
  rcases Int.lt_or_le p.1 q.1 with h3 | h3 <;> rcases Int.lt_or_le q.2 p.2 with h4 | h4
  · rcases Int.lt_or_le q.2 q.1 with h5 | h5
    · exact absurd h5 (by omega)
    · have hv : meetP p q = (q.1, q.2) ∧ meetB p q = true := by
        unfold meetP meetB
        have e1 : max p.1 q.1 = q.1 := by omega
        have e2 : min p.2 q.2 = q.2 := by omega
        rw [e1, e2]
        exact ⟨if_pos h5, decide_eq_true h5⟩
      rw [hv.1, hv.2]
      clear hv
      go_enter Tryd.func9, Tryd.ntmps9
      go_wp2
      generalize ((w.alloc _).alloc _).alloc _ = W at *
      obtain ⟨g2, g3, g4, h2', h3', h4', n23, n24, n34⟩ : ∃ g2 g3 g4, w.heap.size = g2 ∧ w.heap.size + 1 = g3 ∧ w.heap.size + 1 + 1 = g4 ∧ g2 < g3 ∧ g2 < g4 ∧ g3 < g4 := ⟨_, _, _, rfl, rfl, rfl, by omega, by omega, by omega⟩
      have Z2 : Hid (w.heap.size ≤ g4) := by unfold Hid; omega
      rw [h4', h3', h2']
      rw [h2'] at K2
      rw [h3'] at K3
      rw [h4'] at K4
      clear h2' h3' h4'
      obtain ⟨c0, c1⟩ := K2.out.cells
      obtain ⟨c2, c3⟩ := K3.out.cells
      go_quiet (fail)
      have hd : Below W.heap.size W (W.drewN nq) := dN (Below.refl _ _) nq
      have k2 := K2.out.next hd
      have k3 := K3.out.next hd
      have k4 := K4.out.next hd
      have BB := Lib.hid (b3.trans (hd.mono b3.size))
      generalize W.drewN nq = W5 at *
      clear c0 c1 c2 c3
      obtain ⟨c0, c1⟩ := k2.cells
      obtain ⟨c2, c3⟩ := k3.cells
      obtain ⟨c4, c5⟩ := k4.cells
      obtain ⟨f4, f5⟩ := k4.free
      have K5 := Lib.hid (k4.set q.1 q.2)
      have B5 := Lib.hid (below_set BB.out Z2.out (.int .i32 q.1) (.int .i32 q.2))
      clear k2 k3 k4 BB hd b3 K2 K3 K4
      go_wp2
      generalize World.setCell _ _ _ = W6 at *
      obtain ⟨d0, d1⟩ := K5.out.cells
      exact bodyPost_ret (v := .tuple #[.agg #[.int .i32 q.1, .int .i32 q.2], .bool true]) (by simp [results, Tryd.results9, go_sem, d0, d1]) rfl ⟨rfl, B5.out⟩
  · rcases Int.lt_or_le p.2 q.1 with h5 | h5
    · have hv : meetP p q = (0, 0) ∧ meetB p q = false := by
        unfold meetP meetB
        have e1 : max p.1 q.1 = q.1 := by omega
        have e2 : min p.2 q.2 = p.2 := by omega
        rw [e1, e2]
        exact ⟨if_neg (by omega), decide_eq_false (by omega)⟩
      rw [hv.1, hv.2]
      clear hv
      go_enter Tryd.func9, Tryd.ntmps9
      go_wp2
      generalize ((w.alloc _).alloc _).alloc _ = W at *
      obtain ⟨g2, g3, g4, h2', h3', h4', n23, n24, n34⟩ : ∃ g2 g3 g4, w.heap.size = g2 ∧ w.heap.size + 1 = g3 ∧ w.heap.size + 1 + 1 = g4 ∧ g2 < g3 ∧ g2 < g4 ∧ g3 < g4 := ⟨_, _, _, rfl, rfl, rfl, by omega, by omega, by omega⟩
      have Z2 : Hid (w.heap.size ≤ g4) := by unfold Hid; omega
      rw [h4', h3', h2']
      rw [h2'] at K2
      rw [h3'] at K3
      rw [h4'] at K4
      clear h2' h3' h4'
      obtain ⟨c0, c1⟩ := K2.out.cells
      obtain ⟨c2, c3⟩ := K3.out.cells
      go_quiet (fail)
      have hd : Below W.heap.size W (W.drewN nq) := dN (Below.refl _ _) nq
      have k2 := K2.out.next hd
      have k3 := K3.out.next hd
      have k4 := K4.out.next hd
      have BB := Lib.hid (b3.trans (hd.mono b3.size))
      generalize W.drewN nq = W5 at *
      clear c0 c1 c2 c3
      obtain ⟨c0, c1⟩ := k2.cells
      obtain ⟨c2, c3⟩ := k3.cells
      obtain ⟨c4, c5⟩ := k4.cells
      obtain ⟨f4, f5⟩ := k4.free
      have K5 := Lib.hid (k4.set 0 0)
      have B5 := Lib.hid (below_set BB.out Z2.out (.int .i32 0) (.int .i32 0))
      clear k2 k3 k4 BB hd b3 K2 K3 K4
      go_wp2
      generalize World.setCell _ _ _ = W6 at *
      obtain ⟨d0, d1⟩ := K5.out.cells
      exact bodyPost_ret (v := .tuple #[.agg #[.int .i32 0, .int .i32 0], .bool false]) (by simp [results, Tryd.results9, go_sem, d0, d1]) rfl ⟨rfl, B5.out⟩
    · have hv : meetP p q = (q.1, p.2) ∧ meetB p q = true := by
        unfold meetP meetB
        have e1 : max p.1 q.1 = q.1 := by omega
        have e2 : min p.2 q.2 = p.2 := by omega
        rw [e1, e2]
        exact ⟨if_pos h5, decide_eq_true h5⟩
      rw [hv.1, hv.2]
      clear hv
      go_enter Tryd.func9, Tryd.ntmps9
      go_wp2
      generalize ((w.alloc _).alloc _).alloc _ = W at *
      obtain ⟨g2, g3, g4, h2', h3', h4', n23, n24, n34⟩ : ∃ g2 g3 g4, w.heap.size = g2 ∧ w.heap.size + 1 = g3 ∧ w.heap.size + 1 + 1 = g4 ∧ g2 < g3 ∧ g2 < g4 ∧ g3 < g4 := ⟨_, _, _, rfl, rfl, rfl, by omega, by omega, by omega⟩
      have Z2 : Hid (w.heap.size ≤ g4) := by unfold Hid; omega
      rw [h4', h3', h2']
      rw [h2'] at K2
      rw [h3'] at K3
      rw [h4'] at K4
      clear h2' h3' h4'
      obtain ⟨c0, c1⟩ := K2.out.cells
      obtain ⟨c2, c3⟩ := K3.out.cells
      go_quiet (fail)
      have hd : Below W.heap.size W (W.drewN nq) := dN (Below.refl _ _) nq
      have k2 := K2.out.next hd
      have k3 := K3.out.next hd
      have k4 := K4.out.next hd
      have BB := Lib.hid (b3.trans (hd.mono b3.size))
      generalize W.drewN nq = W5 at *
      clear c0 c1 c2 c3
      obtain ⟨c0, c1⟩ := k2.cells
      obtain ⟨c2, c3⟩ := k3.cells
      obtain ⟨c4, c5⟩ := k4.cells
      obtain ⟨f4, f5⟩ := k4.free
      have K5 := Lib.hid (k4.set q.1 p.2)
      have B5 := Lib.hid (below_set BB.out Z2.out (.int .i32 q.1) (.int .i32 p.2))
      clear k2 k3 k4 BB hd b3 K2 K3 K4
      go_wp2
      generalize World.setCell _ _ _ = W6 at *
      obtain ⟨d0, d1⟩ := K5.out.cells
      exact bodyPost_ret (v := .tuple #[.agg #[.int .i32 q.1, .int .i32 p.2], .bool true]) (by simp [results, Tryd.results9, go_sem, d0, d1]) rfl ⟨rfl, B5.out⟩
  · rcases Int.lt_or_le q.2 p.1 with h5 | h5
    · have hv : meetP p q = (0, 0) ∧ meetB p q = false := by
        unfold meetP meetB
        have e1 : max p.1 q.1 = p.1 := by omega
        have e2 : min p.2 q.2 = q.2 := by omega
        rw [e1, e2]
        exact ⟨if_neg (by omega), decide_eq_false (by omega)⟩
      rw [hv.1, hv.2]
      clear hv
      go_enter Tryd.func9, Tryd.ntmps9
      go_wp2
      generalize ((w.alloc _).alloc _).alloc _ = W at *
      obtain ⟨g2, g3, g4, h2', h3', h4', n23, n24, n34⟩ : ∃ g2 g3 g4, w.heap.size = g2 ∧ w.heap.size + 1 = g3 ∧ w.heap.size + 1 + 1 = g4 ∧ g2 < g3 ∧ g2 < g4 ∧ g3 < g4 := ⟨_, _, _, rfl, rfl, rfl, by omega, by omega, by omega⟩
      have Z2 : Hid (w.heap.size ≤ g4) := by unfold Hid; omega
      rw [h4', h3', h2']
      rw [h2'] at K2
      rw [h3'] at K3
      rw [h4'] at K4
      clear h2' h3' h4'
      obtain ⟨c0, c1⟩ := K2.out.cells
      obtain ⟨c2, c3⟩ := K3.out.cells
      go_quiet (fail)
      have hd : Below W.heap.size W (W.drewN nq) := dN (Below.refl _ _) nq
      have k2 := K2.out.next hd
      have k3 := K3.out.next hd
      have k4 := K4.out.next hd
      have BB := Lib.hid (b3.trans (hd.mono b3.size))
      generalize W.drewN nq = W5 at *
      clear c0 c1 c2 c3
      obtain ⟨c0, c1⟩ := k2.cells
      obtain ⟨c2, c3⟩ := k3.cells
      obtain ⟨c4, c5⟩ := k4.cells
      obtain ⟨f4, f5⟩ := k4.free
      have K5 := Lib.hid (k4.set 0 0)
      have B5 := Lib.hid (below_set BB.out Z2.out (.int .i32 0) (.int .i32 0))
      clear k2 k3 k4 BB hd b3 K2 K3 K4
      go_wp2
      generalize World.setCell _ _ _ = W6 at *
      obtain ⟨d0, d1⟩ := K5.out.cells
      exact bodyPost_ret (v := .tuple #[.agg #[.int .i32 0, .int .i32 0], .bool false]) (by simp [results, Tryd.results9, go_sem, d0, d1]) rfl ⟨rfl, B5.out⟩
    · have hv : meetP p q = (p.1, q.2) ∧ meetB p q = true := by
        unfold meetP meetB
        have e1 : max p.1 q.1 = p.1 := by omega
        have e2 : min p.2 q.2 = q.2 := by omega
        rw [e1, e2]
        exact ⟨if_pos h5, decide_eq_true h5⟩
      rw [hv.1, hv.2]
      clear hv
      go_enter Tryd.func9, Tryd.ntmps9
      go_wp2
      generalize ((w.alloc _).alloc _).alloc _ = W at *
      obtain ⟨g2, g3, g4, h2', h3', h4', n23, n24, n34⟩ : ∃ g2 g3 g4, w.heap.size = g2 ∧ w.heap.size + 1 = g3 ∧ w.heap.size + 1 + 1 = g4 ∧ g2 < g3 ∧ g2 < g4 ∧ g3 < g4 := ⟨_, _, _, rfl, rfl, rfl, by omega, by omega, by omega⟩
      have Z2 : Hid (w.heap.size ≤ g4) := by unfold Hid; omega
      rw [h4', h3', h2']
      rw [h2'] at K2
      rw [h3'] at K3
      rw [h4'] at K4
      clear h2' h3' h4'
      obtain ⟨c0, c1⟩ := K2.out.cells
      obtain ⟨c2, c3⟩ := K3.out.cells
      go_quiet (fail)
      have hd : Below W.heap.size W (W.drewN nq) := dN (Below.refl _ _) nq
      have k2 := K2.out.next hd
      have k3 := K3.out.next hd
      have k4 := K4.out.next hd
      have BB := Lib.hid (b3.trans (hd.mono b3.size))
      generalize W.drewN nq = W5 at *
      clear c0 c1 c2 c3
      obtain ⟨c0, c1⟩ := k2.cells
      obtain ⟨c2, c3⟩ := k3.cells
      obtain ⟨c4, c5⟩ := k4.cells
      obtain ⟨f4, f5⟩ := k4.free
      have K5 := Lib.hid (k4.set p.1 q.2)
      have B5 := Lib.hid (below_set BB.out Z2.out (.int .i32 p.1) (.int .i32 q.2))
      clear k2 k3 k4 BB hd b3 K2 K3 K4
      go_wp2
      generalize World.setCell _ _ _ = W6 at *
      obtain ⟨d0, d1⟩ := K5.out.cells
      exact bodyPost_ret (v := .tuple #[.agg #[.int .i32 p.1, .int .i32 q.2], .bool true]) (by simp [results, Tryd.results9, go_sem, d0, d1]) rfl ⟨rfl, B5.out⟩
  · rcases Int.lt_or_le p.2 p.1 with h5 | h5
    · exact absurd h5 (by omega)
    · have hv : meetP p q = (p.1, p.2) ∧ meetB p q = true := by
        unfold meetP meetB
        have e1 : max p.1 q.1 = p.1 := by omega
        have e2 : min p.2 q.2 = p.2 := by omega
        rw [e1, e2]
        exact ⟨if_pos h5, decide_eq_true h5⟩
      rw [hv.1, hv.2]
      clear hv
      go_enter Tryd.func9, Tryd.ntmps9
      go_wp2
      generalize ((w.alloc _).alloc _).alloc _ = W at *
      obtain ⟨g2, g3, g4, h2', h3', h4', n23, n24, n34⟩ : ∃ g2 g3 g4, w.heap.size = g2 ∧ w.heap.size + 1 = g3 ∧ w.heap.size + 1 + 1 = g4 ∧ g2 < g3 ∧ g2 < g4 ∧ g3 < g4 := ⟨_, _, _, rfl, rfl, rfl, by omega, by omega, by omega⟩
      have Z2 : Hid (w.heap.size ≤ g4) := by unfold Hid; omega
      rw [h4', h3', h2']
      rw [h2'] at K2
      rw [h3'] at K3
      rw [h4'] at K4
      clear h2' h3' h4'
      obtain ⟨c0, c1⟩ := K2.out.cells
      obtain ⟨c2, c3⟩ := K3.out.cells
      go_quiet (fail)
      have hd : Below W.heap.size W (W.drewN nq) := dN (Below.refl _ _) nq
      have k2 := K2.out.next hd
      have k3 := K3.out.next hd
      have k4 := K4.out.next hd
      have BB := Lib.hid (b3.trans (hd.mono b3.size))
      generalize W.drewN nq = W5 at *
      clear c0 c1 c2 c3
      obtain ⟨c0, c1⟩ := k2.cells
      obtain ⟨c2, c3⟩ := k3.cells
      obtain ⟨c4, c5⟩ := k4.cells
      obtain ⟨f4, f5⟩ := k4.free
      have K5 := Lib.hid (k4.set p.1 p.2)
      have B5 := Lib.hid (below_set BB.out Z2.out (.int .i32 p.1) (.int .i32 p.2))
      clear k2 k3 k4 BB hd b3 K2 K3 K4
      go_wp2
      generalize World.setCell _ _ _ = W6 at *
      obtain ⟨d0, d1⟩ := K5.out.cells
      exact bodyPost_ret (v := .tuple #[.agg #[.int .i32 p.1, .int .i32 p.2], .bool true]) (by simp [results, Tryd.results9, go_sem, d0, d1]) rfl ⟨rfl, B5.out⟩
end Go.Proofs.YtofphdodihbijaaDoor
