/- Spans for the layers behind 4: the references of Has, Meet, Covers. -/
import Derived.Test.YtmajempbncllgaaDoorFp
namespace Go.Proofs.YtmajempbncllgaaDoor
open Go.RowKit
set_option linter.unusedVariables false
set_option maxHeartbeats 4000000 in
theorem refMeet_any (p q : Int × Int) (w : World) : Calls Tryd.prog 40 #[(.agg #[.int .i32 p.1, .int .i32 p.2]), (.agg #[.int .i32 q.1, .int .i32 q.2])] w fun e w' => e = .returned (.tuple #[(.agg #[.int .i32 (meetP p q).1, .int .i32 (meetP p q).2]), .bool (meetB p q)]) ∧ Below w.heap.size w w' := by
  by_cases h1 : p.2 < p.1
  · have hn : ¬ (max p.1 q.1 ≤ min p.2 q.2) := by omega
    rw [show meetB p q = false from decide_eq_false hn, show meetP p q = (0, 0) from if_neg hn]
    clear hn
    go_enter Tryd.func40, Tryd.ntmps40
    go_wp2
    exact bodyPost_ret (v := .tuple #[.agg #[.int .i32 0, .int .i32 0], .bool false]) (by simp [results, Tryd.results40, go_sem]) rfl ⟨rfl, thn (Go.Joins.below_alloc2 w (.cells #[.int .i32 p.1, .int .i32 p.2] 36) (.cells #[.int .i32 q.1, .int .i32 q.2] 36)) (below_lit _ (.cells #[.int .i32 0, .int .i32 0] 36))⟩
  by_cases h2 : q.2 < q.1
  · have hn : ¬ (max p.1 q.1 ≤ min p.2 q.2) := by omega
    rw [show meetB p q = false from decide_eq_false hn, show meetP p q = (0, 0) from if_neg hn]
    clear hn
    go_enter Tryd.func40, Tryd.ntmps40
    go_wp2
    exact bodyPost_ret (v := .tuple #[.agg #[.int .i32 0, .int .i32 0], .bool false]) (by simp [results, Tryd.results40, go_sem]) rfl ⟨rfl, thn (Go.Joins.below_alloc2 w (.cells #[.int .i32 p.1, .int .i32 p.2] 36) (.cells #[.int .i32 q.1, .int .i32 q.2] 36)) (below_lit _ (.cells #[.int .i32 0, .int .i32 0] 36))⟩
  have b3 := thn (Go.Joins.below_alloc2 w (.cells #[.int .i32 p.1, .int .i32 p.2] 36) (.cells #[.int .i32 q.1, .int .i32 q.2] 36)) (below_lit _ (.cells #[.int .i32 0, .int .i32 0] 36))
  have K2 : Hid (Blk (((w.alloc (.cells #[.int .i32 p.1, .int .i32 p.2] 36)).alloc (.cells #[.int .i32 q.1, .int .i32 q.2] 36)).alloc (.cells #[.int .i32 0, .int .i32 0] 36)) w.heap.size p) := ((Blk.lit w p.1 p.2).old _).old _
  have K3 : Hid (Blk (((w.alloc (.cells #[.int .i32 p.1, .int .i32 p.2] 36)).alloc (.cells #[.int .i32 q.1, .int .i32 q.2] 36)).alloc (.cells #[.int .i32 0, .int .i32 0] 36)) (w.heap.size + 1) q) := by
    have := (Blk.lit (w.alloc (.cells #[.int .i32 p.1, .int .i32 p.2] 36)) q.1 q.2).old (.cells #[.int .i32 0, .int .i32 0] 36)
    unfold Hid
    simpa using this
  have K4 : Hid (Blk (((w.alloc (.cells #[.int .i32 p.1, .int .i32 p.2] 36)).alloc (.cells #[.int .i32 q.1, .int .i32 q.2] 36)).alloc (.cells #[.int .i32 0, .int .i32 0] 36)) (w.heap.size + 1 + 1) (0, 0)) := by
    have := Blk.lit ((w.alloc (.cells #[.int .i32 p.1, .int .i32 p.2] 36)).alloc (.cells #[.int .i32 q.1, .int .i32 q.2] 36)) 0 0
    unfold Hid
    simpa using this
  rcases Int.lt_or_le p.1 q.1 with h3 | h3 <;> rcases Int.lt_or_le q.2 p.2 with h4 | h4
  · rcases Int.lt_or_le q.2 q.1 with h5 | h5
    · exact absurd h5 (by omega)
    · have hv : meetP p q = (q.1, q.2) ∧ meetB p q = true := by
        unfold meetP meetB
        have e1 : max p.1 q.1 = q.1 := by omega
        have e2 : min p.2 q.2 = q.2 := by omega
        rw [e1, e2]
        exact ⟨if_pos h5, decide_eq_true h5⟩
      rw [hv.1, hv.2]
      clear hv
      go_enter Tryd.func40, Tryd.ntmps40
      go_wp2
      generalize ((w.alloc _).alloc _).alloc _ = W at *
      obtain ⟨g2, g3, g4, h2', h3', h4', n23, n24, n34⟩ : ∃ g2 g3 g4, w.heap.size = g2 ∧ w.heap.size + 1 = g3 ∧ w.heap.size + 1 + 1 = g4 ∧ g2 < g3 ∧ g2 < g4 ∧ g3 < g4 := ⟨_, _, _, rfl, rfl, rfl, by omega, by omega, by omega⟩
      have Z2 : Hid (w.heap.size ≤ g4) := by unfold Hid; omega
      rw [h4', h3', h2']
      rw [h2'] at K2
      rw [h3'] at K3
      rw [h4'] at K4
      clear h2' h3' h4'
      obtain ⟨c0, c1⟩ := K2.out.cells
      obtain ⟨c2, c3⟩ := K3.out.cells
      go_quiet (fail)
      have hd : Below W.heap.size W (W.drewN nq) := dN (Below.refl _ _) nq
      have k2 := K2.out.next hd
      have k3 := K3.out.next hd
      have k4 := K4.out.next hd
      have BB := Lib.hid (b3.trans (hd.mono b3.size))
      generalize W.drewN nq = W5 at *
      clear c0 c1 c2 c3
      obtain ⟨c0, c1⟩ := k2.cells
      obtain ⟨c2, c3⟩ := k3.cells
      obtain ⟨c4, c5⟩ := k4.cells
      obtain ⟨f4, f5⟩ := k4.free
      have K5 := Lib.hid (k4.set q.1 q.2)
      have B5 := Lib.hid (below_set BB.out Z2.out (.int .i32 q.1) (.int .i32 q.2))
      clear k2 k3 k4 BB hd b3 K2 K3 K4
      go_wp2
      generalize World.setCell _ _ _ = W6 at *
      obtain ⟨d0, d1⟩ := K5.out.cells
      exact bodyPost_ret (v := .tuple #[.agg #[.int .i32 q.1, .int .i32 q.2], .bool true]) (by simp [results, Tryd.results40, go_sem, d0, d1]) rfl ⟨rfl, B5.out⟩
  · rcases Int.lt_or_le p.2 q.1 with h5 | h5
    · have hv : meetP p q = (0, 0) ∧ meetB p q = false := by
        unfold meetP meetB
        have e1 : max p.1 q.1 = q.1 := by omega
        have e2 : min p.2 q.2 = p.2 := by omega
        rw [e1, e2]
        exact ⟨if_neg (by omega), decide_eq_false (by omega)⟩
      rw [hv.1, hv.2]
      clear hv
      go_enter Tryd.func40, Tryd.ntmps40
      go_wp2
      generalize ((w.alloc _).alloc _).alloc _ = W at *
      obtain ⟨g2, g3, g4, h2', h3', h4', n23, n24, n34⟩ : ∃ g2 g3 g4, w.heap.size = g2 ∧ w.heap.size + 1 = g3 ∧ w.heap.size + 1 + 1 = g4 ∧ g2 < g3 ∧ g2 < g4 ∧ g3 < g4 := ⟨_, _, _, rfl, rfl, rfl, by omega, by omega, by omega⟩
      have Z2 : Hid (w.heap.size ≤ g4) := by unfold Hid; omega
      rw [h4', h3', h2']
      rw [h2'] at K2
      rw [h3'] at K3
      rw [h4'] at K4
      clear h2' h3' h4'
      obtain ⟨c0, c1⟩ := K2.out.cells
      obtain ⟨c2, c3⟩ := K3.out.cells
      go_quiet (fail)
      have hd : Below W.heap.size W (W.drewN nq) := dN (Below.refl _ _) nq
      have k2 := K2.out.next hd
      have k3 := K3.out.next hd
      have k4 := K4.out.next hd
      have BB := Lib.hid (b3.trans (hd.mono b3.size))
      generalize W.drewN nq = W5 at *
      clear c0 c1 c2 c3
      obtain ⟨c0, c1⟩ := k2.cells
      obtain ⟨c2, c3⟩ := k3.cells
      obtain ⟨c4, c5⟩ := k4.cells
      obtain ⟨f4, f5⟩ := k4.free
      have K5 := Lib.hid (k4.set 0 0)
      have B5 := Lib.hid (below_set BB.out Z2.out (.int .i32 0) (.int .i32 0))
      clear k2 k3 k4 BB hd b3 K2 K3 K4
      go_wp2
      generalize World.setCell _ _ _ = W6 at *
      obtain ⟨d0, d1⟩ := K5.out.cells
      exact bodyPost_ret (v := .tuple #[.agg #[.int .i32 0, .int .i32 0], .bool false]) (by simp [results, Tryd.results40, go_sem, d0, d1]) rfl ⟨rfl, B5.out⟩
    · have hv : meetP p q = (q.1, p.2) ∧ meetB p q = true := by
        unfold meetP meetB
        have e1 : max p.1 q.1 = q.1 := by omega
        have e2 : min p.2 q.2 = p.2 := by omega
        rw [e1, e2]
        exact ⟨if_pos h5, decide_eq_true h5⟩
      rw [hv.1, hv.2]
      clear hv
      go_enter Tryd.func40, Tryd.ntmps40
      go_wp2
      generalize ((w.alloc _).alloc _).alloc _ = W at *
      obtain ⟨g2, g3, g4, h2', h3', h4', n23, n24, n34⟩ : ∃ g2 g3 g4, w.heap.size = g2 ∧ w.heap.size + 1 = g3 ∧ w.heap.size + 1 + 1 = g4 ∧ g2 < g3 ∧ g2 < g4 ∧ g3 < g4 := ⟨_, _, _, rfl, rfl, rfl, by omega, by omega, by omega⟩
      have Z2 : Hid (w.heap.size ≤ g4) := by unfold Hid; omega
      rw [h4', h3', h2']
      rw [h2'] at K2
      rw [h3'] at K3
      rw [h4'] at K4
      clear h2' h3' h4'
      obtain ⟨c0, c1⟩ := K2.out.cells
      obtain ⟨c2, c3⟩ := K3.out.cells
      go_quiet (fail)
      have hd : Below W.heap.size W (W.drewN nq) := dN (Below.refl _ _) nq
      have k2 := K2.out.next hd
      have k3 := K3.out.next hd
      have k4 := K4.out.next hd
      have BB := Lib.hid (b3.trans (hd.mono b3.size))
      generalize W.drewN nq = W5 at *
      clear c0 c1 c2 c3
      obtain ⟨c0, c1⟩ := k2.cells
      obtain ⟨c2, c3⟩ := k3.cells
      obtain ⟨c4, c5⟩ := k4.cells
      obtain ⟨f4, f5⟩ := k4.free
      have K5 := Lib.hid (k4.set q.1 p.2)
      have B5 := Lib.hid (below_set BB.out Z2.out (.int .i32 q.1) (.int .i32 p.2))
      clear k2 k3 k4 BB hd b3 K2 K3 K4
      go_wp2
      generalize World.setCell _ _ _ = W6 at *
      obtain ⟨d0, d1⟩ := K5.out.cells
      exact bodyPost_ret (v := .tuple #[.agg #[.int .i32 q.1, .int .i32 p.2], .bool true]) (by simp [results, Tryd.results40, go_sem, d0, d1]) rfl ⟨rfl, B5.out⟩
  · rcases Int.lt_or_le q.2 p.1 with h5 | h5
    · have hv : meetP p q = (0, 0) ∧ meetB p q = false := by
        unfold meetP meetB
        have e1 : max p.1 q.1 = p.1 := by omega
        have e2 : min p.2 q.2 = q.2 := by omega
        rw [e1, e2]
        exact ⟨if_neg (by omega), decide_eq_false (by omega)⟩
      rw [hv.1, hv.2]
      clear hv
      go_enter Tryd.func40, Tryd.ntmps40
      go_wp2
      generalize ((w.alloc _).alloc _).alloc _ = W at *
      obtain ⟨g2, g3, g4, h2', h3', h4', n23, n24, n34⟩ : ∃ g2 g3 g4, w.heap.size = g2 ∧ w.heap.size + 1 = g3 ∧ w.heap.size + 1 + 1 = g4 ∧ g2 < g3 ∧ g2 < g4 ∧ g3 < g4 := ⟨_, _, _, rfl, rfl, rfl, by omega, by omega, by omega⟩
      have Z2 : Hid (w.heap.size ≤ g4) := by unfold Hid; omega
      rw [h4', h3', h2']
      rw [h2'] at K2
      rw [h3'] at K3
      rw [h4'] at K4
      clear h2' h3' h4'
      obtain ⟨c0, c1⟩ := K2.out.cells
      obtain ⟨c2, c3⟩ := K3.out.cells
      go_quiet (fail)
      have hd : Below W.heap.size W (W.drewN nq) := dN (Below.refl _ _) nq
      have k2 := K2.out.next hd
      have k3 := K3.out.next hd
      have k4 := K4.out.next hd
      have BB := Lib.hid (b3.trans (hd.mono b3.size))
      generalize W.drewN nq = W5 at *
      clear c0 c1 c2 c3
      obtain ⟨c0, c1⟩ := k2.cells
      obtain ⟨c2, c3⟩ := k3.cells
      obtain ⟨c4, c5⟩ := k4.cells
      obtain ⟨f4, f5⟩ := k4.free
      have K5 := Lib.hid (k4.set 0 0)
      have B5 := Lib.hid (below_set BB.out Z2.out (.int .i32 0) (.int .i32 0))
      clear k2 k3 k4 BB hd b3 K2 K3 K4
      go_wp2
      generalize World.setCell _ _ _ = W6 at *
      obtain ⟨d0, d1⟩ := K5.out.cells
      exact bodyPost_ret (v := .tuple #[.agg #[.int .i32 0, .int .i32 0], .bool false]) (by simp [results, Tryd.results40, go_sem, d0, d1]) rfl ⟨rfl, B5.out⟩
    · have hv : meetP p q = (p.1, q.2) ∧ meetB p q = true := by
        unfold meetP meetB
        have e1 : max p.1 q.1 = p.1 := by omega
        have e2 : min p.2 q.2 = q.2 := by omega
        rw [e1, e2]
        exact ⟨if_pos h5, decide_eq_true h5⟩
      rw [hv.1, hv.2]
      clear hv
      go_enter Tryd.func40, Tryd.ntmps40
      go_wp2
      generalize ((w.alloc _).alloc _).alloc _ = W at *
      obtain ⟨g2, g3, g4, h2', h3', h4', n23, n24, n34⟩ : ∃ g2 g3 g4, w.heap.size = g2 ∧ w.heap.size + 1 = g3 ∧ w.heap.size + 1 + 1 = g4 ∧ g2 < g3 ∧ g2 < g4 ∧ g3 < g4 := ⟨_, _, _, rfl, rfl, rfl, by omega, by omega, by omega⟩
      have Z2 : Hid (w.heap.size ≤ g4) := by unfold Hid; omega
      rw [h4', h3', h2']
      rw [h2'] at K2
      rw [h3'] at K3
      rw [h4'] at K4
      clear h2' h3' h4'
      obtain ⟨c0, c1⟩ := K2.out.cells
      obtain ⟨c2, c3⟩ := K3.out.cells
      go_quiet (fail)
      have hd : Below W.heap.size W (W.drewN nq) := dN (Below.refl _ _) nq
      have k2 := K2.out.next hd
      have k3 := K3.out.next hd
      have k4 := K4.out.next hd
      have BB := Lib.hid (b3.trans (hd.mono b3.size))
      generalize W.drewN nq = W5 at *
      clear c0 c1 c2 c3
      obtain ⟨c0, c1⟩ := k2.cells
      obtain ⟨c2, c3⟩ := k3.cells
      obtain ⟨c4, c5⟩ := k4.cells
      obtain ⟨f4, f5⟩ := k4.free
      have K5 := Lib.hid (k4.set p.1 q.2)
      have B5 := Lib.hid (below_set BB.out Z2.out (.int .i32 p.1) (.int .i32 q.2))
      clear k2 k3 k4 BB hd b3 K2 K3 K4
      go_wp2
      generalize World.setCell _ _ _ = W6 at *
      obtain ⟨d0, d1⟩ := K5.out.cells
      exact bodyPost_ret (v := .tuple #[.agg #[.int .i32 p.1, .int .i32 q.2], .bool true]) (by simp [results, Tryd.results40, go_sem, d0, d1]) rfl ⟨rfl, B5.out⟩
  · rcases Int.lt_or_le p.2 p.1 with h5 | h5
    · exact absurd h5 (by omega)
    · have hv : meetP p q = (p.1, p.2) ∧ meetB p q = true := by
        unfold meetP meetB
        have e1 : max p.1 q.1 = p.1 := by omega
        have e2 : min p.2 q.2 = p.2 := by omega
        rw [e1, e2]
        exact ⟨if_pos h5, decide_eq_true h5⟩
      rw [hv.1, hv.2]
      clear hv
      go_enter Tryd.func40, Tryd.ntmps40
      go_wp2
      generalize ((w.alloc _).alloc _).alloc _ = W at *
      obtain ⟨g2, g3, g4, h2', h3', h4', n23, n24, n34⟩ : ∃ g2 g3 g4, w.heap.size = g2 ∧ w.heap.size + 1 = g3 ∧ w.heap.size + 1 + 1 = g4 ∧ g2 < g3 ∧ g2 < g4 ∧ g3 < g4 := ⟨_, _, _, rfl, rfl, rfl, by omega, by omega, by omega⟩
      have Z2 : Hid (w.heap.size ≤ g4) := by unfold Hid; omega
      rw [h4', h3', h2']
      rw [h2'] at K2
      rw [h3'] at K3
      rw [h4'] at K4
      clear h2' h3' h4'
      obtain ⟨c0, c1⟩ := K2.out.cells
      obtain ⟨c2, c3⟩ := K3.out.cells
      go_quiet (fail)
      have hd : Below W.heap.size W (W.drewN nq) := dN (Below.refl _ _) nq
      have k2 := K2.out.next hd
      have k3 := K3.out.next hd
      have k4 := K4.out.next hd
      have BB := Lib.hid (b3.trans (hd.mono b3.size))
      generalize W.drewN nq = W5 at *
      clear c0 c1 c2 c3
      obtain ⟨c0, c1⟩ := k2.cells
      obtain ⟨c2, c3⟩ := k3.cells
      obtain ⟨c4, c5⟩ := k4.cells
      obtain ⟨f4, f5⟩ := k4.free
      have K5 := Lib.hid (k4.set p.1 p.2)
      have B5 := Lib.hid (below_set BB.out Z2.out (.int .i32 p.1) (.int .i32 p.2))
      clear k2 k3 k4 BB hd b3 K2 K3 K4
      go_wp2
      generalize World.setCell _ _ _ = W6 at *
      obtain ⟨d0, d1⟩ := K5.out.cells
      exact bodyPost_ret (v := .tuple #[.agg #[.int .i32 p.1, .int .i32 p.2], .bool true]) (by simp [results, Tryd.results40, go_sem, d0, d1]) rfl ⟨rfl, B5.out⟩
theorem refMeet_of {p q r : Int × Int} {m : Bool} {w : World} (h : meetP p q = r) (hm : meetB p q = m) : Calls Tryd.prog 40 #[(.agg #[.int .i32 p.1, .int .i32 p.2]), (.agg #[.int .i32 q.1, .int .i32 q.2])] w fun e w' => e = .returned (.tuple #[(.agg #[.int .i32 r.1, .int .i32 r.2]), .bool m]) ∧ Below w.heap.size w w' := by
  subst h hm; exact refMeet_any p q w
end Go.Proofs.YtmajempbncllgaaDoor
