/- Layer 4: spans: the reference of Hull. -/
import Derived.Test.YtofphdodihbijaaDoorSp3
namespace Go.Proofs.YtofphdodihbijaaDoor
open Go.RowKit
set_option linter.unusedVariables false
set_option maxHeartbeats 4000000 in
theorem refHull_any (p q : Int × Int) (w : World) : Calls Tryd.prog 17 #[(.agg #[.int .i32 p.1, .int .i32 p.2]), (.agg #[.int .i32 q.1, .int .i32 q.2])] w fun e w' => e = .returned (.agg #[.int .i32 (hullP p q).1, .int .i32 (hullP p q).2]) ∧ Below w.heap.size w w' := by
  have b3 := thn (Go.Joins.below_alloc2 w (.cells #[.int .i32 p.1, .int .i32 p.2] 23) (.cells #[.int .i32 q.1, .int .i32 q.2] 23)) (below_lit _ (.cells #[.int .i32 0, .int .i32 0] 23))
  have K2 : Hid (Blk (((w.alloc (.cells #[.int .i32 p.1, .int .i32 p.2] 23)).alloc (.cells #[.int .i32 q.1, .int .i32 q.2] 23)).alloc (.cells #[.int .i32 0, .int .i32 0] 23)) w.heap.size p) := ((Blk.lit w p.1 p.2).old _).old _
  have K3 : Hid (Blk (((w.alloc (.cells #[.int .i32 p.1, .int .i32 p.2] 23)).alloc (.cells #[.int .i32 q.1, .int .i32 q.2] 23)).alloc (.cells #[.int .i32 0, .int .i32 0] 23)) (w.heap.size + 1) q) := by
    have := (Blk.lit (w.alloc (.cells #[.int .i32 p.1, .int .i32 p.2] 23)) q.1 q.2).old (.cells #[.int .i32 0, .int .i32 0] 23)
    unfold Hid
    simpa using this
  have K4 : Hid (Blk (((w.alloc (.cells #[.int .i32 p.1, .int .i32 p.2] 23)).alloc (.cells #[.int .i32 q.1, .int .i32 q.2] 23)).alloc (.cells #[.int .i32 0, .int .i32 0] 23)) (w.heap.size + 1 + 1) (0, 0)) := by
    have := Blk.lit ((w.alloc (.cells #[.int .i32 p.1, .int .i32 p.2] 23)).alloc (.cells #[.int .i32 q.1, .int .i32 q.2] 23)) 0 0
    unfold Hid
    simpa using this
  rcases Int.lt_or_le p.2 p.1 with h1 | h1 <;> rcases Int.lt_or_le q.2 q.1 with h2 | h2
  · have hv : hullP p q = (0, 0) := by
      unfold hullP
      rw [if_pos h1, if_pos h2]
    rw [hv]
    clear hv
    go_enter Tryd.func17, Tryd.ntmps17
    go_wp2
    generalize ((w.alloc _).alloc _).alloc _ = W at *
    obtain ⟨g2, g3, g4, h2', h3', h4', n23, n24, n34⟩ : ∃ g2 g3 g4, w.heap.size = g2 ∧ w.heap.size + 1 = g3 ∧ w.heap.size + 1 + 1 = g4 ∧ g2 < g3 ∧ g2 < g4 ∧ g3 < g4 := ⟨_, _, _, rfl, rfl, rfl, by omega, by omega, by omega⟩
    have Z2 : Hid (w.heap.size ≤ g2) := by unfold Hid; omega
    rw [h4', h3', h2']
    rw [h2'] at K2
    rw [h3'] at K3
    rw [h4'] at K4
    clear h2' h3' h4'
    obtain ⟨c0, c1⟩ := K2.out.cells
    obtain ⟨c2, c3⟩ := K3.out.cells
    go_quiet (fail)
    have hd : Below W.heap.size W (W.drewN nq) := dN (Below.refl _ _) nq
    have k2 := K2.out.next hd
    have k3 := K3.out.next hd
    have k4 := K4.out.next hd
    have BB := Lib.hid (b3.trans (hd.mono b3.size))
    generalize W.drewN nq = W5 at *
    have dx : decide (p.1 ≤ p.2) = false := decide_eq_false (by omega)
    have dy : decide (q.1 ≤ q.2) = false := decide_eq_false (by omega)
    simp only [dx, dy]
    clear dx dy
    clear c0 c1 c2 c3
    obtain ⟨c0, c1⟩ := k2.cells
    obtain ⟨f0, f1⟩ := k2.free
    obtain ⟨c2, c3⟩ := k3.cells
    obtain ⟨c4, c5⟩ := k4.cells
    obtain ⟨f4, f5⟩ := k4.free
    have x1 : g2 ≠ g3 := by omega
    have x2 : g3 ≠ g2 := by omega
    have x3 : g2 ≠ g4 := by omega
    have x4 : g4 ≠ g2 := by omega
    have x5 : g3 ≠ g4 := by omega
    have x6 : g4 ≠ g3 := by omega
    have K5 := Lib.hid (k4.set 0 0)
    have B5 := Lib.hid (below_set BB.out (show w.heap.size ≤ g4 by have := Z2.out; omega) (.int .i32 0) (.int .i32 0))
    clear k2 k3 k4 BB hd b3 K2 K3 K4
    go_wp2
    generalize World.setCell _ _ _ = W6 at *
    obtain ⟨d0, d1⟩ := K5.out.cells
    exact bodyPost_ret (v := .agg #[.int .i32 0, .int .i32 0]) (by simp [results, Tryd.results17, go_sem, d0, d1]) rfl ⟨rfl, B5.out⟩
  · have hv : hullP p q = q := by
      unfold hullP
      rw [if_pos h1, if_neg (by omega)]
    rw [hv]
    clear hv
    go_enter Tryd.func17, Tryd.ntmps17
    go_wp2
    generalize ((w.alloc _).alloc _).alloc _ = W at *
    obtain ⟨g2, g3, g4, h2', h3', h4', n23, n24, n34⟩ : ∃ g2 g3 g4, w.heap.size = g2 ∧ w.heap.size + 1 = g3 ∧ w.heap.size + 1 + 1 = g4 ∧ g2 < g3 ∧ g2 < g4 ∧ g3 < g4 := ⟨_, _, _, rfl, rfl, rfl, by omega, by omega, by omega⟩
    have Z2 : Hid (w.heap.size ≤ g2) := by unfold Hid; omega
    rw [h4', h3', h2']
    rw [h2'] at K2
    rw [h3'] at K3
    rw [h4'] at K4
    clear h2' h3' h4'
    obtain ⟨c0, c1⟩ := K2.out.cells
    obtain ⟨c2, c3⟩ := K3.out.cells
    go_quiet (fail)
    have hd : Below W.heap.size W (W.drewN nq) := dN (Below.refl _ _) nq
    have k2 := K2.out.next hd
    have k3 := K3.out.next hd
    have k4 := K4.out.next hd
    have BB := Lib.hid (b3.trans (hd.mono b3.size))
    generalize W.drewN nq = W5 at *
    have dx : decide (p.1 ≤ p.2) = false := decide_eq_false (by omega)
    have dy : decide (q.1 ≤ q.2) = true := decide_eq_true (by omega)
    simp only [dx]
    clear dx dy
    clear c0 c1 c2 c3
    obtain ⟨c0, c1⟩ := k2.cells
    obtain ⟨f0, f1⟩ := k2.free
    obtain ⟨c2, c3⟩ := k3.cells
    obtain ⟨c4, c5⟩ := k4.cells
    obtain ⟨f4, f5⟩ := k4.free
    have x1 : g2 ≠ g3 := by omega
    have x2 : g3 ≠ g2 := by omega
    have x3 : g2 ≠ g4 := by omega
    have x4 : g4 ≠ g2 := by omega
    have x5 : g3 ≠ g4 := by omega
    have x6 : g4 ≠ g3 := by omega
    have K5 := Lib.hid (k4.set q.1 q.2)
    have B5 := Lib.hid (below_set BB.out (show w.heap.size ≤ g4 by have := Z2.out; omega) (.int .i32 q.1) (.int .i32 q.2))
    clear k2 k3 k4 BB hd b3 K2 K3 K4
    go_wp2
    generalize World.setCell _ _ _ = W6 at *
    obtain ⟨d0, d1⟩ := K5.out.cells
    exact bodyPost_ret (v := .agg #[.int .i32 q.1, .int .i32 q.2]) (by simp [results, Tryd.results17, go_sem, d0, d1]) rfl ⟨rfl, B5.out⟩
  · have hv : hullP p q = p := by
      unfold hullP
      rw [if_neg (by omega), if_pos h2]
    rw [hv]
    clear hv
    go_enter Tryd.func17, Tryd.ntmps17
    go_wp2
    generalize ((w.alloc _).alloc _).alloc _ = W at *
    obtain ⟨g2, g3, g4, h2', h3', h4', n23, n24, n34⟩ : ∃ g2 g3 g4, w.heap.size = g2 ∧ w.heap.size + 1 = g3 ∧ w.heap.size + 1 + 1 = g4 ∧ g2 < g3 ∧ g2 < g4 ∧ g3 < g4 := ⟨_, _, _, rfl, rfl, rfl, by omega, by omega, by omega⟩
    have Z2 : Hid (w.heap.size ≤ g2) := by unfold Hid; omega
    rw [h4', h3', h2']
    rw [h2'] at K2
    rw [h3'] at K3
    rw [h4'] at K4
    clear h2' h3' h4'
    obtain ⟨c0, c1⟩ := K2.out.cells
    obtain ⟨c2, c3⟩ := K3.out.cells
    go_quiet (fail)
    have hd : Below W.heap.size W (W.drewN nq) := dN (Below.refl _ _) nq
    have k2 := K2.out.next hd
    have k3 := K3.out.next hd
    have k4 := K4.out.next hd
    have BB := Lib.hid (b3.trans (hd.mono b3.size))
    generalize W.drewN nq = W5 at *
    have dx : decide (p.1 ≤ p.2) = true := decide_eq_true (by omega)
    have dy : decide (q.1 ≤ q.2) = false := decide_eq_false (by omega)
    simp only [dy]
    clear dx dy
    clear c0 c1 c2 c3
    obtain ⟨c0, c1⟩ := k2.cells
    obtain ⟨f0, f1⟩ := k2.free
    obtain ⟨c2, c3⟩ := k3.cells
    obtain ⟨c4, c5⟩ := k4.cells
    obtain ⟨f4, f5⟩ := k4.free
    have x1 : g2 ≠ g3 := by omega
    have x2 : g3 ≠ g2 := by omega
    have x3 : g2 ≠ g4 := by omega
    have x4 : g4 ≠ g2 := by omega
    have x5 : g3 ≠ g4 := by omega
    have x6 : g4 ≠ g3 := by omega
    have K5 := Lib.hid (k4.set p.1 p.2)
    have B5 := Lib.hid (below_set BB.out (show w.heap.size ≤ g4 by have := Z2.out; omega) (.int .i32 p.1) (.int .i32 p.2))
    clear k2 k3 k4 BB hd b3 K2 K3 K4
    go_wp2
    generalize World.setCell _ _ _ = W6 at *
    obtain ⟨d0, d1⟩ := K5.out.cells
    exact bodyPost_ret (v := .agg #[.int .i32 p.1, .int .i32 p.2]) (by simp [results, Tryd.results17, go_sem, d0, d1]) rfl ⟨rfl, B5.out⟩
  · rcases Int.lt_or_le q.1 p.1 with h3 | h3 <;> rcases Int.lt_or_le p.2 q.2 with h4 | h4
    · have hv : hullP p q = (q.1, q.2) := by
        unfold hullP
        rw [if_neg (by omega), if_neg (by omega), Prod.mk.injEq]; exact ⟨by omega, by omega⟩
      rw [hv]
      clear hv
      go_enter Tryd.func17, Tryd.ntmps17
      go_wp2
      generalize ((w.alloc _).alloc _).alloc _ = W at *
      obtain ⟨g2, g3, g4, h2', h3', h4', n23, n24, n34⟩ : ∃ g2 g3 g4, w.heap.size = g2 ∧ w.heap.size + 1 = g3 ∧ w.heap.size + 1 + 1 = g4 ∧ g2 < g3 ∧ g2 < g4 ∧ g3 < g4 := ⟨_, _, _, rfl, rfl, rfl, by omega, by omega, by omega⟩
      have Z2 : Hid (w.heap.size ≤ g2) := by unfold Hid; omega
      rw [h4', h3', h2']
      rw [h2'] at K2
      rw [h3'] at K3
      rw [h4'] at K4
      clear h2' h3' h4'
      obtain ⟨c0, c1⟩ := K2.out.cells
      obtain ⟨c2, c3⟩ := K3.out.cells
      go_quiet (fail)
      have hd : Below W.heap.size W (W.drewN nq) := dN (Below.refl _ _) nq
      have k2 := K2.out.next hd
      have k3 := K3.out.next hd
      have k4 := K4.out.next hd
      have BB := Lib.hid (b3.trans (hd.mono b3.size))
      generalize W.drewN nq = W5 at *
      have dx : decide (p.1 ≤ p.2) = true := decide_eq_true (by omega)
      have dy : decide (q.1 ≤ q.2) = true := decide_eq_true (by omega)
      skip
      clear dx dy
      clear c0 c1 c2 c3
      obtain ⟨c0, c1⟩ := k2.cells
      obtain ⟨f0, f1⟩ := k2.free
      obtain ⟨c2, c3⟩ := k3.cells
      obtain ⟨c4, c5⟩ := k4.cells
      obtain ⟨f4, f5⟩ := k4.free
      have x1 : g2 ≠ g3 := by omega
      have x2 : g3 ≠ g2 := by omega
      have x3 : g2 ≠ g4 := by omega
      have x4 : g4 ≠ g2 := by omega
      have x5 : g3 ≠ g4 := by omega
      have x6 : g4 ≠ g3 := by omega
      have K5 := Lib.hid (((k4.off x4 0 (.int .i32 q.1)).off x4 1 (.int .i32 q.2)).set q.1 q.2)
      have B5 := Lib.hid (below_set (Below.setCell (p := ⟨g2, 1, none⟩) (Below.setCell (p := ⟨g2, 0, none⟩) BB.out Z2.out (.int .i32 q.1)) Z2.out (.int .i32 q.2)) (show w.heap.size ≤ g4 by have := Z2.out; omega) (.int .i32 q.1) (.int .i32 q.2))
      clear k2 k3 k4 BB hd b3 K2 K3 K4
      go_wp2
      generalize World.setCell _ _ _ = W6 at *
      obtain ⟨d0, d1⟩ := K5.out.cells
      exact bodyPost_ret (v := .agg #[.int .i32 q.1, .int .i32 q.2]) (by simp [results, Tryd.results17, go_sem, d0, d1]) rfl ⟨rfl, B5.out⟩
    · have hv : hullP p q = (q.1, p.2) := by
        unfold hullP
        rw [if_neg (by omega), if_neg (by omega), Prod.mk.injEq]; exact ⟨by omega, by omega⟩
      rw [hv]
      clear hv
      go_enter Tryd.func17, Tryd.ntmps17
      go_wp2
      generalize ((w.alloc _).alloc _).alloc _ = W at *
      obtain ⟨g2, g3, g4, h2', h3', h4', n23, n24, n34⟩ : ∃ g2 g3 g4, w.heap.size = g2 ∧ w.heap.size + 1 = g3 ∧ w.heap.size + 1 + 1 = g4 ∧ g2 < g3 ∧ g2 < g4 ∧ g3 < g4 := ⟨_, _, _, rfl, rfl, rfl, by omega, by omega, by omega⟩
      have Z2 : Hid (w.heap.size ≤ g2) := by unfold Hid; omega
      rw [h4', h3', h2']
      rw [h2'] at K2
      rw [h3'] at K3
      rw [h4'] at K4
      clear h2' h3' h4'
      obtain ⟨c0, c1⟩ := K2.out.cells
      obtain ⟨c2, c3⟩ := K3.out.cells
      go_quiet (fail)
      have hd : Below W.heap.size W (W.drewN nq) := dN (Below.refl _ _) nq
      have k2 := K2.out.next hd
      have k3 := K3.out.next hd
      have k4 := K4.out.next hd
      have BB := Lib.hid (b3.trans (hd.mono b3.size))
      generalize W.drewN nq = W5 at *
      have dx : decide (p.1 ≤ p.2) = true := decide_eq_true (by omega)
      have dy : decide (q.1 ≤ q.2) = true := decide_eq_true (by omega)
      skip
      clear dx dy
      clear c0 c1 c2 c3
      obtain ⟨c0, c1⟩ := k2.cells
      obtain ⟨f0, f1⟩ := k2.free
      obtain ⟨c2, c3⟩ := k3.cells
      obtain ⟨c4, c5⟩ := k4.cells
      obtain ⟨f4, f5⟩ := k4.free
      have x1 : g2 ≠ g3 := by omega
      have x2 : g3 ≠ g2 := by omega
      have x3 : g2 ≠ g4 := by omega
      have x4 : g4 ≠ g2 := by omega
      have x5 : g3 ≠ g4 := by omega
      have x6 : g4 ≠ g3 := by omega
      have K5 := Lib.hid ((k4.off x4 0 (.int .i32 q.1)).set q.1 p.2)
      have B5 := Lib.hid (below_set (Below.setCell (p := ⟨g2, 0, none⟩) BB.out Z2.out (.int .i32 q.1)) (show w.heap.size ≤ g4 by have := Z2.out; omega) (.int .i32 q.1) (.int .i32 p.2))
      clear k2 k3 k4 BB hd b3 K2 K3 K4
      go_wp2
      generalize World.setCell _ _ _ = W6 at *
      obtain ⟨d0, d1⟩ := K5.out.cells
      exact bodyPost_ret (v := .agg #[.int .i32 q.1, .int .i32 p.2]) (by simp [results, Tryd.results17, go_sem, d0, d1]) rfl ⟨rfl, B5.out⟩
    · have hv : hullP p q = (p.1, q.2) := by
        unfold hullP
        rw [if_neg (by omega), if_neg (by omega), Prod.mk.injEq]; exact ⟨by omega, by omega⟩
      rw [hv]
      clear hv
      go_enter Tryd.func17, Tryd.ntmps17
      go_wp2
      generalize ((w.alloc _).alloc _).alloc _ = W at *
      obtain ⟨g2, g3, g4, h2', h3', h4', n23, n24, n34⟩ : ∃ g2 g3 g4, w.heap.size = g2 ∧ w.heap.size + 1 = g3 ∧ w.heap.size + 1 + 1 = g4 ∧ g2 < g3 ∧ g2 < g4 ∧ g3 < g4 := ⟨_, _, _, rfl, rfl, rfl, by omega, by omega, by omega⟩
      have Z2 : Hid (w.heap.size ≤ g2) := by unfold Hid; omega
      rw [h4', h3', h2']
      rw [h2'] at K2
      rw [h3'] at K3
      rw [h4'] at K4
      clear h2' h3' h4'
      obtain ⟨c0, c1⟩ := K2.out.cells
      obtain ⟨c2, c3⟩ := K3.out.cells
      go_quiet (fail)
      have hd : Below W.heap.size W (W.drewN nq) := dN (Below.refl _ _) nq
      have k2 := K2.out.next hd
      have k3 := K3.out.next hd
      have k4 := K4.out.next hd
      have BB := Lib.hid (b3.trans (hd.mono b3.size))
      generalize W.drewN nq = W5 at *
      have dx : decide (p.1 ≤ p.2) = true := decide_eq_true (by omega)
      have dy : decide (q.1 ≤ q.2) = true := decide_eq_true (by omega)
      skip
      clear dx dy
      clear c0 c1 c2 c3
      obtain ⟨c0, c1⟩ := k2.cells
      obtain ⟨f0, f1⟩ := k2.free
      obtain ⟨c2, c3⟩ := k3.cells
      obtain ⟨c4, c5⟩ := k4.cells
      obtain ⟨f4, f5⟩ := k4.free
      have x1 : g2 ≠ g3 := by omega
      have x2 : g3 ≠ g2 := by omega
      have x3 : g2 ≠ g4 := by omega
      have x4 : g4 ≠ g2 := by omega
      have x5 : g3 ≠ g4 := by omega
      have x6 : g4 ≠ g3 := by omega
      have K5 := Lib.hid ((k4.off x4 1 (.int .i32 q.2)).set p.1 q.2)
      have B5 := Lib.hid (below_set (Below.setCell (p := ⟨g2, 1, none⟩) BB.out Z2.out (.int .i32 q.2)) (show w.heap.size ≤ g4 by have := Z2.out; omega) (.int .i32 p.1) (.int .i32 q.2))
      clear k2 k3 k4 BB hd b3 K2 K3 K4
      go_wp2
      generalize World.setCell _ _ _ = W6 at *
      obtain ⟨d0, d1⟩ := K5.out.cells
      exact bodyPost_ret (v := .agg #[.int .i32 p.1, .int .i32 q.2]) (by simp [results, Tryd.results17, go_sem, d0, d1]) rfl ⟨rfl, B5.out⟩
    · have hv : hullP p q = (p.1, p.2) := by
        unfold hullP
        rw [if_neg (by omega), if_neg (by omega), Prod.mk.injEq]; exact ⟨by omega, by omega⟩
      rw [hv]
      clear hv
      go_enter Tryd.func17, Tryd.ntmps17
      go_wp2
      generalize ((w.alloc _).alloc _).alloc _ = W at *
      obtain ⟨g2, g3, g4, h2', h3', h4', n23, n24, n34⟩ : ∃ g2 g3 g4, w.heap.size = g2 ∧ w.heap.size + 1 = g3 ∧ w.heap.size + 1 + 1 = g4 ∧ g2 < g3 ∧ g2 < g4 ∧ g3 < g4 := ⟨_, _, _, rfl, rfl, rfl, by omega, by omega, by omega⟩
      have Z2 : Hid (w.heap.size ≤ g2) := by unfold Hid; omega
      rw [h4', h3', h2']
      rw [h2'] at K2
      rw [h3'] at K3
      rw [h4'] at K4
      clear h2' h3' h4'
      obtain ⟨c0, c1⟩ := K2.out.cells
      obtain ⟨c2, c3⟩ := K3.out.cells
      go_quiet (fail)
      have hd : Below W.heap.size W (W.drewN nq) := dN (Below.refl _ _) nq
      have k2 := K2.out.next hd
      have k3 := K3.out.next hd
      have k4 := K4.out.next hd
      have BB := Lib.hid (b3.trans (hd.mono b3.size))
      generalize W.drewN nq = W5 at *
      have dx : decide (p.1 ≤ p.2) = true := decide_eq_true (by omega)
      have dy : decide (q.1 ≤ q.2) = true := decide_eq_true (by omega)
      skip
      clear dx dy
      clear c0 c1 c2 c3
      obtain ⟨c0, c1⟩ := k2.cells
      obtain ⟨f0, f1⟩ := k2.free
      obtain ⟨c2, c3⟩ := k3.cells
      obtain ⟨c4, c5⟩ := k4.cells
      obtain ⟨f4, f5⟩ := k4.free
      have x1 : g2 ≠ g3 := by omega
      have x2 : g3 ≠ g2 := by omega
      have x3 : g2 ≠ g4 := by omega
      have x4 : g4 ≠ g2 := by omega
      have x5 : g3 ≠ g4 := by omega
      have x6 : g4 ≠ g3 := by omega
      have K5 := Lib.hid (k4.set p.1 p.2)
      have B5 := Lib.hid (below_set BB.out (show w.heap.size ≤ g4 by have := Z2.out; omega) (.int .i32 p.1) (.int .i32 p.2))
      clear k2 k3 k4 BB hd b3 K2 K3 K4
      go_wp2
      generalize World.setCell _ _ _ = W6 at *
      obtain ⟨d0, d1⟩ := K5.out.cells
      exact bodyPost_ret (v := .agg #[.int .i32 p.1, .int .i32 p.2]) (by simp [results, Tryd.results17, go_sem, d0, d1]) rfl ⟨rfl, B5.out⟩
end Go.Proofs.YtofphdodihbijaaDoor
