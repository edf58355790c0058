/- Layer 4: spans: Hull, Len, and the references. -/
import Derived.Test.YtofphdodihbijaaDoorSp
namespace Go.Proofs.YtofphdodihbijaaDoor
open Go.RowKit
set_option linter.unusedVariables false
theorem Blk.off {w : World} {b g : Nat} {p : Int × Int} (h : Blk w b p) (hg : b ≠ g) (i : Nat) (v : Value) : Blk (w.setCell ⟨g, i, none⟩ v) b p := (Below.heap_setCell w ⟨g, i, none⟩ v b hg).trans h
theorem plainR {p : Int × Int} (hp : inR p) : inR (plainP p) := by
  unfold plainP
  split
  · exact ⟨by simp [E0], by simp [E0]⟩
  · exact hp
theorem hull_eq {p q : Int × Int} (hp : inR p) (hq : inR q) (h : ¬ (p.2 < p.1 ∧ q.2 < q.1)) : hullP p q = (min (plainP p).1 (plainP q).1, max (plainP p).2 (plainP q).2) := by
  obtain ⟨⟨_, _⟩, _, _⟩ := hp
  obtain ⟨⟨_, _⟩, _, _⟩ := hq
  obtain ⟨p1, p2⟩ := p
  obtain ⟨q1, q2⟩ := q
  unfold hullP plainP E0
  simp only at *
  repeat' split
  all_goals (first | omega | (simp only [Prod.mk.injEq, Int.max_def, Int.min_def]; repeat' split; all_goals omega))
theorem hull_none {p q : Int × Int} (h : p.2 < p.1 ∧ q.2 < q.1) : hullP p q = (0, 0) := by unfold hullP; rw [if_pos h.1, if_pos h.2]
theorem hull_ne {p q : Int × Int} (hp : inR p) (hq : inR q) (h : ¬ (p.2 < p.1 ∧ q.2 < q.1)) : ¬ ((hullP p q).1 = 2147483647 ∧ (hullP p q).2 = -2147483648) := by
  obtain ⟨⟨_, _⟩, _, _⟩ := hp
  obtain ⟨⟨_, _⟩, _, _⟩ := hq
  unfold hullP
  simp only [Int.max_def, Int.min_def]
  repeat' split
  all_goals (try simp only)
  all_goals omega
theorem hull_any (p q : Int × Int) (w : World) (hT : Tab w) (hp : inR p) (hq : inR q) : Calls Tryd.prog 16 #[(.agg #[.int .i32 p.1, .int .i32 p.2]), (.agg #[.int .i32 q.1, .int .i32 q.2])] w fun e w' => e = .returned (.agg #[.int .i32 (hullP p q).1, .int .i32 (hullP p q).2]) ∧ Below w.heap.size w w' := by
  have hcase : ∃ b : Bool, Hid (∀ m1 m2, m1 = min (plainP p).1 (plainP q).1 → m2 = max (plainP p).2 (plainP q).2 → decide (m1 = 2147483647 ∧ m2 = -2147483648) = b ∧ (b = false → hullP p q = (m1, m2)) ∧ (b = true → hullP p q = (0, 0))) := by
    by_cases h : p.2 < p.1 ∧ q.2 < q.1
    · refine ⟨true, fun m1 m2 e1 e2 => ⟨?_, (fun hh => by cases hh), (fun _ => hull_none h)⟩⟩
      subst e1 e2
      unfold plainP
      rw [if_pos h.1, if_pos h.2]
      decide
    · refine ⟨false, fun m1 m2 e1 e2 => ⟨?_, (fun _ => by rw [e1, e2]; exact hull_eq hp hq h), (fun hh => by cases hh)⟩⟩
      have h1 := hull_eq hp hq h
      have h2 := hull_ne hp hq h
      rw [h1] at h2
      subst e1 e2
      exact decide_eq_false h2
  obtain ⟨b, hb⟩ := hcase
  obtain ⟨r, Hr⟩ : ∃ r, Hid (plainP p = r) := ⟨_, rfl⟩
  obtain ⟨s, Hs⟩ : ∃ s, Hid (plainP q = s) := ⟨_, rfl⟩
  rw [Hr.out, Hs.out] at hb
  obtain ⟨m1, e1⟩ : ∃ m, (if s.1 < r.1 then s.1 else r.1) = m := ⟨_, rfl⟩
  obtain ⟨m2, e2⟩ : ∃ m, (if r.2 < s.2 then s.2 else r.2) = m := ⟨_, rfl⟩
  have HB := hb.out m1 m2 (by rw [← e1, Int.min_def]; split <;> split <;> omega) (by rw [← e2, Int.max_def]; split <;> split <;> omega)
  clear hb
  obtain ⟨HE, HF, HG⟩ := HB
  have HE := Lib.hid HE
  have HF := Lib.hid HF
  have HG := Lib.hid HG
  generalize hullP p q = hl at *
  have b3 := thn (Go.Joins.below_alloc2 w (.cells #[.int .i32 p.1, .int .i32 p.2] 23) (.cells #[.int .i32 q.1, .int .i32 q.2] 23)) (below_lit _ (.cells #[.int .i32 0, .int .i32 0] 23))
  have K2 : Hid (Blk (((w.alloc (.cells #[.int .i32 p.1, .int .i32 p.2] 23)).alloc (.cells #[.int .i32 q.1, .int .i32 q.2] 23)).alloc (.cells #[.int .i32 0, .int .i32 0] 23)) w.heap.size p) := ((Blk.lit w p.1 p.2).old _).old _
  have K3 : Hid (Blk (((w.alloc (.cells #[.int .i32 p.1, .int .i32 p.2] 23)).alloc (.cells #[.int .i32 q.1, .int .i32 q.2] 23)).alloc (.cells #[.int .i32 0, .int .i32 0] 23)) (w.heap.size + 1) q) := by
    have := (Blk.lit (w.alloc (.cells #[.int .i32 p.1, .int .i32 p.2] 23)) q.1 q.2).old (.cells #[.int .i32 0, .int .i32 0] 23)
    unfold Hid
    simpa using this
  have K4 : Hid (Blk (((w.alloc (.cells #[.int .i32 p.1, .int .i32 p.2] 23)).alloc (.cells #[.int .i32 q.1, .int .i32 q.2] 23)).alloc (.cells #[.int .i32 0, .int .i32 0] 23)) (w.heap.size + 1 + 1) (0, 0)) := by
    have := Blk.lit ((w.alloc (.cells #[.int .i32 p.1, .int .i32 p.2] 23)).alloc (.cells #[.int .i32 q.1, .int .i32 q.2] 23)) 0 0
    unfold Hid
    simpa using this
  have TG := hT.2.2
  have HT : Hid (Tab (((w.alloc (.cells #[.int .i32 p.1, .int .i32 p.2] 23)).alloc (.cells #[.int .i32 q.1, .int .i32 q.2] 23)).alloc (.cells #[.int .i32 0, .int .i32 0] 23))) := hT.next b3
  clear hT hp hq
  go_enter Tryd.func16, Tryd.ntmps16
  go_wp2
  generalize ((w.alloc _).alloc _).alloc _ = W at *
  obtain ⟨g2, g3, g4, h2, h3, h4, n23, n24, n34, n02⟩ : ∃ g2 g3 g4, w.heap.size = g2 ∧ w.heap.size + 1 = g3 ∧ w.heap.size + 1 + 1 = g4 ∧ g2 < g3 ∧ g2 < g4 ∧ g3 < g4 ∧ 0 < g2 := ⟨_, _, _, rfl, rfl, rfl, by omega, by omega, by omega, TG⟩
  have Z2 : Hid (w.heap.size ≤ g2) := by unfold Hid; omega
  rw [h4, h3, h2]
  rw [h2] at K2
  rw [h3] at K3
  rw [h4] at K4
  clear h2 h3 h4
  refine wp_region_typed 4 [(6, .val (.agg #[.int .i32 p.1, .int .i32 p.2])), (7, .val (.agg #[.int .i32 r.1, .int .i32 r.2])), (8, .val (.agg #[.int .i32 q.1, .int .i32 q.2])), (9, .val (.agg #[.int .i32 s.1, .int .i32 s.2]))]
    [[], [6], [], [8]] (by kernel_rfl) (by kernel_rfl) ?_ ?_
  rotate_left
  · intro w5 hb
    simp only [List.take_succ_cons, List.take_zero, List.drop_succ_cons, List.drop_zero]
    repeat refine over_val rfl ?_
    refine over_nil ?_
    simp only [put_lit, List.set_cons_succ, List.set_cons_zero]
    have bb := b3.trans (hb.mono b3.size)
    have k2 := K2.out.next hb
    have k3 := K3.out.next hb
    have k4 := K4.out.next hb
    obtain ⟨c0, c1⟩ := k2.cells
    obtain ⟨f0, f1⟩ := k2.free
    obtain ⟨c2, c3⟩ := k3.cells
    obtain ⟨f2, f3⟩ := k3.free
    obtain ⟨c4, c5⟩ := k4.cells
    obtain ⟨f4, f5⟩ := k4.free
    have l2 := k2.lt
    have l3 := k3.lt
    have l4 := k4.lt
    obtain ⟨T0, T1, TL⟩ := HT.out.next hb
    have TN : w5.heap.size ≠ 0 := by omega
    have HW := Lib.hid k4
    have HBB := Lib.hid bb
    clear k2 k3 k4 bb
    have x1 : g2 ≠ g3 := by omega
    have x2 : g3 ≠ g2 := by omega
    have x3 : g2 ≠ g4 := by omega
    have x4 : g4 ≠ g2 := by omega
    have x5 : g3 ≠ g4 := by omega
    have x6 : g4 ≠ g3 := by omega
    have x7 : 0 ≠ g2 := by omega
    have x8 : g2 ≠ 0 := by omega
    have x9 : 0 ≠ g3 := by omega
    have y1 : g3 ≠ 0 := by omega
    have y2 : w5.heap.size ≠ g2 := by omega
    have y3 : w5.heap.size ≠ g3 := by omega
    have y4 : w5.heap.size ≠ g4 := by omega
    have y5 : g2 ≠ w5.heap.size := by omega
    have y6 : g3 ≠ w5.heap.size := by omega
    have y7 : g4 ≠ w5.heap.size := by omega
    have heq := fun w' : World => (eql_run (m1, m2) (2147483647, -2147483648) w').trans (by rw [HE.out])
    cases b
    · skip
      have K5 := Lib.hid ((((((HW.out.off x4 0 (.int .i32 r.1)).off x4 1 (.int .i32 r.2)).off x6 0 (.int .i32 s.1)).off x6 1 (.int .i32 s.2)).set m1 m2).old (.cells #[.int .i32 m1, .int .i32 m2] 23))
      have BB := Lib.hid ((below_set (below_set (below_set HBB.out Z2.out (.int .i32 r.1) (.int .i32 r.2)) (show w.heap.size ≤ g3 by have := Z2.out; omega) (.int .i32 s.1) (.int .i32 s.2)) (show w.heap.size ≤ g4 by have := Z2.out; omega) (.int .i32 m1) (.int .i32 m2)).alloc (by simp only [World.size_setCell]; exact HBB.out.size) (.cells #[.int .i32 m1, .int .i32 m2] 23))
      clear HBB HW
      go_wp2
      generalize World.alloc _ _ = W6 at *
      obtain ⟨d0, d1⟩ := K5.out.cells
      exact bodyPost_ret (v := .agg #[.int .i32 m1, .int .i32 m2]) (by simp [results, Tryd.results16, go_sem, d0, d1]) rfl ⟨by first | rfl | rw [HF.out rfl], BB.out⟩
    · skip
      have K5 := Lib.hid ((((((HW.out.off x4 0 (.int .i32 r.1)).off x4 1 (.int .i32 r.2)).off x6 0 (.int .i32 s.1)).off x6 1 (.int .i32 s.2)).set 0 0).old (.cells #[.int .i32 m1, .int .i32 m2] 23))
      have BB := Lib.hid ((below_set (below_set (below_set HBB.out Z2.out (.int .i32 r.1) (.int .i32 r.2)) (show w.heap.size ≤ g3 by have := Z2.out; omega) (.int .i32 s.1) (.int .i32 s.2)) (show w.heap.size ≤ g4 by have := Z2.out; omega) (.int .i32 0) (.int .i32 0)).alloc (by simp only [World.size_setCell]; exact HBB.out.size) (.cells #[.int .i32 m1, .int .i32 m2] 23))
      clear HBB HW
      go_wp2
      generalize World.alloc _ _ = W6 at *
      obtain ⟨d0, d1⟩ := K5.out.cells
      exact bodyPost_ret (v := .agg #[.int .i32 0, .int .i32 0]) (by simp [results, Tryd.results16, go_sem, d0, d1]) rfl ⟨by first | rfl | rw [HG.out rfl], BB.out⟩
  simp only [List.take_succ_cons, List.take_zero]
  refine ⟨?g0, ?g1, ?g2, ?g3, trivial⟩
  case g0 =>
    intro w5 hb
    repeat refine over_val rfl ?_
    refine over_nil ?_
    obtain ⟨c0, c1⟩ := (K2.out.next hb).cells
    go_wp2
    exact post_of (by rfl) (by rfl) (Below.refl _ _) (by rfl)
  case g1 =>
    intro w5 hb
    repeat refine over_val rfl ?_
    refine over_nil ?_
    have hT5 := Lib.hid (HT.out.next hb)
    go_wp2_with (go_at_call 22; go_must (refine (plain_of hT5.out Hr.out).mono ?_); rintro r w6 ⟨rfl, b6⟩)
    first | exact post_of (by rfl) (by rfl) (Below.refl _ _) (by rfl) | exact post_of (by rfl) (by rfl) b6 (by rfl)
  case g2 =>
    intro w5 hb
    repeat refine over_val rfl ?_
    refine over_nil ?_
    obtain ⟨c0, c1⟩ := (K3.out.next hb).cells
    go_wp2
    exact post_of (by rfl) (by rfl) (Below.refl _ _) (by rfl)
  case g3 =>
    intro w5 hb
    repeat refine over_val rfl ?_
    refine over_nil ?_
    have hT5 := Lib.hid (HT.out.next hb)
    go_wp2_with (go_at_call 22; go_must (refine (plain_of hT5.out Hs.out).mono ?_); rintro r w6 ⟨rfl, b6⟩)
    first | exact post_of (by rfl) (by rfl) (Below.refl _ _) (by rfl) | exact post_of (by rfl) (by rfl) b6 (by rfl)
end Go.Proofs.YtofphdodihbijaaDoor
