/- Layer 5: spans: Len; filter.within. -/
import Derived.Test.YtmajempbncllgaaDoorFl4
namespace Go.Proofs.YtmajempbncllgaaDoor
open Go.RowKit
set_option linter.unusedVariables false
theorem len_any (p : Int × Int) (w : World) (hT : Tab w) (hp : inR p) : Calls Tryd.prog 26 #[(.agg #[.int .i32 p.1, .int .i32 p.2])] w fun e w' => e = .returned (.int .u32 (lenP p)) ∧ Below w.heap.size w w' := by
  obtain ⟨r, Hr⟩ : ∃ r, Hid (plainP p = r) := ⟨_, rfl⟩
  obtain ⟨b, Hb⟩ : ∃ b, Hid (decide (p.2 < p.1) = b) := ⟨_, rfl⟩
  obtain ⟨⟨hp0, hp1⟩, hp2, hp3⟩ := hp
  have HE : Hid (decide (r.1 = 2147483647 ∧ r.2 = -2147483648) = b) := by
    unfold Hid
    rw [← Hr.out, ← Hb.out]
    unfold plainP E0
    rw [Bool.eq_iff_iff]
    simp only [decide_eq_true_eq]
    split
    all_goals (first | omega | (simp only; omega))
  obtain ⟨m, em⟩ : ∃ m, (if 4294967295 < p.2 - p.1 + 1 then 4294967295 else p.2 - p.1 + 1) = m := ⟨_, rfl⟩
  have HL : Hid (lenP p = if b then 0 else m) := by
    unfold Hid lenP
    rw [← Hb.out, ← em]
    simp only [decide_eq_true_eq]
    split
    · rfl
    · rw [Int.min_def]; split <;> split <;> omega
  have hm : b = false → 0 ≤ m ∧ m ≤ 4294967295 := by
    intro h
    rw [← Hb.out] at h
    simp only [decide_eq_false_iff_not] at h
    rw [← em]
    split <;> omega
  generalize lenP p = n at *
  have b2 := below_lit w (.cells #[.int .i32 p.1, .int .i32 p.2] 36)
  have K2 : Hid (Blk (w.alloc (.cells #[.int .i32 p.1, .int .i32 p.2] 36)) w.heap.size p) := Blk.lit w p.1 p.2
  have HT : Hid (Tab (w.alloc (.cells #[.int .i32 p.1, .int .i32 p.2] 36))) := hT.next b2
  clear hT
  go_enter Tryd.func26, Tryd.ntmps26
  go_wp2
  generalize w.alloc _ = W at *
  generalize w.heap.size = g2 at K2 ⊢
  refine wp_region_typed 4 [(3, .val (.agg #[.int .i32 p.1, .int .i32 p.2])), (4, .val (.agg #[.int .i32 r.1, .int .i32 r.2])), (5, .val (.agg #[.int .i32 2147483647, .int .i32 (-2147483648)])), (6, .val (.bool b))]
    [[], [3], [], [4, 5]] (by kernel_rfl) (by kernel_rfl) ?_ ?_
  rotate_left
  · intro w5 hb
    simp only [List.take_succ_cons, List.take_zero, List.drop_succ_cons, List.drop_zero]
    repeat refine over_val rfl ?_
    refine over_nil ?_
    simp only [put_lit, List.set_cons_succ, List.set_cons_zero]
    have BB := Lib.hid (b2.trans (hb.mono b2.size))
    obtain ⟨c0, c1⟩ := (K2.out.next hb).cells
    cases b
    · obtain ⟨hm0, hm1⟩ := hm rfl
      clear hm
      go_wp2
      go_ret
      exact ⟨by rw [HL.out]; rfl, BB.out⟩
    · clear hm
      go_wp2
      go_ret
      exact ⟨by rw [HL.out]; rfl, BB.out⟩
  simp only [List.take_succ_cons, List.take_zero]
  refine ⟨?g0, ?g1, ?g2, ?g3, trivial⟩
  case g0 =>
    intro w5 hb
    repeat refine over_val rfl ?_
    refine over_nil ?_
    obtain ⟨c0, c1⟩ := (K2.out.next hb).cells
    go_wp2
    exact post_of (by rfl) (by rfl) (Below.refl _ _) (by rfl)
  case g1 =>
    intro w5 hb
    repeat refine over_val rfl ?_
    refine over_nil ?_
    have hT5 := Lib.hid (HT.out.next hb)
    go_wp2_with (go_at_call 39; go_must (refine (plain_of hT5.out Hr.out).mono ?_); rintro r w6 ⟨rfl, b6⟩)
    first | exact post_of (by rfl) (by rfl) (Below.refl _ _) (by rfl) | exact post_of (by rfl) (by rfl) b6 (by rfl)
  case g2 =>
    intro w5 hb
    repeat refine over_val rfl ?_
    refine over_nil ?_
    obtain ⟨T0, T1, _⟩ := HT.out.next hb
    go_wp2
    exact post_of (by rfl) (by rfl) (Below.refl _ _) (by rfl)
  case g3 =>
    intro w5 hb
    repeat refine over_val rfl ?_
    refine over_nil ?_
    have heq := fun w' : World => (eql_run r (2147483647, -2147483648) w').trans (by rw [HE.out])
    go_wp2
    exact post_of (by rfl) (by rfl) (Below.refl _ _) (by rfl)
def withinB (r x : Int × Int) : Bool := decide (x.1 ≤ x.2) && covB r x
theorem within_ok (r x : Int × Int) : withinB r x = okF x r := by
  unfold withinB okF covB
  rw [Bool.eq_iff_iff]
  simp only [Bool.and_eq_true, Bool.or_eq_true, decide_eq_true_eq]
  omega
theorem within_of {r x : Int × Int} {b : Bool} {w : World} (hT : Tab w) (hr : inR r) (hx : inR x) (h : withinB r x = b) : Calls Tryd.prog 41 #[(.agg #[.int .i32 r.1, .int .i32 r.2]), (.agg #[.int .i32 x.1, .int .i32 x.2])] w fun e w' => e = .returned (.bool b) ∧ Below w.heap.size w w' := by
  have b2 := Go.Joins.below_alloc2 w (.cells #[.int .i32 r.1, .int .i32 r.2] 36) (.cells #[.int .i32 x.1, .int .i32 x.2] 36)
  have K2 : Hid (Blk ((w.alloc (.cells #[.int .i32 r.1, .int .i32 r.2] 36)).alloc (.cells #[.int .i32 x.1, .int .i32 x.2] 36)) w.heap.size r) := (Blk.lit w r.1 r.2).old _
  have K3 : Hid (Blk ((w.alloc (.cells #[.int .i32 r.1, .int .i32 r.2] 36)).alloc (.cells #[.int .i32 x.1, .int .i32 x.2] 36)) (w.heap.size + 1) x) := by
    have := Blk.lit (w.alloc (.cells #[.int .i32 r.1, .int .i32 r.2] 36)) x.1 x.2
    unfold Hid
    simpa using this
  have HT : Hid (Tab ((w.alloc (.cells #[.int .i32 r.1, .int .i32 r.2] 36)).alloc (.cells #[.int .i32 x.1, .int .i32 x.2] 36))) := hT.next b2
  obtain ⟨z, Hz⟩ : ∃ z, Hid (covB r x = z) := ⟨_, rfl⟩
  obtain ⟨n, Hn⟩ : ∃ n, Hid (lenP x = n) := ⟨_, rfl⟩
  by_cases h1 : x.2 < x.1
  · have hb : b = false := by
      rw [← h]; unfold withinB
      rw [decide_eq_false (by omega)]; rfl
    have hn : n = 0 := by rw [← Hn.out]; unfold lenP; rw [if_pos h1]
    subst hb hn
    clear hT h h1
    go_enter Tryd.func41, Tryd.ntmps41
    obtain ⟨c2, c3⟩ := K3.out.cells
    go_wp2_with fail
    have hc := len_any x _ HT.out hx
    rw [Hn.out] at hc
    refine hc.mono ?_
    clear hc
    rintro e w5 ⟨rfl, b5⟩
    have bb := Lib.hid (b2.trans (b5.mono b2.size))
    clear b5
    go_wp2
    go_ret
    exact ⟨rfl, bb.out⟩
  · have hb : b = z := by
      rw [← h, ← Hz.out]; unfold withinB
      rw [decide_eq_true (by omega)]; rfl
    have hn : 0 < n := by rw [← Hn.out]; unfold lenP; rw [if_neg h1, Int.min_def]; split <;> omega
    subst hb
    clear hT h h1
    go_enter Tryd.func41, Tryd.ntmps41
    obtain ⟨c2, c3⟩ := K3.out.cells
    go_wp2_with fail
    have hc := len_any x _ HT.out hx
    rw [Hn.out] at hc
    refine hc.mono ?_
    clear hc
    rintro e w5 ⟨rfl, b5⟩
    obtain ⟨c4, c5⟩ := (K2.out.next b5).cells
    obtain ⟨c6, c7⟩ := (K3.out.next b5).cells
    have HT5 := Lib.hid (HT.out.next b5)
    have bb := Lib.hid (b2.trans (b5.mono b2.size))
    clear b5
    go_wp2_with fail
    refine (covers_of HT5.out hr hx Hz.out).mono ?_
    rintro e w6 ⟨rfl, b6⟩
    have b7 := Lib.hid (thn bb.out b6)
    clear b6
    go_wp2
    go_ret
    exact ⟨rfl, b7.out⟩
end Go.Proofs.YtmajempbncllgaaDoor
