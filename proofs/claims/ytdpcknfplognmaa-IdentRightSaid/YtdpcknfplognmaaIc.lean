/- Layer 7: ident.Less, Right, Next; their references. -/
import Derived.Test.YtdpcknfplognmaaI
import Derived.Test.YtdpcknfplognmaaTy
namespace Go.Proofs.Ytdpcknfplognmaa
open Go.RowKit
set_option linter.unusedVariables false
def cmpI (x y : Int) : Int := if x < y then -1 else if y < x then 1 else 0
def orL : List Int → Int
  | [] => 0
  | x :: t => if x = 0 then orL t else x
theorem nan_u8 (x : Int) (w : World) : Calls Try.prog 37 #[.int .u8 x] w fun e w' => e = .returned (.bool false) ∧ w' = w := by
  go_enter Try.func37, Try.ntmps37
  go_wp2
  go_ret
  exact ⟨by simp, rfl⟩
theorem cmp_u8 (x y : Int) (w : World) : Calls Try.prog 27 #[.int .u8 x, .int .u8 y] w fun e w' => e = .returned (.int .i64 (cmpI x y)) ∧ w' = w := by
  have h1 := nan_u8 x
  have h2 := nan_u8 y
  unfold cmpI
  by_cases a : x < y
  · rw [if_pos a]
    go_enter Try.func27, Try.ntmps27
    go_wp2_with fail
    refine (h1 _).mono ?_
    rintro e _ ⟨rfl, rfl⟩
    go_wp2_with fail
    refine (h2 _).mono ?_
    rintro e _ ⟨rfl, rfl⟩
    go_wp2
    go_ret
    exact ⟨rfl, rfl⟩
  · rw [if_neg a]
    by_cases b : y < x
    · rw [if_pos b]
      go_enter Try.func27, Try.ntmps27
      go_wp2_with fail
      refine (h1 _).mono ?_
      rintro e _ ⟨rfl, rfl⟩
      go_wp2_with fail
      refine (h2 _).mono ?_
      rintro e _ ⟨rfl, rfl⟩
      go_wp2
      go_ret
      exact ⟨rfl, rfl⟩
    · rw [if_neg b]
      go_enter Try.func27, Try.ntmps27
      go_wp2_with fail
      refine (h1 _).mono ?_
      rintro e _ ⟨rfl, rfl⟩
      go_wp2_with fail
      refine (h2 _).mono ?_
      rintro e _ ⟨rfl, rfl⟩
      go_wp2
      go_ret
      exact ⟨rfl, rfl⟩
theorem nan_u16 (x : Int) (w : World) : Calls Try.prog 38 #[.int .u16 x] w fun e w' => e = .returned (.bool false) ∧ w' = w := by
  go_enter Try.func38, Try.ntmps38
  go_wp2
  go_ret
  exact ⟨by simp, rfl⟩
theorem cmp_u16 (x y : Int) (w : World) : Calls Try.prog 28 #[.int .u16 x, .int .u16 y] w fun e w' => e = .returned (.int .i64 (cmpI x y)) ∧ w' = w := by
  have h1 := nan_u16 x
  have h2 := nan_u16 y
  unfold cmpI
  by_cases a : x < y
  · rw [if_pos a]
    go_enter Try.func28, Try.ntmps28
    go_wp2_with fail
    refine (h1 _).mono ?_
    rintro e _ ⟨rfl, rfl⟩
    go_wp2_with fail
    refine (h2 _).mono ?_
    rintro e _ ⟨rfl, rfl⟩
    go_wp2
    go_ret
    exact ⟨rfl, rfl⟩
  · rw [if_neg a]
    by_cases b : y < x
    · rw [if_pos b]
      go_enter Try.func28, Try.ntmps28
      go_wp2_with fail
      refine (h1 _).mono ?_
      rintro e _ ⟨rfl, rfl⟩
      go_wp2_with fail
      refine (h2 _).mono ?_
      rintro e _ ⟨rfl, rfl⟩
      go_wp2
      go_ret
      exact ⟨rfl, rfl⟩
    · rw [if_neg b]
      go_enter Try.func28, Try.ntmps28
      go_wp2_with fail
      refine (h1 _).mono ?_
      rintro e _ ⟨rfl, rfl⟩
      go_wp2_with fail
      refine (h2 _).mono ?_
      rintro e _ ⟨rfl, rfl⟩
      go_wp2
      go_ret
      exact ⟨rfl, rfl⟩
theorem nan_u32 (x : Int) (w : World) : Calls Try.prog 39 #[.int .u32 x] w fun e w' => e = .returned (.bool false) ∧ w' = w := by
  go_enter Try.func39, Try.ntmps39
  go_wp2
  go_ret
  exact ⟨by simp, rfl⟩
theorem cmp_u32 (x y : Int) (w : World) : Calls Try.prog 29 #[.int .u32 x, .int .u32 y] w fun e w' => e = .returned (.int .i64 (cmpI x y)) ∧ w' = w := by
  have h1 := nan_u32 x
  have h2 := nan_u32 y
  unfold cmpI
  by_cases a : x < y
  · rw [if_pos a]
    go_enter Try.func29, Try.ntmps29
    go_wp2_with fail
    refine (h1 _).mono ?_
    rintro e _ ⟨rfl, rfl⟩
    go_wp2_with fail
    refine (h2 _).mono ?_
    rintro e _ ⟨rfl, rfl⟩
    go_wp2
    go_ret
    exact ⟨rfl, rfl⟩
  · rw [if_neg a]
    by_cases b : y < x
    · rw [if_pos b]
      go_enter Try.func29, Try.ntmps29
      go_wp2_with fail
      refine (h1 _).mono ?_
      rintro e _ ⟨rfl, rfl⟩
      go_wp2_with fail
      refine (h2 _).mono ?_
      rintro e _ ⟨rfl, rfl⟩
      go_wp2
      go_ret
      exact ⟨rfl, rfl⟩
    · rw [if_neg b]
      go_enter Try.func29, Try.ntmps29
      go_wp2_with fail
      refine (h1 _).mono ?_
      rintro e _ ⟨rfl, rfl⟩
      go_wp2_with fail
      refine (h2 _).mono ?_
      rintro e _ ⟨rfl, rfl⟩
      go_wp2
      go_ret
      exact ⟨rfl, rfl⟩
theorem orL_drop {xs : List Int} {j : Nat} {x : Int} (h : xs[j]? = some x) : orL (xs.drop j) = if x = 0 then orL (xs.drop (j + 1)) else x := by
  rw [(List.drop_eq_getElem_cons (List.getElem?_eq_some_iff.1 h).1), (List.getElem?_eq_some_iff.1 h).2, orL]
theorem or_any (A : Option Addr) (n c : Nat) (xs : List Int) (w : World) (h : Sv w w.heap.size A n c (Nl .i64 xs)) :
    Calls Try.prog 26 #[.slice A n c] w fun e w' => e = .returned (.int .i64 (orL xs)) ∧ w' = w := by
  have HL : Hid (n = xs.length) := by have := h.len; rwa [Nl_length] at this
  have hm := h.max
  have hc := h.cap
  unfold maxLen at hm
  have HS := Lib.hid h
  clear h
  go_enter Try.func26, Try.ntmps26
  go_wp2
  go_loopw [8] (fun i wr => ∃ j : Nat, j ≤ n ∧ i = .int .i64 j ∧ Hid (orL (xs.drop j) = orL xs) ∧ wr = w) (fun i _ => n - (intOf i).toNat)
  case atStart => exact ⟨0, Nat.zero_le _, rfl, rfl, by trivial⟩
  case round =>
    obtain ⟨j, hj, rfl, HO, rfl⟩ := hrel
    have i0 : (0 : Int) ≤ (j : Int) := by omega
    by_cases hlt : j < n
    · have i1 : (j : Int) < (n : Int) := by omega
      obtain ⟨b, off, e, hb, hcl⟩ := HS.out.at_ (by omega)
      subst e
      have hjx : j < xs.length := by rw [← HL.out]; exact hlt
      have hx : xs[j]? = some xs[j] := List.getElem?_eq_getElem hjx
      generalize xs[j] = x at hx
      have c1 := hcl j _ (Nl_at (k := .i64) hx)
      clear hcl
      have HX := Lib.hid (orL_drop hx)
      clear hx
      by_cases h0 : x = 0
      · subst h0
        go_wp2
        go_roundw
        case rel => exact ⟨j + 1, by omega, by go_num, (by have := HX.out; rw [if_pos rfl] at this; exact this.symm.trans HO.out), by trivial⟩
        case measure => simp [intOf]; omega
      · have HX2 : Hid (orL xs = x) := by have := HX.out; rw [if_neg h0] at this; exact HO.out.symm.trans this
        clear HX
        go_wp2
        go_ret
        exact ⟨by rw [HX2.out]; rfl, rfl⟩
    · obtain rfl : j = n := by omega
      have HX2 : Hid (orL xs = 0) := by rw [← HO.out]; rw [List.drop_of_length_le (by rw [← HL.out]; exact Nat.le_refl _)]; rfl
      have i1 : ¬ (j : Int) < (j : Int) := by omega
      go_wp2
      go_ret
      exact ⟨by rw [HX2.out]; rfl, rfl⟩
theorem less_or (a b : Id3) : decide (orL [cmpI a.1 b.1, cmpI a.2.1 b.2.1, cmpI a.2.2 b.2.2] < 0) = lessB a b := by
  unfold lessB
  rw [decide_eq_decide]
  simp only [orL]
  have k : ∀ x y : Int, (cmpI x y = 0 ↔ x = y) ∧ (cmpI x y < 0 ↔ x < y) := fun x y => by unfold cmpI; split <;> (try split) <;> omega
  obtain ⟨p1, p2⟩ := k a.1 b.1
  obtain ⟨q1, q2⟩ := k a.2.1 b.2.1
  obtain ⟨r1, r2⟩ := k a.2.2 b.2.2
  split
  · rename_i e; rw [p1] at e
    split
    · rename_i e'; rw [q1] at e'
      split
      · rename_i e''; rw [r1] at e''; omega
      · rw [r2]; omega
    · rename_i e'; rw [q1] at e'; rw [q2]; omega
  · rename_i e; rw [p1] at e; rw [p2]; omega
def tyN (xs : List Int) (n : Nat) : Ty := .pred (fun v w => ∃ A c, v = .slice A n c ∧ Sv w w.heap.size A n c (Nl .i64 xs)) (fun _ _ _ ⟨A, c, h, s⟩ hb => ⟨A, c, h, (s.below hb).more hb.size⟩)
theorem less_any (a b : Id3) (w : World) : Calls Try.prog 13 #[(.agg #[.int .u8 a.1, .int .u16 a.2.1, .int .u32 a.2.2]), (.agg #[.int .u8 b.1, .int .u16 b.2.1, .int .u32 b.2.2])] w fun e w' => e = .returned (.bool (lessB a b)) ∧ Below w.heap.size w w' := by
  have HO := Lib.hid (less_or a b)
  have h1 := cmp_u8 a.1 b.1
  have h2 := cmp_u16 a.2.1 b.2.1
  have h3 := cmp_u32 a.2.2 b.2.2
  generalize cmpI a.1 b.1 = k1 at *
  generalize cmpI a.2.1 b.2.1 = k2 at *
  generalize cmpI a.2.2 b.2.2 = k3 at *
  have h4 := fun A c (w : World) (h : Sv w w.heap.size A 3 c (Nl .i64 [k1, k2, k3])) => or_any A 3 c [k1, k2, k3] w h
  generalize orL [k1, k2, k3] = o at *
  go_enter Try.func13, Try.ntmps13
  go_wp2
  have KA : Hid (IdBlk ((w.alloc (.cells #[.int .u8 a.1, .int .u16 a.2.1, .int .u32 a.2.2] 25)).alloc (.cells #[.int .u8 b.1, .int .u16 b.2.1, .int .u32 b.2.2] 25)) w.heap.size a) := (IdBlk.new w a).next (below_lit _ _)
  have KB : Hid (IdBlk ((w.alloc (.cells #[.int .u8 a.1, .int .u16 a.2.1, .int .u32 a.2.2] 25)).alloc (.cells #[.int .u8 b.1, .int .u16 b.2.1, .int .u32 b.2.2] 25)) (w.heap.size + 1) b) := by have := IdBlk.new (w.alloc (.cells #[.int .u8 a.1, .int .u16 a.2.1, .int .u32 a.2.2] 25)) b; unfold Hid; simpa using this
  have B := Lib.hid (Go.Joins.below_alloc2 w (.cells #[.int .u8 a.1, .int .u16 a.2.1, .int .u32 a.2.2] 25) (.cells #[.int .u8 b.1, .int .u16 b.2.1, .int .u32 b.2.2] 25))
  generalize (w.alloc (.cells #[.int .u8 a.1, .int .u16 a.2.1, .int .u32 a.2.2] 25)).alloc (.cells #[.int .u8 b.1, .int .u16 b.2.1, .int .u32 b.2.2] 25) = W at *
  obtain ⟨g, hg⟩ : ∃ g, w.heap.size = g := ⟨_, rfl⟩
  rw [hg] at KA KB ⊢
  obtain ⟨h, hh⟩ : ∃ h, g + 1 = h := ⟨_, rfl⟩
  rw [hh] at KB ⊢
  refine wp_region_typed 18 [(5, .val (.pointer (some ⟨g, 0, none⟩))), (6, .val (.int .u8 a.1)), (7, .val (.pointer (some ⟨h, 0, none⟩))), (8, .val (.int .u8 b.1)), (9, .val (.int .i64 k1)), (10, .val (.pointer (some ⟨g, 1, none⟩))), (11, .val (.int .u16 a.2.1)), (12, .val (.pointer (some ⟨h, 1, none⟩))), (13, .val (.int .u16 b.2.1)), (14, .val (.int .i64 k2)), (15, .val (.pointer (some ⟨g, 2, none⟩))), (16, .val (.int .u32 a.2.2)), (17, .val (.pointer (some ⟨h, 2, none⟩))), (18, .val (.int .u32 b.2.2)), (19, .val (.int .i64 k3)), (20, tyN [k1, k2, k3] 3), (21, .val (.int .i64 o)), (22, .val (.bool (decide (o < 0))))]
    [[], [5], [], [7], [6, 8], [], [10], [], [12], [11, 13], [], [15], [], [17], [16, 18], [9, 14, 19], [20], [21]] (by kernel_rfl) (by kernel_rfl) ?_ ?_
  rotate_left
  · intro w9 hb
    simp only [List.take_succ_cons, List.take_zero, List.drop_succ_cons, List.drop_zero]
    refine over_ds (ds := [5, 6, 7, 8, 9, 10, 11, 12, 13, 14, 15, 16, 17, 18, 19, 20, 21, 22]) (by kernel_rfl) ?_
    refine over_some (ds1 := [5, 6, 7, 8, 9, 10, 11, 12, 13, 14, 15, 16, 17, 18, 19]) (ds2 := [20, 21, 22]) [(.pointer (some ⟨g, 0, none⟩)), (.int .u8 a.1), (.pointer (some ⟨h, 0, none⟩)), (.int .u8 b.1), (.int .i64 k1), (.pointer (some ⟨g, 1, none⟩)), (.int .u16 a.2.1), (.pointer (some ⟨h, 1, none⟩)), (.int .u16 b.2.1), (.int .i64 k2), (.pointer (some ⟨g, 2, none⟩)), (.int .u32 a.2.2), (.pointer (some ⟨h, 2, none⟩)), (.int .u32 b.2.2), (.int .i64 k3)] (by kernel_rfl) ?_
    refine over_pred rfl ?_
    rintro _ ⟨A8, c8, rfl, s8⟩
    refine over_some (ds1 := [21, 22]) (ds2 := []) [(.int .i64 o), (.bool (decide (o < 0)))] (by kernel_rfl) ?_
    refine over_nil ?_
    simp only [putAll, put_lit, List.set_cons_succ, List.set_cons_zero]
    go_wp2
    go_ret
    exact ⟨by rw [HO.out]; rfl, B.out.trans (hb.mono B.out.size)⟩
  simp only [List.take_succ_cons, List.take_zero]
  refine ⟨?r1g0, ?r1g1, ?r1g2, ?r1g3, ?r1g4, ?r1g5, ?r1g6, ?r1g7, ?r1g8, ?r1g9, ?r1g10, ?r1g11, ?r1g12, ?r1g13, ?r1g14, ?r1g15, ?r1g16, ?r1g17, trivial⟩
  case r1g0 =>
    intro w9 hb
    refine over_nil ?_
    go_wp2
    first | exact post_of (by rfl) (by rfl) (Below.refl _ _) (by rfl) | exact rfl
  case r1g1 =>
    intro w9 hb
    refine over_some (ds1 := [5]) (ds2 := []) [(.pointer (some ⟨g, 0, none⟩))] (by kernel_rfl) ?_
    refine over_nil ?_
    simp only [putAll, put_lit, List.set_cons_succ, List.set_cons_zero]
    obtain ⟨c0, c1, c2⟩ := (KA.out.next hb).cells
    go_wp2
    first | exact post_of (by rfl) (by rfl) (Below.refl _ _) (by rfl) | exact rfl
  case r1g2 =>
    intro w9 hb
    refine over_nil ?_
    go_wp2
    first | exact post_of (by rfl) (by rfl) (Below.refl _ _) (by rfl) | exact rfl
  case r1g3 =>
    intro w9 hb
    refine over_some (ds1 := [7]) (ds2 := []) [(.pointer (some ⟨h, 0, none⟩))] (by kernel_rfl) ?_
    refine over_nil ?_
    simp only [putAll, put_lit, List.set_cons_succ, List.set_cons_zero]
    obtain ⟨c0, c1, c2⟩ := (KB.out.next hb).cells
    go_wp2
    first | exact post_of (by rfl) (by rfl) (Below.refl _ _) (by rfl) | exact rfl
  case r1g4 =>
    intro w9 hb
    refine over_some (ds1 := [6, 8]) (ds2 := []) [(.int .u8 a.1), (.int .u8 b.1)] (by kernel_rfl) ?_
    refine over_nil ?_
    simp only [putAll, put_lit, List.set_cons_succ, List.set_cons_zero]
    go_wp2_with fail
    refine (h1 _).mono ?_
    rintro e w8 ⟨rfl, rfl⟩
    have b6 := Below.refl w8.heap.size w8
    go_wp2
    exact post_of (by rfl) (by rfl) b6 (by rfl)
  case r1g5 =>
    intro w9 hb
    refine over_nil ?_
    go_wp2
    first | exact post_of (by rfl) (by rfl) (Below.refl _ _) (by rfl) | exact rfl
  case r1g6 =>
    intro w9 hb
    refine over_some (ds1 := [10]) (ds2 := []) [(.pointer (some ⟨g, 1, none⟩))] (by kernel_rfl) ?_
    refine over_nil ?_
    simp only [putAll, put_lit, List.set_cons_succ, List.set_cons_zero]
    obtain ⟨c0, c1, c2⟩ := (KA.out.next hb).cells
    go_wp2
    first | exact post_of (by rfl) (by rfl) (Below.refl _ _) (by rfl) | exact rfl
  case r1g7 =>
    intro w9 hb
    refine over_nil ?_
    go_wp2
    first | exact post_of (by rfl) (by rfl) (Below.refl _ _) (by rfl) | exact rfl
  case r1g8 =>
    intro w9 hb
    refine over_some (ds1 := [12]) (ds2 := []) [(.pointer (some ⟨h, 1, none⟩))] (by kernel_rfl) ?_
    refine over_nil ?_
    simp only [putAll, put_lit, List.set_cons_succ, List.set_cons_zero]
    obtain ⟨c0, c1, c2⟩ := (KB.out.next hb).cells
    go_wp2
    first | exact post_of (by rfl) (by rfl) (Below.refl _ _) (by rfl) | exact rfl
  case r1g9 =>
    intro w9 hb
    refine over_some (ds1 := [11, 13]) (ds2 := []) [(.int .u16 a.2.1), (.int .u16 b.2.1)] (by kernel_rfl) ?_
    refine over_nil ?_
    simp only [putAll, put_lit, List.set_cons_succ, List.set_cons_zero]
    go_wp2_with fail
    refine (h2 _).mono ?_
    rintro e w8 ⟨rfl, rfl⟩
    have b6 := Below.refl w8.heap.size w8
    go_wp2
    exact post_of (by rfl) (by rfl) b6 (by rfl)
  case r1g10 =>
    intro w9 hb
    refine over_nil ?_
    go_wp2
    first | exact post_of (by rfl) (by rfl) (Below.refl _ _) (by rfl) | exact rfl
  case r1g11 =>
    intro w9 hb
    refine over_some (ds1 := [15]) (ds2 := []) [(.pointer (some ⟨g, 2, none⟩))] (by kernel_rfl) ?_
    refine over_nil ?_
    simp only [putAll, put_lit, List.set_cons_succ, List.set_cons_zero]
    obtain ⟨c0, c1, c2⟩ := (KA.out.next hb).cells
    go_wp2
    first | exact post_of (by rfl) (by rfl) (Below.refl _ _) (by rfl) | exact rfl
  case r1g12 =>
    intro w9 hb
    refine over_nil ?_
    go_wp2
    first | exact post_of (by rfl) (by rfl) (Below.refl _ _) (by rfl) | exact rfl
  case r1g13 =>
    intro w9 hb
    refine over_some (ds1 := [17]) (ds2 := []) [(.pointer (some ⟨h, 2, none⟩))] (by kernel_rfl) ?_
    refine over_nil ?_
    simp only [putAll, put_lit, List.set_cons_succ, List.set_cons_zero]
    obtain ⟨c0, c1, c2⟩ := (KB.out.next hb).cells
    go_wp2
    first | exact post_of (by rfl) (by rfl) (Below.refl _ _) (by rfl) | exact rfl
  case r1g14 =>
    intro w9 hb
    refine over_some (ds1 := [16, 18]) (ds2 := []) [(.int .u32 a.2.2), (.int .u32 b.2.2)] (by kernel_rfl) ?_
    refine over_nil ?_
    simp only [putAll, put_lit, List.set_cons_succ, List.set_cons_zero]
    go_wp2_with fail
    refine (h3 _).mono ?_
    rintro e w8 ⟨rfl, rfl⟩
    have b6 := Below.refl w8.heap.size w8
    go_wp2
    exact post_of (by rfl) (by rfl) b6 (by rfl)
  case r1g15 =>
    intro w9 hb
    refine over_some (ds1 := [9, 14, 19]) (ds2 := []) [(.int .i64 k1), (.int .i64 k2), (.int .i64 k3)] (by kernel_rfl) ?_
    refine over_nil ?_
    simp only [putAll, put_lit, List.set_cons_succ, List.set_cons_zero]
    go_wp2
    exact post_of (by rfl) (by rfl) (below_lit _ _) (by exact ⟨_, _, rfl, (Sv.lit w9 _ _ _ 3 rfl (by decide)).more (by simp)⟩)
  case r1g16 =>
    intro w9 hb
    refine over_pred rfl ?_
    rintro _ ⟨A8, c8, rfl, s8⟩
    refine over_nil ?_
    simp only [put_lit, List.set_cons_succ, List.set_cons_zero]
    go_wp2_with fail
    refine (h4 _ _ _ s8).mono ?_
    rintro e w8 ⟨rfl, rfl⟩
    have b6 := Below.refl w8.heap.size w8
    go_wp2
    exact post_of (by rfl) (by rfl) b6 (by rfl)
  case r1g17 =>
    intro w9 hb
    refine over_some (ds1 := [21]) (ds2 := []) [(.int .i64 o)] (by kernel_rfl) ?_
    refine over_nil ?_
    simp only [putAll, put_lit, List.set_cons_succ, List.set_cons_zero]
    go_wp2
    first | exact post_of (by rfl) (by rfl) (Below.refl _ _) (by rfl) | exact rfl
theorem refLess_any (a b : Id3) (w : World) : Calls Try.prog 14 #[(.agg #[.int .u8 a.1, .int .u16 a.2.1, .int .u32 a.2.2]), (.agg #[.int .u8 b.1, .int .u16 b.2.1, .int .u32 b.2.2])] w fun e w' => e = .returned (.bool (lessB a b)) ∧ Below w.heap.size w w' := by
  by_cases h1 : a.1 = b.1
  · by_cases h2 : a.2.1 = b.2.1
    · have HR : Hid (lessB a b = decide (a.2.2 < b.2.2)) := by unfold Hid lessB; rw [decide_eq_decide]; omega
      rw [HR.out]
      go_enter Try.func14, Try.ntmps14
      go_wp2
      go_ret
      exact ⟨rfl, Go.Joins.below_alloc2 w _ _⟩
    · have HR : Hid (lessB a b = decide (a.2.1 < b.2.1)) := by unfold Hid lessB; rw [decide_eq_decide]; omega
      rw [HR.out]
      go_enter Try.func14, Try.ntmps14
      go_wp2
      go_ret
      exact ⟨rfl, Go.Joins.below_alloc2 w _ _⟩
  · have HR : Hid (lessB a b = decide (a.1 < b.1)) := by unfold Hid lessB; rw [decide_eq_decide]; omega
    rw [HR.out]
    go_enter Try.func14, Try.ntmps14
    go_wp2
    go_ret
    exact ⟨rfl, Go.Joins.below_alloc2 w _ _⟩
end Go.Proofs.Ytdpcknfplognmaa
