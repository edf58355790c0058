/- Layer 7: IdentTells. -/
import Derived.Test.YtdpcknfplognmaaIm
namespace Go.Proofs.Ytdpcknfplognmaa
open Go.RowKit
set_option linter.unusedVariables false
theorem boxes2 (w : World) (x y : Id3) : Hid (IdBlk ((w.alloc (.cells #[.int .u8 x.1, .int .u16 x.2.1, .int .u32 x.2.2] 25)).alloc (.cells #[.int .u8 y.1, .int .u16 y.2.1, .int .u32 y.2.2] 25)) w.heap.size x) ∧ Hid (IdBlk ((w.alloc (.cells #[.int .u8 x.1, .int .u16 x.2.1, .int .u32 x.2.2] 25)).alloc (.cells #[.int .u8 y.1, .int .u16 y.2.1, .int .u32 y.2.2] 25)) (w.heap.size + 1) y) ∧
    Hid (Below w.heap.size w ((w.alloc (.cells #[.int .u8 x.1, .int .u16 x.2.1, .int .u32 x.2.2] 25)).alloc (.cells #[.int .u8 y.1, .int .u16 y.2.1, .int .u32 y.2.2] 25))) := by
  unfold Hid
  refine ⟨(IdBlk.new w x).next (below_lit _ _), ?_, thn (below_lit _ _) (below_lit _ _)⟩
  have := IdBlk.new (w.alloc (.cells #[.int .u8 x.1, .int .u16 x.2.1, .int .u32 x.2.2] 25)) y; simpa using this
set_option maxRecDepth 100000 in
set_option maxHeartbeats 20000000 in
theorem itells_walk (x y : Id3) (A : Option Addr) (n c : Nat) (l : List Id3) (nodes last : Int) (w : World) (hx : idR x) (hl : 0 ≤ last ∧ last ≤ 4294967295) (hs : Sd w w.heap.size A n c l) :
    Calls Try.prog 3 #[(.agg #[.int .u8 x.1, .int .u16 x.2.1, .int .u32 x.2.2]), (.agg #[.int .u8 y.1, .int .u16 y.2.1, .int .u32 y.2.2]), .slice A n c, .int .i64 nodes, .int .u32 last] w fun e w' => e = .returned (.bool true) ∧ Below w.heap.size w w' := by
  obtain ⟨⟨x0, x1⟩, ⟨y0, y1⟩, z0, z1⟩ := hx
  obtain ⟨l0, l1⟩ := hl
  obtain ⟨KX, KY, B⟩ := boxes2 w x y
  have SL := Lib.hid ((hs.next (below_lit w (.cells #[.int .u8 x.1, .int .u16 x.2.1, .int .u32 x.2.2] 25))).next (below_lit _ (.cells #[.int .u8 y.1, .int .u16 y.2.1, .int .u32 y.2.2] 25)))
  clear hs
  obtain ⟨r, HR⟩ : ∃ r, Hid (rightB x nodes last = r) := ⟨_, rfl⟩
  obtain ⟨s, HS⟩ : ∃ s, Hid (lessB x y = s) := ⟨_, rfl⟩
  obtain ⟨u, HU⟩ : ∃ u, Hid (decide (Rise l) = u) := ⟨_, rfl⟩
  obtain ⟨v, HV⟩ : ∃ v, Hid (decide (x ∈ l) = v) := ⟨_, rfl⟩
  obtain ⟨pl, HP⟩ : ∃ pl, Hid (putL l x = pl) := ⟨_, rfl⟩
  obtain ⟨dl, HD⟩ : ∃ dl, Hid (dropL l x = dl) := ⟨_, rfl⟩
  by_cases hn : n ≤ 200
  rotate_left
  · have i0 : (200 : Int) < (n : Int) := by omega
    clear hn
    go_enter Try.func3, Try.ntmps3
    go_upto_region 1 with fail
    generalize (w.alloc (.cells #[.int .u8 x.1, .int .u16 x.2.1, .int .u32 x.2.2] 25)).alloc (.cells #[.int .u8 y.1, .int .u16 y.2.1, .int .u32 y.2.2] 25) = w1 at *
    obtain ⟨gx, hgx⟩ : ∃ g, w.heap.size = g := ⟨_, rfl⟩
    rw [hgx] at KX KY ⊢
    clear hgx
    obtain ⟨gy, hgy⟩ : ∃ g, gx + 1 = g := ⟨_, rfl⟩
    rw [hgy] at KY ⊢
    clear hgy
    go_wp2_with fail
    have hc := awake_any w1
    refine hc.mono ?_
    clear hc
    rintro e w2 ⟨rfl, b5⟩
    replace KX := Lib.hid (KX.out.next b5)
    replace KY := Lib.hid (KY.out.next b5)
    replace SL := Lib.hid (SL.out.next b5)
    replace B := Lib.hid (thn B.out b5)
    clear b5
    go_wp2
    go_ret
    exact ⟨rfl, B.out⟩
  · have i0 : (n : Int) ≤ 200 := by omega
    have hn8 : n ≤ 1000000 := by omega
    clear hn
    by_cases er : last ≤ x.2.2
    · skip
      go_enter Try.func3, Try.ntmps3
      go_upto_region 1 with fail
      generalize (w.alloc (.cells #[.int .u8 x.1, .int .u16 x.2.1, .int .u32 x.2.2] 25)).alloc (.cells #[.int .u8 y.1, .int .u16 y.2.1, .int .u32 y.2.2] 25) = w1 at *
      obtain ⟨gx, hgx⟩ : ∃ g, w.heap.size = g := ⟨_, rfl⟩
      rw [hgx] at KX KY ⊢
      clear hgx
      obtain ⟨gy, hgy⟩ : ∃ g, gx + 1 = g := ⟨_, rfl⟩
      rw [hgy] at KY ⊢
      clear hgy
      obtain ⟨pKX, qKX, rKX⟩ := KX.out.cells
      go_wp2_with fail
      have hc := next_end x last w1 er
      refine hc.mono ?_
      clear hc
      clear pKX qKX rKX
      rintro e w2 ⟨rfl, b5⟩
      replace KX := Lib.hid (KX.out.next b5)
      replace KY := Lib.hid (KY.out.next b5)
      replace SL := Lib.hid (SL.out.next b5)
      replace B := Lib.hid (thn B.out b5)
      clear b5
      go_upto_region 4 with fail
      have hbl := below_lit w2 (.cells #[.int .u8 0, .int .u16 0, .int .u32 0] 25)
      replace KX := Lib.hid (KX.out.next hbl)
      replace KY := Lib.hid (KY.out.next hbl)
      replace SL := Lib.hid (SL.out.next hbl)
      replace B := Lib.hid (thn B.out hbl)
      clear hbl
      have KA : Hid (IdBlk (w2.alloc (.cells #[.int .u8 0, .int .u16 0, .int .u32 0] 25)) w2.heap.size (0, 0, 0)) := IdBlk.new w2 (0, 0, 0)
      generalize w2.alloc (.cells #[.int .u8 0, .int .u16 0, .int .u32 0] 25) = w3 at *
      obtain ⟨ga, hga⟩ : ∃ g, w2.heap.size = g := ⟨_, rfl⟩
      rw [hga] at KA ⊢
      clear hga
      obtain ⟨pKX, qKX, rKX⟩ := KX.out.cells
      go_wp2_with fail
      have hc := refNext_end x last w3 er
      refine hc.mono ?_
      clear hc
      clear pKX qKX rKX
      rintro e w4 ⟨rfl, b5⟩
      replace KX := Lib.hid (KX.out.next b5)
      replace KY := Lib.hid (KY.out.next b5)
      replace SL := Lib.hid (SL.out.next b5)
      replace KA := Lib.hid (KA.out.next b5)
      replace B := Lib.hid (thn B.out b5)
      clear b5
      go_upto_region 5 with fail
      have hbl := below_lit w4 (.cells #[.int .u8 0, .int .u16 0, .int .u32 0] 25)
      replace KX := Lib.hid (KX.out.next hbl)
      replace KY := Lib.hid (KY.out.next hbl)
      replace SL := Lib.hid (SL.out.next hbl)
      replace KA := Lib.hid (KA.out.next hbl)
      replace B := Lib.hid (thn B.out hbl)
      clear hbl
      have KB : Hid (IdBlk (w4.alloc (.cells #[.int .u8 0, .int .u16 0, .int .u32 0] 25)) w4.heap.size (0, 0, 0)) := IdBlk.new w4 (0, 0, 0)
      generalize w4.alloc (.cells #[.int .u8 0, .int .u16 0, .int .u32 0] 25) = w5 at *
      obtain ⟨gb, hgb⟩ : ∃ g, w4.heap.size = g := ⟨_, rfl⟩
      rw [hgb] at KB ⊢
      clear hgb
      have heq : ∀ w' : World, (binOp .eql 25 (.agg #[.int .u8 0, .int .u16 0, .int .u32 0]) (.agg #[.int .u8 0, .int .u16 0, .int .u32 0])).run Try.prog w' = .ok (.bool true) w' := fun w' => (ideql (0, 0, 0) (0, 0, 0) w').trans (by rw [decide_eq_true rfl])
      go_wp2_with fail
      refine wp_region_typed 65 [(31, .val (.agg #[.int .u8 x.1, .int .u16 x.2.1, .int .u32 x.2.2])), (32, .val (.int .i64 nodes)), (33, .val (.int .u32 last)), (34, .val (.bool r)), (35, .val (.agg #[.int .u8 x.1, .int .u16 x.2.1, .int .u32 x.2.2])), (36, .val (.int .i64 nodes)), (37, .val (.int .u32 last)), (38, .val (.bool r)), (39, .val (.bool true)), (40, .val (.bool true)), (41, .val (.agg #[.int .u8 x.1, .int .u16 x.2.1, .int .u32 x.2.2])), (42, .val (.agg #[.int .u8 y.1, .int .u16 y.2.1, .int .u32 y.2.2])), (43, .val (.bool s)), (44, .val (.agg #[.int .u8 x.1, .int .u16 x.2.1, .int .u32 x.2.2])), (45, .val (.agg #[.int .u8 y.1, .int .u16 y.2.1, .int .u32 y.2.2])), (46, .val (.bool s)), (47, .val (.bool true)), (48, .val (.bool true)), (49, .val (.bool true)), (50, .val (.agg #[.int .u8 0, .int .u16 0, .int .u32 0])), (51, .val (.agg #[.int .u8 0, .int .u16 0, .int .u32 0])), (52, .val (.bool true)), (53, .val (.bool true)), (54, .val (.bool true)), (55, .val (.int .i64 55)), (56, .val (.int .i64 55)), (57, .val (.bool true)), (58, .val (.bool true)), (59, .val (.bool true)), (60, .val (.slice A n c)), (61, .val (.bool u)), (62, .val (.slice A n c)), (63, .val (.bool u)), (64, .val (.bool true)), (65, .val (.bool true)), (66, .val (.bool true)), (67, .val (.slice A n c)), (68, .val (.agg #[.int .u8 x.1, .int .u16 x.2.1, .int .u32 x.2.2])), (69, .val (.bool v)), (70, .val (.slice A n c)), (71, .val (.agg #[.int .u8 x.1, .int .u16 x.2.1, .int .u32 x.2.2])), (72, .val (.bool v)), (73, .val (.bool true)), (74, .val (.bool true)), (75, .val (.bool true)), (76, .val (.slice A n c)), (77, .val (.agg #[.int .u8 x.1, .int .u16 x.2.1, .int .u32 x.2.2])), (78, tyD pl pl.length), (79, .val (.slice A n c)), (80, .val (.agg #[.int .u8 x.1, .int .u16 x.2.1, .int .u32 x.2.2])), (81, tyD pl pl.length), (82, .val (.bool true)), (83, .val (.bool true)), (84, .val (.bool true)), (85, .val (.slice A n c)), (86, .val (.agg #[.int .u8 x.1, .int .u16 x.2.1, .int .u32 x.2.2])), (87, tyD dl dl.length), (88, .val (.slice A n c)), (89, .val (.agg #[.int .u8 x.1, .int .u16 x.2.1, .int .u32 x.2.2])), (90, tyD dl dl.length), (91, .val (.bool true)), (92, .val (.bool true)), (93, .val (.bool true)), (94, .val (.bool true)), (95, .val (.bool true))]
        [[], [], [], [31, 32, 33], [], [], [], [35, 36, 37], [34, 38], [39], [40], [40], [40, 41, 42], [40], [40], [40, 44, 45], [40, 43, 46], [40, 47], [48], [49], [49], [49, 50, 51], [49, 52], [53], [54], [54], [54, 55, 56], [54, 57], [58], [59], [59, 60], [59], [59, 62], [59, 61, 63], [59, 64], [65], [66], [66], [66, 67, 68], [66], [66], [66, 70, 71], [66, 69, 72], [66, 73], [74], [75], [75], [75, 76, 77], [75], [75], [75, 79, 80], [75, 78, 81], [75, 82], [83], [84], [84], [84, 85, 86], [84], [84], [84, 88, 89], [84, 87, 90], [84, 91], [92], [93], [93, 94]] (by kernel_rfl) (by kernel_rfl) ?_ ?_
      rotate_left
      · intro w9 hb
        simp only [List.take_succ_cons, List.take_zero, List.drop_succ_cons, List.drop_zero]
        refine over_ds (ds := [31, 32, 33, 34, 35, 36, 37, 38, 39, 40, 41, 42, 43, 44, 45, 46, 47, 48, 49, 50, 51, 52, 53, 54, 55, 56, 57, 58, 59, 60, 61, 62, 63, 64, 65, 66, 67, 68, 69, 70, 71, 72, 73, 74, 75, 76, 77, 78, 79, 80, 81, 82, 83, 84, 85, 86, 87, 88, 89, 90, 91, 92, 93, 94, 95]) (by kernel_rfl) ?_
        refine over_some (ds1 := [31, 32, 33, 34, 35, 36, 37, 38, 39, 40, 41, 42, 43, 44, 45, 46, 47, 48, 49, 50, 51, 52, 53, 54, 55, 56, 57, 58, 59, 60, 61, 62, 63, 64, 65, 66, 67, 68, 69, 70, 71, 72, 73, 74, 75, 76, 77]) (ds2 := [78, 79, 80, 81, 82, 83, 84, 85, 86, 87, 88, 89, 90, 91, 92, 93, 94, 95]) [(.agg #[.int .u8 x.1, .int .u16 x.2.1, .int .u32 x.2.2]), (.int .i64 nodes), (.int .u32 last), (.bool r), (.agg #[.int .u8 x.1, .int .u16 x.2.1, .int .u32 x.2.2]), (.int .i64 nodes), (.int .u32 last), (.bool r), (.bool true), (.bool true), (.agg #[.int .u8 x.1, .int .u16 x.2.1, .int .u32 x.2.2]), (.agg #[.int .u8 y.1, .int .u16 y.2.1, .int .u32 y.2.2]), (.bool s), (.agg #[.int .u8 x.1, .int .u16 x.2.1, .int .u32 x.2.2]), (.agg #[.int .u8 y.1, .int .u16 y.2.1, .int .u32 y.2.2]), (.bool s), (.bool true), (.bool true), (.bool true), (.agg #[.int .u8 0, .int .u16 0, .int .u32 0]), (.agg #[.int .u8 0, .int .u16 0, .int .u32 0]), (.bool true), (.bool true), (.bool true), (.int .i64 55), (.int .i64 55), (.bool true), (.bool true), (.bool true), (.slice A n c), (.bool u), (.slice A n c), (.bool u), (.bool true), (.bool true), (.bool true), (.slice A n c), (.agg #[.int .u8 x.1, .int .u16 x.2.1, .int .u32 x.2.2]), (.bool v), (.slice A n c), (.agg #[.int .u8 x.1, .int .u16 x.2.1, .int .u32 x.2.2]), (.bool v), (.bool true), (.bool true), (.bool true), (.slice A n c), (.agg #[.int .u8 x.1, .int .u16 x.2.1, .int .u32 x.2.2])] (by kernel_rfl) ?_
        refine over_pred rfl ?_
        rintro _ ⟨A78, c78, rfl, s78⟩
        refine over_some (ds1 := [79, 80]) (ds2 := [81, 82, 83, 84, 85, 86, 87, 88, 89, 90, 91, 92, 93, 94, 95]) [(.slice A n c), (.agg #[.int .u8 x.1, .int .u16 x.2.1, .int .u32 x.2.2])] (by kernel_rfl) ?_
        refine over_pred rfl ?_
        rintro _ ⟨A81, c81, rfl, s81⟩
        refine over_some (ds1 := [82, 83, 84, 85, 86]) (ds2 := [87, 88, 89, 90, 91, 92, 93, 94, 95]) [(.bool true), (.bool true), (.bool true), (.slice A n c), (.agg #[.int .u8 x.1, .int .u16 x.2.1, .int .u32 x.2.2])] (by kernel_rfl) ?_
        refine over_pred rfl ?_
        rintro _ ⟨A87, c87, rfl, s87⟩
        refine over_some (ds1 := [88, 89]) (ds2 := [90, 91, 92, 93, 94, 95]) [(.slice A n c), (.agg #[.int .u8 x.1, .int .u16 x.2.1, .int .u32 x.2.2])] (by kernel_rfl) ?_
        refine over_pred rfl ?_
        rintro _ ⟨A90, c90, rfl, s90⟩
        refine over_some (ds1 := [91, 92, 93, 94, 95]) (ds2 := []) [(.bool true), (.bool true), (.bool true), (.bool true), (.bool true)] (by kernel_rfl) ?_
        refine over_nil ?_
        simp only [putAll, put_lit, List.set_cons_succ, List.set_cons_zero]
        have BB := Lib.hid (thn B.out hb)
        clear hb s78 s81 s87 s90
        go_wp2
        go_ret
        exact ⟨rfl, BB.out⟩
      simp only [List.take_succ_cons, List.take_zero]
      refine ⟨?r1g0, ?r1g1, ?r1g2, ?r1g3, ?r1g4, ?r1g5, ?r1g6, ?r1g7, ?r1g8, ?r1g9, ?r1g10, ?r1g11, ?r1g12, ?r1g13, ?r1g14, ?r1g15, ?r1g16, ?r1g17, ?r1g18, ?r1g19, ?r1g20, ?r1g21, ?r1g22, ?r1g23, ?r1g24, ?r1g25, ?r1g26, ?r1g27, ?r1g28, ?r1g29, ?r1g30, ?r1g31, ?r1g32, ?r1g33, ?r1g34, ?r1g35, ?r1g36, ?r1g37, ?r1g38, ?r1g39, ?r1g40, ?r1g41, ?r1g42, ?r1g43, ?r1g44, ?r1g45, ?r1g46, ?r1g47, ?r1g48, ?r1g49, ?r1g50, ?r1g51, ?r1g52, ?r1g53, ?r1g54, ?r1g55, ?r1g56, ?r1g57, ?r1g58, ?r1g59, ?r1g60, ?r1g61, ?r1g62, ?r1g63, ?r1g64, trivial⟩
      case r1g0 =>
        intro w9 hb
        refine over_nil ?_
        obtain ⟨p0, q0, r0⟩ := (KX.out.next hb).cells
        go_wp2
        first | exact post_of (by rfl) (by rfl) (Below.refl _ _) (by rfl) | exact rfl
      case r1g1 =>
        intro w9 hb
        refine over_nil ?_
        go_wp2
        first | exact post_of (by rfl) (by rfl) (Below.refl _ _) (by rfl) | exact rfl
      case r1g2 =>
        intro w9 hb
        refine over_nil ?_
        go_wp2
        first | exact post_of (by rfl) (by rfl) (Below.refl _ _) (by rfl) | exact rfl
      case r1g3 =>
        intro w9 hb
        refine over_some (ds1 := [31, 32, 33]) (ds2 := []) [(.agg #[.int .u8 x.1, .int .u16 x.2.1, .int .u32 x.2.2]), (.int .i64 nodes), (.int .u32 last)] (by kernel_rfl) ?_
        refine over_nil ?_
        simp only [putAll, put_lit, List.set_cons_succ, List.set_cons_zero]
        go_wp2_with fail
        have hc2 := right_any x nodes last w9 x0 x1
        rw [HR.out] at hc2
        refine hc2.mono ?_
        clear hc2
        rintro e w8 ⟨rfl, b6⟩
        go_wp2
        exact post_of (by rfl) (by rfl) b6 (by rfl)
      case r1g4 =>
        intro w9 hb
        refine over_nil ?_
        obtain ⟨p0, q0, r0⟩ := (KX.out.next hb).cells
        go_wp2
        first | exact post_of (by rfl) (by rfl) (Below.refl _ _) (by rfl) | exact rfl
      case r1g5 =>
        intro w9 hb
        refine over_nil ?_
        go_wp2
        first | exact post_of (by rfl) (by rfl) (Below.refl _ _) (by rfl) | exact rfl
      case r1g6 =>
        intro w9 hb
        refine over_nil ?_
        go_wp2
        first | exact post_of (by rfl) (by rfl) (Below.refl _ _) (by rfl) | exact rfl
      case r1g7 =>
        intro w9 hb
        refine over_some (ds1 := [35, 36, 37]) (ds2 := []) [(.agg #[.int .u8 x.1, .int .u16 x.2.1, .int .u32 x.2.2]), (.int .i64 nodes), (.int .u32 last)] (by kernel_rfl) ?_
        refine over_nil ?_
        simp only [putAll, put_lit, List.set_cons_succ, List.set_cons_zero]
        go_wp2_with fail
        have hc2 := refRight_any x nodes last w9 x0 x1
        rw [HR.out] at hc2
        refine hc2.mono ?_
        clear hc2
        rintro e w8 ⟨rfl, b6⟩
        go_wp2
        exact post_of (by rfl) (by rfl) b6 (by rfl)
      case r1g8 =>
        intro w9 hb
        refine over_some (ds1 := [34, 38]) (ds2 := []) [(.bool r), (.bool r)] (by kernel_rfl) ?_
        refine over_nil ?_
        simp only [putAll, put_lit, List.set_cons_succ, List.set_cons_zero]
        go_wp2
        first | exact post_of (by rfl) (by rfl) (Below.refl _ _) (by rfl) | exact rfl
      case r1g9 =>
        intro w9 hb
        refine over_some (ds1 := [39]) (ds2 := []) [(.bool true)] (by kernel_rfl) ?_
        refine over_nil ?_
        simp only [putAll, put_lit, List.set_cons_succ, List.set_cons_zero]
        go_wp2
        first | exact post_of (by rfl) (by rfl) (Below.refl _ _) (by rfl) | exact rfl
      case r1g10 =>
        intro w9 hb
        refine over_some (ds1 := [40]) (ds2 := []) [(.bool true)] (by kernel_rfl) ?_
        refine over_nil ?_
        simp only [putAll, put_lit, List.set_cons_succ, List.set_cons_zero]
        obtain ⟨p0, q0, r0⟩ := (KX.out.next hb).cells
        go_wp2
        first | exact post_of (by rfl) (by rfl) (Below.refl _ _) (by rfl) | exact rfl
      case r1g11 =>
        intro w9 hb
        refine over_some (ds1 := [40]) (ds2 := []) [(.bool true)] (by kernel_rfl) ?_
        refine over_nil ?_
        simp only [putAll, put_lit, List.set_cons_succ, List.set_cons_zero]
        obtain ⟨p0, q0, r0⟩ := (KY.out.next hb).cells
        go_wp2
        first | exact post_of (by rfl) (by rfl) (Below.refl _ _) (by rfl) | exact rfl
      case r1g12 =>
        intro w9 hb
        refine over_some (ds1 := [40, 41, 42]) (ds2 := []) [(.bool true), (.agg #[.int .u8 x.1, .int .u16 x.2.1, .int .u32 x.2.2]), (.agg #[.int .u8 y.1, .int .u16 y.2.1, .int .u32 y.2.2])] (by kernel_rfl) ?_
        refine over_nil ?_
        simp only [putAll, put_lit, List.set_cons_succ, List.set_cons_zero]
        go_wp2_with fail
        have hc2 := less_any x y w9
        rw [HS.out] at hc2
        refine hc2.mono ?_
        clear hc2
        rintro e w8 ⟨rfl, b6⟩
        go_wp2
        exact post_of (by rfl) (by rfl) b6 (by rfl)
      case r1g13 =>
        intro w9 hb
        refine over_some (ds1 := [40]) (ds2 := []) [(.bool true)] (by kernel_rfl) ?_
        refine over_nil ?_
        simp only [putAll, put_lit, List.set_cons_succ, List.set_cons_zero]
        obtain ⟨p0, q0, r0⟩ := (KX.out.next hb).cells
        go_wp2
        first | exact post_of (by rfl) (by rfl) (Below.refl _ _) (by rfl) | exact rfl
      case r1g14 =>
        intro w9 hb
        refine over_some (ds1 := [40]) (ds2 := []) [(.bool true)] (by kernel_rfl) ?_
        refine over_nil ?_
        simp only [putAll, put_lit, List.set_cons_succ, List.set_cons_zero]
        obtain ⟨p0, q0, r0⟩ := (KY.out.next hb).cells
        go_wp2
        first | exact post_of (by rfl) (by rfl) (Below.refl _ _) (by rfl) | exact rfl
      case r1g15 =>
        intro w9 hb
        refine over_some (ds1 := [40, 44, 45]) (ds2 := []) [(.bool true), (.agg #[.int .u8 x.1, .int .u16 x.2.1, .int .u32 x.2.2]), (.agg #[.int .u8 y.1, .int .u16 y.2.1, .int .u32 y.2.2])] (by kernel_rfl) ?_
        refine over_nil ?_
        simp only [putAll, put_lit, List.set_cons_succ, List.set_cons_zero]
        go_wp2_with fail
        have hc2 := refLess_any x y w9
        rw [HS.out] at hc2
        refine hc2.mono ?_
        clear hc2
        rintro e w8 ⟨rfl, b6⟩
        go_wp2
        exact post_of (by rfl) (by rfl) b6 (by rfl)
      case r1g16 =>
        intro w9 hb
        refine over_some (ds1 := [40, 43, 46]) (ds2 := []) [(.bool true), (.bool s), (.bool s)] (by kernel_rfl) ?_
        refine over_nil ?_
        simp only [putAll, put_lit, List.set_cons_succ, List.set_cons_zero]
        go_wp2
        first | exact post_of (by rfl) (by rfl) (Below.refl _ _) (by rfl) | exact rfl
      case r1g17 =>
        intro w9 hb
        refine over_some (ds1 := [40, 47]) (ds2 := []) [(.bool true), (.bool true)] (by kernel_rfl) ?_
        refine over_nil ?_
        simp only [putAll, put_lit, List.set_cons_succ, List.set_cons_zero]
        go_wp2
        first | exact post_of (by rfl) (by rfl) (Below.refl _ _) (by rfl) | exact rfl
      case r1g18 =>
        intro w9 hb
        refine over_some (ds1 := [48]) (ds2 := []) [(.bool true)] (by kernel_rfl) ?_
        refine over_nil ?_
        simp only [putAll, put_lit, List.set_cons_succ, List.set_cons_zero]
        go_wp2
        first | exact post_of (by rfl) (by rfl) (Below.refl _ _) (by rfl) | exact rfl
      case r1g19 =>
        intro w9 hb
        refine over_some (ds1 := [49]) (ds2 := []) [(.bool true)] (by kernel_rfl) ?_
        refine over_nil ?_
        simp only [putAll, put_lit, List.set_cons_succ, List.set_cons_zero]
        obtain ⟨p0, q0, r0⟩ := (KA.out.next hb).cells
        go_wp2
        first | exact post_of (by rfl) (by rfl) (Below.refl _ _) (by rfl) | exact rfl
      case r1g20 =>
        intro w9 hb
        refine over_some (ds1 := [49]) (ds2 := []) [(.bool true)] (by kernel_rfl) ?_
        refine over_nil ?_
        simp only [putAll, put_lit, List.set_cons_succ, List.set_cons_zero]
        obtain ⟨p0, q0, r0⟩ := (KB.out.next hb).cells
        go_wp2
        first | exact post_of (by rfl) (by rfl) (Below.refl _ _) (by rfl) | exact rfl
      case r1g21 =>
        intro w9 hb
        refine over_some (ds1 := [49, 50, 51]) (ds2 := []) [(.bool true), (.agg #[.int .u8 0, .int .u16 0, .int .u32 0]), (.agg #[.int .u8 0, .int .u16 0, .int .u32 0])] (by kernel_rfl) ?_
        refine over_nil ?_
        simp only [putAll, put_lit, List.set_cons_succ, List.set_cons_zero]
        go_wp2
        first | exact post_of (by rfl) (by rfl) (Below.refl _ _) (by rfl) | exact rfl
      case r1g22 =>
        intro w9 hb
        refine over_some (ds1 := [49, 52]) (ds2 := []) [(.bool true), (.bool true)] (by kernel_rfl) ?_
        refine over_nil ?_
        simp only [putAll, put_lit, List.set_cons_succ, List.set_cons_zero]
        go_wp2
        first | exact post_of (by rfl) (by rfl) (Below.refl _ _) (by rfl) | exact rfl
      case r1g23 =>
        intro w9 hb
        refine over_some (ds1 := [53]) (ds2 := []) [(.bool true)] (by kernel_rfl) ?_
        refine over_nil ?_
        simp only [putAll, put_lit, List.set_cons_succ, List.set_cons_zero]
        go_wp2
        first | exact post_of (by rfl) (by rfl) (Below.refl _ _) (by rfl) | exact rfl
      case r1g24 =>
        intro w9 hb
        refine over_some (ds1 := [54]) (ds2 := []) [(.bool true)] (by kernel_rfl) ?_
        refine over_nil ?_
        simp only [putAll, put_lit, List.set_cons_succ, List.set_cons_zero]
        go_wp2
        first | exact post_of (by rfl) (by rfl) (Below.refl _ _) (by rfl) | exact rfl
      case r1g25 =>
        intro w9 hb
        refine over_some (ds1 := [54]) (ds2 := []) [(.bool true)] (by kernel_rfl) ?_
        refine over_nil ?_
        simp only [putAll, put_lit, List.set_cons_succ, List.set_cons_zero]
        go_wp2
        first | exact post_of (by rfl) (by rfl) (Below.refl _ _) (by rfl) | exact rfl
      case r1g26 =>
        intro w9 hb
        refine over_some (ds1 := [54, 55, 56]) (ds2 := []) [(.bool true), (.int .i64 55), (.int .i64 55)] (by kernel_rfl) ?_
        refine over_nil ?_
        simp only [putAll, put_lit, List.set_cons_succ, List.set_cons_zero]
        go_wp2
        first | exact post_of (by rfl) (by rfl) (Below.refl _ _) (by rfl) | exact rfl
      case r1g27 =>
        intro w9 hb
        refine over_some (ds1 := [54, 57]) (ds2 := []) [(.bool true), (.bool true)] (by kernel_rfl) ?_
        refine over_nil ?_
        simp only [putAll, put_lit, List.set_cons_succ, List.set_cons_zero]
        go_wp2
        first | exact post_of (by rfl) (by rfl) (Below.refl _ _) (by rfl) | exact rfl
      case r1g28 =>
        intro w9 hb
        refine over_some (ds1 := [58]) (ds2 := []) [(.bool true)] (by kernel_rfl) ?_
        refine over_nil ?_
        simp only [putAll, put_lit, List.set_cons_succ, List.set_cons_zero]
        go_wp2
        first | exact post_of (by rfl) (by rfl) (Below.refl _ _) (by rfl) | exact rfl
      case r1g29 =>
        intro w9 hb
        refine over_some (ds1 := [59]) (ds2 := []) [(.bool true)] (by kernel_rfl) ?_
        refine over_nil ?_
        simp only [putAll, put_lit, List.set_cons_succ, List.set_cons_zero]
        go_wp2
        first | exact post_of (by rfl) (by rfl) (Below.refl _ _) (by rfl) | exact rfl
      case r1g30 =>
        intro w9 hb
        refine over_some (ds1 := [59, 60]) (ds2 := []) [(.bool true), (.slice A n c)] (by kernel_rfl) ?_
        refine over_nil ?_
        simp only [putAll, put_lit, List.set_cons_succ, List.set_cons_zero]
        go_wp2_with fail
        have hc2 := rising_any A n c l w9 (SL.out.next hb)
        rw [HU.out] at hc2
        refine hc2.mono ?_
        clear hc2
        rintro e w8 ⟨rfl, b6⟩
        go_wp2
        exact post_of (by rfl) (by rfl) b6 (by rfl)
      case r1g31 =>
        intro w9 hb
        refine over_some (ds1 := [59]) (ds2 := []) [(.bool true)] (by kernel_rfl) ?_
        refine over_nil ?_
        simp only [putAll, put_lit, List.set_cons_succ, List.set_cons_zero]
        go_wp2
        first | exact post_of (by rfl) (by rfl) (Below.refl _ _) (by rfl) | exact rfl
      case r1g32 =>
        intro w9 hb
        refine over_some (ds1 := [59, 62]) (ds2 := []) [(.bool true), (.slice A n c)] (by kernel_rfl) ?_
        refine over_nil ?_
        simp only [putAll, put_lit, List.set_cons_succ, List.set_cons_zero]
        go_wp2_with fail
        have hc2 := refRising_any A n c l w9 (SL.out.next hb)
        rw [HU.out] at hc2
        refine hc2.mono ?_
        clear hc2
        rintro e w8 ⟨rfl, b6⟩
        go_wp2
        exact post_of (by rfl) (by rfl) b6 (by rfl)
      case r1g33 =>
        intro w9 hb
        refine over_some (ds1 := [59, 61, 63]) (ds2 := []) [(.bool true), (.bool u), (.bool u)] (by kernel_rfl) ?_
        refine over_nil ?_
        simp only [putAll, put_lit, List.set_cons_succ, List.set_cons_zero]
        go_wp2
        first | exact post_of (by rfl) (by rfl) (Below.refl _ _) (by rfl) | exact rfl
      case r1g34 =>
        intro w9 hb
        refine over_some (ds1 := [59, 64]) (ds2 := []) [(.bool true), (.bool true)] (by kernel_rfl) ?_
        refine over_nil ?_
        simp only [putAll, put_lit, List.set_cons_succ, List.set_cons_zero]
        go_wp2
        first | exact post_of (by rfl) (by rfl) (Below.refl _ _) (by rfl) | exact rfl
      case r1g35 =>
        intro w9 hb
        refine over_some (ds1 := [65]) (ds2 := []) [(.bool true)] (by kernel_rfl) ?_
        refine over_nil ?_
        simp only [putAll, put_lit, List.set_cons_succ, List.set_cons_zero]
        go_wp2
        first | exact post_of (by rfl) (by rfl) (Below.refl _ _) (by rfl) | exact rfl
      case r1g36 =>
        intro w9 hb
        refine over_some (ds1 := [66]) (ds2 := []) [(.bool true)] (by kernel_rfl) ?_
        refine over_nil ?_
        simp only [putAll, put_lit, List.set_cons_succ, List.set_cons_zero]
        go_wp2
        first | exact post_of (by rfl) (by rfl) (Below.refl _ _) (by rfl) | exact rfl
      case r1g37 =>
        intro w9 hb
        refine over_some (ds1 := [66]) (ds2 := []) [(.bool true)] (by kernel_rfl) ?_
        refine over_nil ?_
        simp only [putAll, put_lit, List.set_cons_succ, List.set_cons_zero]
        obtain ⟨p0, q0, r0⟩ := (KX.out.next hb).cells
        go_wp2
        first | exact post_of (by rfl) (by rfl) (Below.refl _ _) (by rfl) | exact rfl
      case r1g38 =>
        intro w9 hb
        refine over_some (ds1 := [66, 67, 68]) (ds2 := []) [(.bool true), (.slice A n c), (.agg #[.int .u8 x.1, .int .u16 x.2.1, .int .u32 x.2.2])] (by kernel_rfl) ?_
        refine over_nil ?_
        simp only [putAll, put_lit, List.set_cons_succ, List.set_cons_zero]
        go_wp2_with fail
        have hc2 := has_any A n c l x w9 (SL.out.next hb)
        rw [HV.out] at hc2
        refine hc2.mono ?_
        clear hc2
        rintro e w8 ⟨rfl, b6⟩
        go_wp2
        exact post_of (by rfl) (by rfl) b6 (by rfl)
      case r1g39 =>
        intro w9 hb
        refine over_some (ds1 := [66]) (ds2 := []) [(.bool true)] (by kernel_rfl) ?_
        refine over_nil ?_
        simp only [putAll, put_lit, List.set_cons_succ, List.set_cons_zero]
        go_wp2
        first | exact post_of (by rfl) (by rfl) (Below.refl _ _) (by rfl) | exact rfl
      case r1g40 =>
        intro w9 hb
        refine over_some (ds1 := [66]) (ds2 := []) [(.bool true)] (by kernel_rfl) ?_
        refine over_nil ?_
        simp only [putAll, put_lit, List.set_cons_succ, List.set_cons_zero]
        obtain ⟨p0, q0, r0⟩ := (KX.out.next hb).cells
        go_wp2
        first | exact post_of (by rfl) (by rfl) (Below.refl _ _) (by rfl) | exact rfl
      case r1g41 =>
        intro w9 hb
        refine over_some (ds1 := [66, 70, 71]) (ds2 := []) [(.bool true), (.slice A n c), (.agg #[.int .u8 x.1, .int .u16 x.2.1, .int .u32 x.2.2])] (by kernel_rfl) ?_
        refine over_nil ?_
        simp only [putAll, put_lit, List.set_cons_succ, List.set_cons_zero]
        go_wp2_with fail
        have hc2 := refHas_any A n c l x w9 (SL.out.next hb)
        rw [HV.out] at hc2
        refine hc2.mono ?_
        clear hc2
        rintro e w8 ⟨rfl, b6⟩
        go_wp2
        exact post_of (by rfl) (by rfl) b6 (by rfl)
      case r1g42 =>
        intro w9 hb
        refine over_some (ds1 := [66, 69, 72]) (ds2 := []) [(.bool true), (.bool v), (.bool v)] (by kernel_rfl) ?_
        refine over_nil ?_
        simp only [putAll, put_lit, List.set_cons_succ, List.set_cons_zero]
        go_wp2
        first | exact post_of (by rfl) (by rfl) (Below.refl _ _) (by rfl) | exact rfl
      case r1g43 =>
        intro w9 hb
        refine over_some (ds1 := [66, 73]) (ds2 := []) [(.bool true), (.bool true)] (by kernel_rfl) ?_
        refine over_nil ?_
        simp only [putAll, put_lit, List.set_cons_succ, List.set_cons_zero]
        go_wp2
        first | exact post_of (by rfl) (by rfl) (Below.refl _ _) (by rfl) | exact rfl
      case r1g44 =>
        intro w9 hb
        refine over_some (ds1 := [74]) (ds2 := []) [(.bool true)] (by kernel_rfl) ?_
        refine over_nil ?_
        simp only [putAll, put_lit, List.set_cons_succ, List.set_cons_zero]
        go_wp2
        first | exact post_of (by rfl) (by rfl) (Below.refl _ _) (by rfl) | exact rfl
      case r1g45 =>
        intro w9 hb
        refine over_some (ds1 := [75]) (ds2 := []) [(.bool true)] (by kernel_rfl) ?_
        refine over_nil ?_
        simp only [putAll, put_lit, List.set_cons_succ, List.set_cons_zero]
        go_wp2
        first | exact post_of (by rfl) (by rfl) (Below.refl _ _) (by rfl) | exact rfl
      case r1g46 =>
        intro w9 hb
        refine over_some (ds1 := [75]) (ds2 := []) [(.bool true)] (by kernel_rfl) ?_
        refine over_nil ?_
        simp only [putAll, put_lit, List.set_cons_succ, List.set_cons_zero]
        obtain ⟨p0, q0, r0⟩ := (KX.out.next hb).cells
        go_wp2
        first | exact post_of (by rfl) (by rfl) (Below.refl _ _) (by rfl) | exact rfl
      case r1g47 =>
        intro w9 hb
        refine over_some (ds1 := [75, 76, 77]) (ds2 := []) [(.bool true), (.slice A n c), (.agg #[.int .u8 x.1, .int .u16 x.2.1, .int .u32 x.2.2])] (by kernel_rfl) ?_
        refine over_nil ?_
        simp only [putAll, put_lit, List.set_cons_succ, List.set_cons_zero]
        go_wp2_with fail
        have hc2 := put_any A n c l x w9 (SL.out.next hb) hn8
        rw [HP.out] at hc2
        refine hc2.mono ?_
        clear hc2
        rintro e w8 ⟨A9, c9, rfl, s9, b6⟩
        have S9 := Lib.hid s9
        clear s9
        go_wp2
        exact post_of (by rfl) (by rfl) b6 (by exact ⟨_, _, rfl, S9.out⟩)
      case r1g48 =>
        intro w9 hb
        refine over_some (ds1 := [75]) (ds2 := []) [(.bool true)] (by kernel_rfl) ?_
        refine over_nil ?_
        simp only [putAll, put_lit, List.set_cons_succ, List.set_cons_zero]
        go_wp2
        first | exact post_of (by rfl) (by rfl) (Below.refl _ _) (by rfl) | exact rfl
      case r1g49 =>
        intro w9 hb
        refine over_some (ds1 := [75]) (ds2 := []) [(.bool true)] (by kernel_rfl) ?_
        refine over_nil ?_
        simp only [putAll, put_lit, List.set_cons_succ, List.set_cons_zero]
        obtain ⟨p0, q0, r0⟩ := (KX.out.next hb).cells
        go_wp2
        first | exact post_of (by rfl) (by rfl) (Below.refl _ _) (by rfl) | exact rfl
      case r1g50 =>
        intro w9 hb
        refine over_some (ds1 := [75, 79, 80]) (ds2 := []) [(.bool true), (.slice A n c), (.agg #[.int .u8 x.1, .int .u16 x.2.1, .int .u32 x.2.2])] (by kernel_rfl) ?_
        refine over_nil ?_
        simp only [putAll, put_lit, List.set_cons_succ, List.set_cons_zero]
        go_wp2_with fail
        have hc2 := refPut_any A n c l x w9 (SL.out.next hb) hn8
        rw [HP.out] at hc2
        refine hc2.mono ?_
        clear hc2
        rintro e w8 ⟨A9, c9, rfl, s9, b6⟩
        have S9 := Lib.hid s9
        clear s9
        go_wp2
        exact post_of (by rfl) (by rfl) b6 (by exact ⟨_, _, rfl, S9.out⟩)
      case r1g51 =>
        intro w9 hb
        refine over_some (ds1 := [75]) (ds2 := [78, 81]) [(.bool true)] (by kernel_rfl) ?_
        refine over_pred rfl ?_
        rintro _ ⟨A78, c78, rfl, s78⟩
        refine over_pred rfl ?_
        rintro _ ⟨A81, c81, rfl, s81⟩
        refine over_nil ?_
        simp only [putAll, put_lit, List.set_cons_succ, List.set_cons_zero]
        go_wp2_with fail
        have hc2 := same_any A78 pl.length c78 pl A81 pl.length c81 pl w9 s78 s81
        rw [decide_eq_true rfl] at hc2
        refine hc2.mono ?_
        clear hc2
        rintro e w8 ⟨rfl, b6⟩
        go_wp2
        exact post_of (by rfl) (by rfl) b6 (by rfl)
      case r1g52 =>
        intro w9 hb
        refine over_some (ds1 := [75, 82]) (ds2 := []) [(.bool true), (.bool true)] (by kernel_rfl) ?_
        refine over_nil ?_
        simp only [putAll, put_lit, List.set_cons_succ, List.set_cons_zero]
        go_wp2
        first | exact post_of (by rfl) (by rfl) (Below.refl _ _) (by rfl) | exact rfl
      case r1g53 =>
        intro w9 hb
        refine over_some (ds1 := [83]) (ds2 := []) [(.bool true)] (by kernel_rfl) ?_
        refine over_nil ?_
        simp only [putAll, put_lit, List.set_cons_succ, List.set_cons_zero]
        go_wp2
        first | exact post_of (by rfl) (by rfl) (Below.refl _ _) (by rfl) | exact rfl
      case r1g54 =>
        intro w9 hb
        refine over_some (ds1 := [84]) (ds2 := []) [(.bool true)] (by kernel_rfl) ?_
        refine over_nil ?_
        simp only [putAll, put_lit, List.set_cons_succ, List.set_cons_zero]
        go_wp2
        first | exact post_of (by rfl) (by rfl) (Below.refl _ _) (by rfl) | exact rfl
      case r1g55 =>
        intro w9 hb
        refine over_some (ds1 := [84]) (ds2 := []) [(.bool true)] (by kernel_rfl) ?_
        refine over_nil ?_
        simp only [putAll, put_lit, List.set_cons_succ, List.set_cons_zero]
        obtain ⟨p0, q0, r0⟩ := (KX.out.next hb).cells
        go_wp2
        first | exact post_of (by rfl) (by rfl) (Below.refl _ _) (by rfl) | exact rfl
      case r1g56 =>
        intro w9 hb
        refine over_some (ds1 := [84, 85, 86]) (ds2 := []) [(.bool true), (.slice A n c), (.agg #[.int .u8 x.1, .int .u16 x.2.1, .int .u32 x.2.2])] (by kernel_rfl) ?_
        refine over_nil ?_
        simp only [putAll, put_lit, List.set_cons_succ, List.set_cons_zero]
        go_wp2_with fail
        have hc2 := drop_any A n c l x w9 (SL.out.next hb) hn8
        rw [HD.out] at hc2
        refine hc2.mono ?_
        clear hc2
        rintro e w8 ⟨A9, c9, rfl, s9, b6⟩
        have S9 := Lib.hid s9
        clear s9
        go_wp2
        exact post_of (by rfl) (by rfl) b6 (by exact ⟨_, _, rfl, S9.out⟩)
      case r1g57 =>
        intro w9 hb
        refine over_some (ds1 := [84]) (ds2 := []) [(.bool true)] (by kernel_rfl) ?_
        refine over_nil ?_
        simp only [putAll, put_lit, List.set_cons_succ, List.set_cons_zero]
        go_wp2
        first | exact post_of (by rfl) (by rfl) (Below.refl _ _) (by rfl) | exact rfl
      case r1g58 =>
        intro w9 hb
        refine over_some (ds1 := [84]) (ds2 := []) [(.bool true)] (by kernel_rfl) ?_
        refine over_nil ?_
        simp only [putAll, put_lit, List.set_cons_succ, List.set_cons_zero]
        obtain ⟨p0, q0, r0⟩ := (KX.out.next hb).cells
        go_wp2
        first | exact post_of (by rfl) (by rfl) (Below.refl _ _) (by rfl) | exact rfl
      case r1g59 =>
        intro w9 hb
        refine over_some (ds1 := [84, 88, 89]) (ds2 := []) [(.bool true), (.slice A n c), (.agg #[.int .u8 x.1, .int .u16 x.2.1, .int .u32 x.2.2])] (by kernel_rfl) ?_
        refine over_nil ?_
        simp only [putAll, put_lit, List.set_cons_succ, List.set_cons_zero]
        go_wp2_with fail
        have hc2 := refDrop_any A n c l x w9 (SL.out.next hb) hn8
        rw [HD.out] at hc2
        refine hc2.mono ?_
        clear hc2
        rintro e w8 ⟨A9, c9, rfl, s9, b6⟩
        have S9 := Lib.hid s9
        clear s9
        go_wp2
        exact post_of (by rfl) (by rfl) b6 (by exact ⟨_, _, rfl, S9.out⟩)
      case r1g60 =>
        intro w9 hb
        refine over_some (ds1 := [84]) (ds2 := [87, 90]) [(.bool true)] (by kernel_rfl) ?_
        refine over_pred rfl ?_
        rintro _ ⟨A87, c87, rfl, s87⟩
        refine over_pred rfl ?_
        rintro _ ⟨A90, c90, rfl, s90⟩
        refine over_nil ?_
        simp only [putAll, put_lit, List.set_cons_succ, List.set_cons_zero]
        go_wp2_with fail
        have hc2 := same_any A87 dl.length c87 dl A90 dl.length c90 dl w9 s87 s90
        rw [decide_eq_true rfl] at hc2
        refine hc2.mono ?_
        clear hc2
        rintro e w8 ⟨rfl, b6⟩
        go_wp2
        exact post_of (by rfl) (by rfl) b6 (by rfl)
      case r1g61 =>
        intro w9 hb
        refine over_some (ds1 := [84, 91]) (ds2 := []) [(.bool true), (.bool true)] (by kernel_rfl) ?_
        refine over_nil ?_
        simp only [putAll, put_lit, List.set_cons_succ, List.set_cons_zero]
        go_wp2
        first | exact post_of (by rfl) (by rfl) (Below.refl _ _) (by rfl) | exact rfl
      case r1g62 =>
        intro w9 hb
        refine over_some (ds1 := [92]) (ds2 := []) [(.bool true)] (by kernel_rfl) ?_
        refine over_nil ?_
        simp only [putAll, put_lit, List.set_cons_succ, List.set_cons_zero]
        go_wp2
        first | exact post_of (by rfl) (by rfl) (Below.refl _ _) (by rfl) | exact rfl
      case r1g63 =>
        intro w9 hb
        refine over_some (ds1 := [93]) (ds2 := []) [(.bool true)] (by kernel_rfl) ?_
        refine over_nil ?_
        simp only [putAll, put_lit, List.set_cons_succ, List.set_cons_zero]
        go_wp2_with fail
        have hc2 := awake_any w9
        refine hc2.mono ?_
        clear hc2
        rintro e w8 ⟨rfl, b6⟩
        go_wp2
        exact post_of (by rfl) (by rfl) b6 (by rfl)
      case r1g64 =>
        intro w9 hb
        refine over_some (ds1 := [93, 94]) (ds2 := []) [(.bool true), (.bool true)] (by kernel_rfl) ?_
        refine over_nil ?_
        simp only [putAll, put_lit, List.set_cons_succ, List.set_cons_zero]
        go_wp2
        first | exact post_of (by rfl) (by rfl) (Below.refl _ _) (by rfl) | exact rfl
    · replace er : x.2.2 < last := by omega
      go_enter Try.func3, Try.ntmps3
      go_upto_region 1 with fail
      generalize (w.alloc (.cells #[.int .u8 x.1, .int .u16 x.2.1, .int .u32 x.2.2] 25)).alloc (.cells #[.int .u8 y.1, .int .u16 y.2.1, .int .u32 y.2.2] 25) = w1 at *
      obtain ⟨gx, hgx⟩ : ∃ g, w.heap.size = g := ⟨_, rfl⟩
      rw [hgx] at KX KY ⊢
      clear hgx
      obtain ⟨gy, hgy⟩ : ∃ g, gx + 1 = g := ⟨_, rfl⟩
      rw [hgy] at KY ⊢
      clear hgy
      obtain ⟨pKX, qKX, rKX⟩ := KX.out.cells
      go_wp2_with fail
      have hc := next_more x last w1 z0 er l1
      refine hc.mono ?_
      clear hc
      clear pKX qKX rKX
      rintro e w2 ⟨rfl, b5⟩
      replace KX := Lib.hid (KX.out.next b5)
      replace KY := Lib.hid (KY.out.next b5)
      replace SL := Lib.hid (SL.out.next b5)
      replace B := Lib.hid (thn B.out b5)
      clear b5
      go_upto_region 4 with fail
      have hbl := below_lit w2 (.cells #[.int .u8 x.1, .int .u16 x.2.1, .int .u32 (x.2.2 + 1)] 25)
      replace KX := Lib.hid (KX.out.next hbl)
      replace KY := Lib.hid (KY.out.next hbl)
      replace SL := Lib.hid (SL.out.next hbl)
      replace B := Lib.hid (thn B.out hbl)
      clear hbl
      have KA : Hid (IdBlk (w2.alloc (.cells #[.int .u8 x.1, .int .u16 x.2.1, .int .u32 (x.2.2 + 1)] 25)) w2.heap.size (x.1, x.2.1, x.2.2 + 1)) := IdBlk.new w2 (x.1, x.2.1, x.2.2 + 1)
      generalize w2.alloc (.cells #[.int .u8 x.1, .int .u16 x.2.1, .int .u32 (x.2.2 + 1)] 25) = w3 at *
      obtain ⟨ga, hga⟩ : ∃ g, w2.heap.size = g := ⟨_, rfl⟩
      rw [hga] at KA ⊢
      clear hga
      obtain ⟨pKX, qKX, rKX⟩ := KX.out.cells
      go_wp2_with fail
      have hc := refNext_more x last w3 z0 er l1
      refine hc.mono ?_
      clear hc
      clear pKX qKX rKX
      rintro e w4 ⟨rfl, b5⟩
      replace KX := Lib.hid (KX.out.next b5)
      replace KY := Lib.hid (KY.out.next b5)
      replace SL := Lib.hid (SL.out.next b5)
      replace KA := Lib.hid (KA.out.next b5)
      replace B := Lib.hid (thn B.out b5)
      clear b5
      go_upto_region 5 with fail
      have hbl := below_lit w4 (.cells #[.int .u8 x.1, .int .u16 x.2.1, .int .u32 (x.2.2 + 1)] 25)
      replace KX := Lib.hid (KX.out.next hbl)
      replace KY := Lib.hid (KY.out.next hbl)
      replace SL := Lib.hid (SL.out.next hbl)
      replace KA := Lib.hid (KA.out.next hbl)
      replace B := Lib.hid (thn B.out hbl)
      clear hbl
      have KB : Hid (IdBlk (w4.alloc (.cells #[.int .u8 x.1, .int .u16 x.2.1, .int .u32 (x.2.2 + 1)] 25)) w4.heap.size (x.1, x.2.1, x.2.2 + 1)) := IdBlk.new w4 (x.1, x.2.1, x.2.2 + 1)
      generalize w4.alloc (.cells #[.int .u8 x.1, .int .u16 x.2.1, .int .u32 (x.2.2 + 1)] 25) = w5 at *
      obtain ⟨gb, hgb⟩ : ∃ g, w4.heap.size = g := ⟨_, rfl⟩
      rw [hgb] at KB ⊢
      clear hgb
      have heq : ∀ w' : World, (binOp .eql 25 (.agg #[.int .u8 x.1, .int .u16 x.2.1, .int .u32 (x.2.2 + 1)]) (.agg #[.int .u8 x.1, .int .u16 x.2.1, .int .u32 (x.2.2 + 1)])).run Try.prog w' = .ok (.bool true) w' := fun w' => (ideql (x.1, x.2.1, x.2.2 + 1) (x.1, x.2.1, x.2.2 + 1) w').trans (by rw [decide_eq_true rfl])
      go_wp2_with fail
      refine wp_region_typed 65 [(31, .val (.agg #[.int .u8 x.1, .int .u16 x.2.1, .int .u32 x.2.2])), (32, .val (.int .i64 nodes)), (33, .val (.int .u32 last)), (34, .val (.bool r)), (35, .val (.agg #[.int .u8 x.1, .int .u16 x.2.1, .int .u32 x.2.2])), (36, .val (.int .i64 nodes)), (37, .val (.int .u32 last)), (38, .val (.bool r)), (39, .val (.bool true)), (40, .val (.bool true)), (41, .val (.agg #[.int .u8 x.1, .int .u16 x.2.1, .int .u32 x.2.2])), (42, .val (.agg #[.int .u8 y.1, .int .u16 y.2.1, .int .u32 y.2.2])), (43, .val (.bool s)), (44, .val (.agg #[.int .u8 x.1, .int .u16 x.2.1, .int .u32 x.2.2])), (45, .val (.agg #[.int .u8 y.1, .int .u16 y.2.1, .int .u32 y.2.2])), (46, .val (.bool s)), (47, .val (.bool true)), (48, .val (.bool true)), (49, .val (.bool true)), (50, .val (.agg #[.int .u8 x.1, .int .u16 x.2.1, .int .u32 (x.2.2 + 1)])), (51, .val (.agg #[.int .u8 x.1, .int .u16 x.2.1, .int .u32 (x.2.2 + 1)])), (52, .val (.bool true)), (53, .val (.bool true)), (54, .val (.bool true)), (55, .val (.int .i64 0)), (56, .val (.int .i64 0)), (57, .val (.bool true)), (58, .val (.bool true)), (59, .val (.bool true)), (60, .val (.slice A n c)), (61, .val (.bool u)), (62, .val (.slice A n c)), (63, .val (.bool u)), (64, .val (.bool true)), (65, .val (.bool true)), (66, .val (.bool true)), (67, .val (.slice A n c)), (68, .val (.agg #[.int .u8 x.1, .int .u16 x.2.1, .int .u32 x.2.2])), (69, .val (.bool v)), (70, .val (.slice A n c)), (71, .val (.agg #[.int .u8 x.1, .int .u16 x.2.1, .int .u32 x.2.2])), (72, .val (.bool v)), (73, .val (.bool true)), (74, .val (.bool true)), (75, .val (.bool true)), (76, .val (.slice A n c)), (77, .val (.agg #[.int .u8 x.1, .int .u16 x.2.1, .int .u32 x.2.2])), (78, tyD pl pl.length), (79, .val (.slice A n c)), (80, .val (.agg #[.int .u8 x.1, .int .u16 x.2.1, .int .u32 x.2.2])), (81, tyD pl pl.length), (82, .val (.bool true)), (83, .val (.bool true)), (84, .val (.bool true)), (85, .val (.slice A n c)), (86, .val (.agg #[.int .u8 x.1, .int .u16 x.2.1, .int .u32 x.2.2])), (87, tyD dl dl.length), (88, .val (.slice A n c)), (89, .val (.agg #[.int .u8 x.1, .int .u16 x.2.1, .int .u32 x.2.2])), (90, tyD dl dl.length), (91, .val (.bool true)), (92, .val (.bool true)), (93, .val (.bool true)), (94, .val (.bool true)), (95, .val (.bool true))]
        [[], [], [], [31, 32, 33], [], [], [], [35, 36, 37], [34, 38], [39], [40], [40], [40, 41, 42], [40], [40], [40, 44, 45], [40, 43, 46], [40, 47], [48], [49], [49], [49, 50, 51], [49, 52], [53], [54], [54], [54, 55, 56], [54, 57], [58], [59], [59, 60], [59], [59, 62], [59, 61, 63], [59, 64], [65], [66], [66], [66, 67, 68], [66], [66], [66, 70, 71], [66, 69, 72], [66, 73], [74], [75], [75], [75, 76, 77], [75], [75], [75, 79, 80], [75, 78, 81], [75, 82], [83], [84], [84], [84, 85, 86], [84], [84], [84, 88, 89], [84, 87, 90], [84, 91], [92], [93], [93, 94]] (by kernel_rfl) (by kernel_rfl) ?_ ?_
      rotate_left
      · intro w9 hb
        simp only [List.take_succ_cons, List.take_zero, List.drop_succ_cons, List.drop_zero]
        refine over_ds (ds := [31, 32, 33, 34, 35, 36, 37, 38, 39, 40, 41, 42, 43, 44, 45, 46, 47, 48, 49, 50, 51, 52, 53, 54, 55, 56, 57, 58, 59, 60, 61, 62, 63, 64, 65, 66, 67, 68, 69, 70, 71, 72, 73, 74, 75, 76, 77, 78, 79, 80, 81, 82, 83, 84, 85, 86, 87, 88, 89, 90, 91, 92, 93, 94, 95]) (by kernel_rfl) ?_
        refine over_some (ds1 := [31, 32, 33, 34, 35, 36, 37, 38, 39, 40, 41, 42, 43, 44, 45, 46, 47, 48, 49, 50, 51, 52, 53, 54, 55, 56, 57, 58, 59, 60, 61, 62, 63, 64, 65, 66, 67, 68, 69, 70, 71, 72, 73, 74, 75, 76, 77]) (ds2 := [78, 79, 80, 81, 82, 83, 84, 85, 86, 87, 88, 89, 90, 91, 92, 93, 94, 95]) [(.agg #[.int .u8 x.1, .int .u16 x.2.1, .int .u32 x.2.2]), (.int .i64 nodes), (.int .u32 last), (.bool r), (.agg #[.int .u8 x.1, .int .u16 x.2.1, .int .u32 x.2.2]), (.int .i64 nodes), (.int .u32 last), (.bool r), (.bool true), (.bool true), (.agg #[.int .u8 x.1, .int .u16 x.2.1, .int .u32 x.2.2]), (.agg #[.int .u8 y.1, .int .u16 y.2.1, .int .u32 y.2.2]), (.bool s), (.agg #[.int .u8 x.1, .int .u16 x.2.1, .int .u32 x.2.2]), (.agg #[.int .u8 y.1, .int .u16 y.2.1, .int .u32 y.2.2]), (.bool s), (.bool true), (.bool true), (.bool true), (.agg #[.int .u8 x.1, .int .u16 x.2.1, .int .u32 (x.2.2 + 1)]), (.agg #[.int .u8 x.1, .int .u16 x.2.1, .int .u32 (x.2.2 + 1)]), (.bool true), (.bool true), (.bool true), (.int .i64 0), (.int .i64 0), (.bool true), (.bool true), (.bool true), (.slice A n c), (.bool u), (.slice A n c), (.bool u), (.bool true), (.bool true), (.bool true), (.slice A n c), (.agg #[.int .u8 x.1, .int .u16 x.2.1, .int .u32 x.2.2]), (.bool v), (.slice A n c), (.agg #[.int .u8 x.1, .int .u16 x.2.1, .int .u32 x.2.2]), (.bool v), (.bool true), (.bool true), (.bool true), (.slice A n c), (.agg #[.int .u8 x.1, .int .u16 x.2.1, .int .u32 x.2.2])] (by kernel_rfl) ?_
        refine over_pred rfl ?_
        rintro _ ⟨A78, c78, rfl, s78⟩
        refine over_some (ds1 := [79, 80]) (ds2 := [81, 82, 83, 84, 85, 86, 87, 88, 89, 90, 91, 92, 93, 94, 95]) [(.slice A n c), (.agg #[.int .u8 x.1, .int .u16 x.2.1, .int .u32 x.2.2])] (by kernel_rfl) ?_
        refine over_pred rfl ?_
        rintro _ ⟨A81, c81, rfl, s81⟩
        refine over_some (ds1 := [82, 83, 84, 85, 86]) (ds2 := [87, 88, 89, 90, 91, 92, 93, 94, 95]) [(.bool true), (.bool true), (.bool true), (.slice A n c), (.agg #[.int .u8 x.1, .int .u16 x.2.1, .int .u32 x.2.2])] (by kernel_rfl) ?_
        refine over_pred rfl ?_
        rintro _ ⟨A87, c87, rfl, s87⟩
        refine over_some (ds1 := [88, 89]) (ds2 := [90, 91, 92, 93, 94, 95]) [(.slice A n c), (.agg #[.int .u8 x.1, .int .u16 x.2.1, .int .u32 x.2.2])] (by kernel_rfl) ?_
        refine over_pred rfl ?_
        rintro _ ⟨A90, c90, rfl, s90⟩
        refine over_some (ds1 := [91, 92, 93, 94, 95]) (ds2 := []) [(.bool true), (.bool true), (.bool true), (.bool true), (.bool true)] (by kernel_rfl) ?_
        refine over_nil ?_
        simp only [putAll, put_lit, List.set_cons_succ, List.set_cons_zero]
        have BB := Lib.hid (thn B.out hb)
        clear hb s78 s81 s87 s90
        go_wp2
        go_ret
        exact ⟨rfl, BB.out⟩
      simp only [List.take_succ_cons, List.take_zero]
      refine ⟨?r1g0, ?r1g1, ?r1g2, ?r1g3, ?r1g4, ?r1g5, ?r1g6, ?r1g7, ?r1g8, ?r1g9, ?r1g10, ?r1g11, ?r1g12, ?r1g13, ?r1g14, ?r1g15, ?r1g16, ?r1g17, ?r1g18, ?r1g19, ?r1g20, ?r1g21, ?r1g22, ?r1g23, ?r1g24, ?r1g25, ?r1g26, ?r1g27, ?r1g28, ?r1g29, ?r1g30, ?r1g31, ?r1g32, ?r1g33, ?r1g34, ?r1g35, ?r1g36, ?r1g37, ?r1g38, ?r1g39, ?r1g40, ?r1g41, ?r1g42, ?r1g43, ?r1g44, ?r1g45, ?r1g46, ?r1g47, ?r1g48, ?r1g49, ?r1g50, ?r1g51, ?r1g52, ?r1g53, ?r1g54, ?r1g55, ?r1g56, ?r1g57, ?r1g58, ?r1g59, ?r1g60, ?r1g61, ?r1g62, ?r1g63, ?r1g64, trivial⟩
      case r1g0 =>
        intro w9 hb
        refine over_nil ?_
        obtain ⟨p0, q0, r0⟩ := (KX.out.next hb).cells
        go_wp2
        first | exact post_of (by rfl) (by rfl) (Below.refl _ _) (by rfl) | exact rfl
      case r1g1 =>
        intro w9 hb
        refine over_nil ?_
        go_wp2
        first | exact post_of (by rfl) (by rfl) (Below.refl _ _) (by rfl) | exact rfl
      case r1g2 =>
        intro w9 hb
        refine over_nil ?_
        go_wp2
        first | exact post_of (by rfl) (by rfl) (Below.refl _ _) (by rfl) | exact rfl
      case r1g3 =>
        intro w9 hb
        refine over_some (ds1 := [31, 32, 33]) (ds2 := []) [(.agg #[.int .u8 x.1, .int .u16 x.2.1, .int .u32 x.2.2]), (.int .i64 nodes), (.int .u32 last)] (by kernel_rfl) ?_
        refine over_nil ?_
        simp only [putAll, put_lit, List.set_cons_succ, List.set_cons_zero]
        go_wp2_with fail
        have hc2 := right_any x nodes last w9 x0 x1
        rw [HR.out] at hc2
        refine hc2.mono ?_
        clear hc2
        rintro e w8 ⟨rfl, b6⟩
        go_wp2
        exact post_of (by rfl) (by rfl) b6 (by rfl)
      case r1g4 =>
        intro w9 hb
        refine over_nil ?_
        obtain ⟨p0, q0, r0⟩ := (KX.out.next hb).cells
        go_wp2
        first | exact post_of (by rfl) (by rfl) (Below.refl _ _) (by rfl) | exact rfl
      case r1g5 =>
        intro w9 hb
        refine over_nil ?_
        go_wp2
        first | exact post_of (by rfl) (by rfl) (Below.refl _ _) (by rfl) | exact rfl
      case r1g6 =>
        intro w9 hb
        refine over_nil ?_
        go_wp2
        first | exact post_of (by rfl) (by rfl) (Below.refl _ _) (by rfl) | exact rfl
      case r1g7 =>
        intro w9 hb
        refine over_some (ds1 := [35, 36, 37]) (ds2 := []) [(.agg #[.int .u8 x.1, .int .u16 x.2.1, .int .u32 x.2.2]), (.int .i64 nodes), (.int .u32 last)] (by kernel_rfl) ?_
        refine over_nil ?_
        simp only [putAll, put_lit, List.set_cons_succ, List.set_cons_zero]
        go_wp2_with fail
        have hc2 := refRight_any x nodes last w9 x0 x1
        rw [HR.out] at hc2
        refine hc2.mono ?_
        clear hc2
        rintro e w8 ⟨rfl, b6⟩
        go_wp2
        exact post_of (by rfl) (by rfl) b6 (by rfl)
      case r1g8 =>
        intro w9 hb
        refine over_some (ds1 := [34, 38]) (ds2 := []) [(.bool r), (.bool r)] (by kernel_rfl) ?_
        refine over_nil ?_
        simp only [putAll, put_lit, List.set_cons_succ, List.set_cons_zero]
        go_wp2
        first | exact post_of (by rfl) (by rfl) (Below.refl _ _) (by rfl) | exact rfl
      case r1g9 =>
        intro w9 hb
        refine over_some (ds1 := [39]) (ds2 := []) [(.bool true)] (by kernel_rfl) ?_
        refine over_nil ?_
        simp only [putAll, put_lit, List.set_cons_succ, List.set_cons_zero]
        go_wp2
        first | exact post_of (by rfl) (by rfl) (Below.refl _ _) (by rfl) | exact rfl
      case r1g10 =>
        intro w9 hb
        refine over_some (ds1 := [40]) (ds2 := []) [(.bool true)] (by kernel_rfl) ?_
        refine over_nil ?_
        simp only [putAll, put_lit, List.set_cons_succ, List.set_cons_zero]
        obtain ⟨p0, q0, r0⟩ := (KX.out.next hb).cells
        go_wp2
        first | exact post_of (by rfl) (by rfl) (Below.refl _ _) (by rfl) | exact rfl
      case r1g11 =>
        intro w9 hb
        refine over_some (ds1 := [40]) (ds2 := []) [(.bool true)] (by kernel_rfl) ?_
        refine over_nil ?_
        simp only [putAll, put_lit, List.set_cons_succ, List.set_cons_zero]
        obtain ⟨p0, q0, r0⟩ := (KY.out.next hb).cells
        go_wp2
        first | exact post_of (by rfl) (by rfl) (Below.refl _ _) (by rfl) | exact rfl
      case r1g12 =>
        intro w9 hb
        refine over_some (ds1 := [40, 41, 42]) (ds2 := []) [(.bool true), (.agg #[.int .u8 x.1, .int .u16 x.2.1, .int .u32 x.2.2]), (.agg #[.int .u8 y.1, .int .u16 y.2.1, .int .u32 y.2.2])] (by kernel_rfl) ?_
        refine over_nil ?_
        simp only [putAll, put_lit, List.set_cons_succ, List.set_cons_zero]
        go_wp2_with fail
        have hc2 := less_any x y w9
        rw [HS.out] at hc2
        refine hc2.mono ?_
        clear hc2
        rintro e w8 ⟨rfl, b6⟩
        go_wp2
        exact post_of (by rfl) (by rfl) b6 (by rfl)
      case r1g13 =>
        intro w9 hb
        refine over_some (ds1 := [40]) (ds2 := []) [(.bool true)] (by kernel_rfl) ?_
        refine over_nil ?_
        simp only [putAll, put_lit, List.set_cons_succ, List.set_cons_zero]
        obtain ⟨p0, q0, r0⟩ := (KX.out.next hb).cells
        go_wp2
        first | exact post_of (by rfl) (by rfl) (Below.refl _ _) (by rfl) | exact rfl
      case r1g14 =>
        intro w9 hb
        refine over_some (ds1 := [40]) (ds2 := []) [(.bool true)] (by kernel_rfl) ?_
        refine over_nil ?_
        simp only [putAll, put_lit, List.set_cons_succ, List.set_cons_zero]
        obtain ⟨p0, q0, r0⟩ := (KY.out.next hb).cells
        go_wp2
        first | exact post_of (by rfl) (by rfl) (Below.refl _ _) (by rfl) | exact rfl
      case r1g15 =>
        intro w9 hb
        refine over_some (ds1 := [40, 44, 45]) (ds2 := []) [(.bool true), (.agg #[.int .u8 x.1, .int .u16 x.2.1, .int .u32 x.2.2]), (.agg #[.int .u8 y.1, .int .u16 y.2.1, .int .u32 y.2.2])] (by kernel_rfl) ?_
        refine over_nil ?_
        simp only [putAll, put_lit, List.set_cons_succ, List.set_cons_zero]
        go_wp2_with fail
        have hc2 := refLess_any x y w9
        rw [HS.out] at hc2
        refine hc2.mono ?_
        clear hc2
        rintro e w8 ⟨rfl, b6⟩
        go_wp2
        exact post_of (by rfl) (by rfl) b6 (by rfl)
      case r1g16 =>
        intro w9 hb
        refine over_some (ds1 := [40, 43, 46]) (ds2 := []) [(.bool true), (.bool s), (.bool s)] (by kernel_rfl) ?_
        refine over_nil ?_
        simp only [putAll, put_lit, List.set_cons_succ, List.set_cons_zero]
        go_wp2
        first | exact post_of (by rfl) (by rfl) (Below.refl _ _) (by rfl) | exact rfl
      case r1g17 =>
        intro w9 hb
        refine over_some (ds1 := [40, 47]) (ds2 := []) [(.bool true), (.bool true)] (by kernel_rfl) ?_
        refine over_nil ?_
        simp only [putAll, put_lit, List.set_cons_succ, List.set_cons_zero]
        go_wp2
        first | exact post_of (by rfl) (by rfl) (Below.refl _ _) (by rfl) | exact rfl
      case r1g18 =>
        intro w9 hb
        refine over_some (ds1 := [48]) (ds2 := []) [(.bool true)] (by kernel_rfl) ?_
        refine over_nil ?_
        simp only [putAll, put_lit, List.set_cons_succ, List.set_cons_zero]
        go_wp2
        first | exact post_of (by rfl) (by rfl) (Below.refl _ _) (by rfl) | exact rfl
      case r1g19 =>
        intro w9 hb
        refine over_some (ds1 := [49]) (ds2 := []) [(.bool true)] (by kernel_rfl) ?_
        refine over_nil ?_
        simp only [putAll, put_lit, List.set_cons_succ, List.set_cons_zero]
        obtain ⟨p0, q0, r0⟩ := (KA.out.next hb).cells
        go_wp2
        first | exact post_of (by rfl) (by rfl) (Below.refl _ _) (by rfl) | exact rfl
      case r1g20 =>
        intro w9 hb
        refine over_some (ds1 := [49]) (ds2 := []) [(.bool true)] (by kernel_rfl) ?_
        refine over_nil ?_
        simp only [putAll, put_lit, List.set_cons_succ, List.set_cons_zero]
        obtain ⟨p0, q0, r0⟩ := (KB.out.next hb).cells
        go_wp2
        first | exact post_of (by rfl) (by rfl) (Below.refl _ _) (by rfl) | exact rfl
      case r1g21 =>
        intro w9 hb
        refine over_some (ds1 := [49, 50, 51]) (ds2 := []) [(.bool true), (.agg #[.int .u8 x.1, .int .u16 x.2.1, .int .u32 (x.2.2 + 1)]), (.agg #[.int .u8 x.1, .int .u16 x.2.1, .int .u32 (x.2.2 + 1)])] (by kernel_rfl) ?_
        refine over_nil ?_
        simp only [putAll, put_lit, List.set_cons_succ, List.set_cons_zero]
        go_wp2
        first | exact post_of (by rfl) (by rfl) (Below.refl _ _) (by rfl) | exact rfl
      case r1g22 =>
        intro w9 hb
        refine over_some (ds1 := [49, 52]) (ds2 := []) [(.bool true), (.bool true)] (by kernel_rfl) ?_
        refine over_nil ?_
        simp only [putAll, put_lit, List.set_cons_succ, List.set_cons_zero]
        go_wp2
        first | exact post_of (by rfl) (by rfl) (Below.refl _ _) (by rfl) | exact rfl
      case r1g23 =>
        intro w9 hb
        refine over_some (ds1 := [53]) (ds2 := []) [(.bool true)] (by kernel_rfl) ?_
        refine over_nil ?_
        simp only [putAll, put_lit, List.set_cons_succ, List.set_cons_zero]
        go_wp2
        first | exact post_of (by rfl) (by rfl) (Below.refl _ _) (by rfl) | exact rfl
      case r1g24 =>
        intro w9 hb
        refine over_some (ds1 := [54]) (ds2 := []) [(.bool true)] (by kernel_rfl) ?_
        refine over_nil ?_
        simp only [putAll, put_lit, List.set_cons_succ, List.set_cons_zero]
        go_wp2
        first | exact post_of (by rfl) (by rfl) (Below.refl _ _) (by rfl) | exact rfl
      case r1g25 =>
        intro w9 hb
        refine over_some (ds1 := [54]) (ds2 := []) [(.bool true)] (by kernel_rfl) ?_
        refine over_nil ?_
        simp only [putAll, put_lit, List.set_cons_succ, List.set_cons_zero]
        go_wp2
        first | exact post_of (by rfl) (by rfl) (Below.refl _ _) (by rfl) | exact rfl
      case r1g26 =>
        intro w9 hb
        refine over_some (ds1 := [54, 55, 56]) (ds2 := []) [(.bool true), (.int .i64 0), (.int .i64 0)] (by kernel_rfl) ?_
        refine over_nil ?_
        simp only [putAll, put_lit, List.set_cons_succ, List.set_cons_zero]
        go_wp2
        first | exact post_of (by rfl) (by rfl) (Below.refl _ _) (by rfl) | exact rfl
      case r1g27 =>
        intro w9 hb
        refine over_some (ds1 := [54, 57]) (ds2 := []) [(.bool true), (.bool true)] (by kernel_rfl) ?_
        refine over_nil ?_
        simp only [putAll, put_lit, List.set_cons_succ, List.set_cons_zero]
        go_wp2
        first | exact post_of (by rfl) (by rfl) (Below.refl _ _) (by rfl) | exact rfl
      case r1g28 =>
        intro w9 hb
        refine over_some (ds1 := [58]) (ds2 := []) [(.bool true)] (by kernel_rfl) ?_
        refine over_nil ?_
        simp only [putAll, put_lit, List.set_cons_succ, List.set_cons_zero]
        go_wp2
        first | exact post_of (by rfl) (by rfl) (Below.refl _ _) (by rfl) | exact rfl
      case r1g29 =>
        intro w9 hb
        refine over_some (ds1 := [59]) (ds2 := []) [(.bool true)] (by kernel_rfl) ?_
        refine over_nil ?_
        simp only [putAll, put_lit, List.set_cons_succ, List.set_cons_zero]
        go_wp2
        first | exact post_of (by rfl) (by rfl) (Below.refl _ _) (by rfl) | exact rfl
      case r1g30 =>
        intro w9 hb
        refine over_some (ds1 := [59, 60]) (ds2 := []) [(.bool true), (.slice A n c)] (by kernel_rfl) ?_
        refine over_nil ?_
        simp only [putAll, put_lit, List.set_cons_succ, List.set_cons_zero]
        go_wp2_with fail
        have hc2 := rising_any A n c l w9 (SL.out.next hb)
        rw [HU.out] at hc2
        refine hc2.mono ?_
        clear hc2
        rintro e w8 ⟨rfl, b6⟩
        go_wp2
        exact post_of (by rfl) (by rfl) b6 (by rfl)
      case r1g31 =>
        intro w9 hb
        refine over_some (ds1 := [59]) (ds2 := []) [(.bool true)] (by kernel_rfl) ?_
        refine over_nil ?_
        simp only [putAll, put_lit, List.set_cons_succ, List.set_cons_zero]
        go_wp2
        first | exact post_of (by rfl) (by rfl) (Below.refl _ _) (by rfl) | exact rfl
      case r1g32 =>
        intro w9 hb
        refine over_some (ds1 := [59, 62]) (ds2 := []) [(.bool true), (.slice A n c)] (by kernel_rfl) ?_
        refine over_nil ?_
        simp only [putAll, put_lit, List.set_cons_succ, List.set_cons_zero]
        go_wp2_with fail
        have hc2 := refRising_any A n c l w9 (SL.out.next hb)
        rw [HU.out] at hc2
        refine hc2.mono ?_
        clear hc2
        rintro e w8 ⟨rfl, b6⟩
        go_wp2
        exact post_of (by rfl) (by rfl) b6 (by rfl)
      case r1g33 =>
        intro w9 hb
        refine over_some (ds1 := [59, 61, 63]) (ds2 := []) [(.bool true), (.bool u), (.bool u)] (by kernel_rfl) ?_
        refine over_nil ?_
        simp only [putAll, put_lit, List.set_cons_succ, List.set_cons_zero]
        go_wp2
        first | exact post_of (by rfl) (by rfl) (Below.refl _ _) (by rfl) | exact rfl
      case r1g34 =>
        intro w9 hb
        refine over_some (ds1 := [59, 64]) (ds2 := []) [(.bool true), (.bool true)] (by kernel_rfl) ?_
        refine over_nil ?_
        simp only [putAll, put_lit, List.set_cons_succ, List.set_cons_zero]
        go_wp2
        first | exact post_of (by rfl) (by rfl) (Below.refl _ _) (by rfl) | exact rfl
      case r1g35 =>
        intro w9 hb
        refine over_some (ds1 := [65]) (ds2 := []) [(.bool true)] (by kernel_rfl) ?_
        refine over_nil ?_
        simp only [putAll, put_lit, List.set_cons_succ, List.set_cons_zero]
        go_wp2
        first | exact post_of (by rfl) (by rfl) (Below.refl _ _) (by rfl) | exact rfl
      case r1g36 =>
        intro w9 hb
        refine over_some (ds1 := [66]) (ds2 := []) [(.bool true)] (by kernel_rfl) ?_
        refine over_nil ?_
        simp only [putAll, put_lit, List.set_cons_succ, List.set_cons_zero]
        go_wp2
        first | exact post_of (by rfl) (by rfl) (Below.refl _ _) (by rfl) | exact rfl
      case r1g37 =>
        intro w9 hb
        refine over_some (ds1 := [66]) (ds2 := []) [(.bool true)] (by kernel_rfl) ?_
        refine over_nil ?_
        simp only [putAll, put_lit, List.set_cons_succ, List.set_cons_zero]
        obtain ⟨p0, q0, r0⟩ := (KX.out.next hb).cells
        go_wp2
        first | exact post_of (by rfl) (by rfl) (Below.refl _ _) (by rfl) | exact rfl
      case r1g38 =>
        intro w9 hb
        refine over_some (ds1 := [66, 67, 68]) (ds2 := []) [(.bool true), (.slice A n c), (.agg #[.int .u8 x.1, .int .u16 x.2.1, .int .u32 x.2.2])] (by kernel_rfl) ?_
        refine over_nil ?_
        simp only [putAll, put_lit, List.set_cons_succ, List.set_cons_zero]
        go_wp2_with fail
        have hc2 := has_any A n c l x w9 (SL.out.next hb)
        rw [HV.out] at hc2
        refine hc2.mono ?_
        clear hc2
        rintro e w8 ⟨rfl, b6⟩
        go_wp2
        exact post_of (by rfl) (by rfl) b6 (by rfl)
      case r1g39 =>
        intro w9 hb
        refine over_some (ds1 := [66]) (ds2 := []) [(.bool true)] (by kernel_rfl) ?_
        refine over_nil ?_
        simp only [putAll, put_lit, List.set_cons_succ, List.set_cons_zero]
        go_wp2
        first | exact post_of (by rfl) (by rfl) (Below.refl _ _) (by rfl) | exact rfl
      case r1g40 =>
        intro w9 hb
        refine over_some (ds1 := [66]) (ds2 := []) [(.bool true)] (by kernel_rfl) ?_
        refine over_nil ?_
        simp only [putAll, put_lit, List.set_cons_succ, List.set_cons_zero]
        obtain ⟨p0, q0, r0⟩ := (KX.out.next hb).cells
        go_wp2
        first | exact post_of (by rfl) (by rfl) (Below.refl _ _) (by rfl) | exact rfl
      case r1g41 =>
        intro w9 hb
        refine over_some (ds1 := [66, 70, 71]) (ds2 := []) [(.bool true), (.slice A n c), (.agg #[.int .u8 x.1, .int .u16 x.2.1, .int .u32 x.2.2])] (by kernel_rfl) ?_
        refine over_nil ?_
        simp only [putAll, put_lit, List.set_cons_succ, List.set_cons_zero]
        go_wp2_with fail
        have hc2 := refHas_any A n c l x w9 (SL.out.next hb)
        rw [HV.out] at hc2
        refine hc2.mono ?_
        clear hc2
        rintro e w8 ⟨rfl, b6⟩
        go_wp2
        exact post_of (by rfl) (by rfl) b6 (by rfl)
      case r1g42 =>
        intro w9 hb
        refine over_some (ds1 := [66, 69, 72]) (ds2 := []) [(.bool true), (.bool v), (.bool v)] (by kernel_rfl) ?_
        refine over_nil ?_
        simp only [putAll, put_lit, List.set_cons_succ, List.set_cons_zero]
        go_wp2
        first | exact post_of (by rfl) (by rfl) (Below.refl _ _) (by rfl) | exact rfl
      case r1g43 =>
        intro w9 hb
        refine over_some (ds1 := [66, 73]) (ds2 := []) [(.bool true), (.bool true)] (by kernel_rfl) ?_
        refine over_nil ?_
        simp only [putAll, put_lit, List.set_cons_succ, List.set_cons_zero]
        go_wp2
        first | exact post_of (by rfl) (by rfl) (Below.refl _ _) (by rfl) | exact rfl
      case r1g44 =>
        intro w9 hb
        refine over_some (ds1 := [74]) (ds2 := []) [(.bool true)] (by kernel_rfl) ?_
        refine over_nil ?_
        simp only [putAll, put_lit, List.set_cons_succ, List.set_cons_zero]
        go_wp2
        first | exact post_of (by rfl) (by rfl) (Below.refl _ _) (by rfl) | exact rfl
      case r1g45 =>
        intro w9 hb
        refine over_some (ds1 := [75]) (ds2 := []) [(.bool true)] (by kernel_rfl) ?_
        refine over_nil ?_
        simp only [putAll, put_lit, List.set_cons_succ, List.set_cons_zero]
        go_wp2
        first | exact post_of (by rfl) (by rfl) (Below.refl _ _) (by rfl) | exact rfl
      case r1g46 =>
        intro w9 hb
        refine over_some (ds1 := [75]) (ds2 := []) [(.bool true)] (by kernel_rfl) ?_
        refine over_nil ?_
        simp only [putAll, put_lit, List.set_cons_succ, List.set_cons_zero]
        obtain ⟨p0, q0, r0⟩ := (KX.out.next hb).cells
        go_wp2
        first | exact post_of (by rfl) (by rfl) (Below.refl _ _) (by rfl) | exact rfl
      case r1g47 =>
        intro w9 hb
        refine over_some (ds1 := [75, 76, 77]) (ds2 := []) [(.bool true), (.slice A n c), (.agg #[.int .u8 x.1, .int .u16 x.2.1, .int .u32 x.2.2])] (by kernel_rfl) ?_
        refine over_nil ?_
        simp only [putAll, put_lit, List.set_cons_succ, List.set_cons_zero]
        go_wp2_with fail
        have hc2 := put_any A n c l x w9 (SL.out.next hb) hn8
        rw [HP.out] at hc2
        refine hc2.mono ?_
        clear hc2
        rintro e w8 ⟨A9, c9, rfl, s9, b6⟩
        have S9 := Lib.hid s9
        clear s9
        go_wp2
        exact post_of (by rfl) (by rfl) b6 (by exact ⟨_, _, rfl, S9.out⟩)
      case r1g48 =>
        intro w9 hb
        refine over_some (ds1 := [75]) (ds2 := []) [(.bool true)] (by kernel_rfl) ?_
        refine over_nil ?_
        simp only [putAll, put_lit, List.set_cons_succ, List.set_cons_zero]
        go_wp2
        first | exact post_of (by rfl) (by rfl) (Below.refl _ _) (by rfl) | exact rfl
      case r1g49 =>
        intro w9 hb
        refine over_some (ds1 := [75]) (ds2 := []) [(.bool true)] (by kernel_rfl) ?_
        refine over_nil ?_
        simp only [putAll, put_lit, List.set_cons_succ, List.set_cons_zero]
        obtain ⟨p0, q0, r0⟩ := (KX.out.next hb).cells
        go_wp2
        first | exact post_of (by rfl) (by rfl) (Below.refl _ _) (by rfl) | exact rfl
      case r1g50 =>
        intro w9 hb
        refine over_some (ds1 := [75, 79, 80]) (ds2 := []) [(.bool true), (.slice A n c), (.agg #[.int .u8 x.1, .int .u16 x.2.1, .int .u32 x.2.2])] (by kernel_rfl) ?_
        refine over_nil ?_
        simp only [putAll, put_lit, List.set_cons_succ, List.set_cons_zero]
        go_wp2_with fail
        have hc2 := refPut_any A n c l x w9 (SL.out.next hb) hn8
        rw [HP.out] at hc2
        refine hc2.mono ?_
        clear hc2
        rintro e w8 ⟨A9, c9, rfl, s9, b6⟩
        have S9 := Lib.hid s9
        clear s9
        go_wp2
        exact post_of (by rfl) (by rfl) b6 (by exact ⟨_, _, rfl, S9.out⟩)
      case r1g51 =>
        intro w9 hb
        refine over_some (ds1 := [75]) (ds2 := [78, 81]) [(.bool true)] (by kernel_rfl) ?_
        refine over_pred rfl ?_
        rintro _ ⟨A78, c78, rfl, s78⟩
        refine over_pred rfl ?_
        rintro _ ⟨A81, c81, rfl, s81⟩
        refine over_nil ?_
        simp only [putAll, put_lit, List.set_cons_succ, List.set_cons_zero]
        go_wp2_with fail
        have hc2 := same_any A78 pl.length c78 pl A81 pl.length c81 pl w9 s78 s81
        rw [decide_eq_true rfl] at hc2
        refine hc2.mono ?_
        clear hc2
        rintro e w8 ⟨rfl, b6⟩
        go_wp2
        exact post_of (by rfl) (by rfl) b6 (by rfl)
      case r1g52 =>
        intro w9 hb
        refine over_some (ds1 := [75, 82]) (ds2 := []) [(.bool true), (.bool true)] (by kernel_rfl) ?_
        refine over_nil ?_
        simp only [putAll, put_lit, List.set_cons_succ, List.set_cons_zero]
        go_wp2
        first | exact post_of (by rfl) (by rfl) (Below.refl _ _) (by rfl) | exact rfl
      case r1g53 =>
        intro w9 hb
        refine over_some (ds1 := [83]) (ds2 := []) [(.bool true)] (by kernel_rfl) ?_
        refine over_nil ?_
        simp only [putAll, put_lit, List.set_cons_succ, List.set_cons_zero]
        go_wp2
        first | exact post_of (by rfl) (by rfl) (Below.refl _ _) (by rfl) | exact rfl
      case r1g54 =>
        intro w9 hb
        refine over_some (ds1 := [84]) (ds2 := []) [(.bool true)] (by kernel_rfl) ?_
        refine over_nil ?_
        simp only [putAll, put_lit, List.set_cons_succ, List.set_cons_zero]
        go_wp2
        first | exact post_of (by rfl) (by rfl) (Below.refl _ _) (by rfl) | exact rfl
      case r1g55 =>
        intro w9 hb
        refine over_some (ds1 := [84]) (ds2 := []) [(.bool true)] (by kernel_rfl) ?_
        refine over_nil ?_
        simp only [putAll, put_lit, List.set_cons_succ, List.set_cons_zero]
        obtain ⟨p0, q0, r0⟩ := (KX.out.next hb).cells
        go_wp2
        first | exact post_of (by rfl) (by rfl) (Below.refl _ _) (by rfl) | exact rfl
      case r1g56 =>
        intro w9 hb
        refine over_some (ds1 := [84, 85, 86]) (ds2 := []) [(.bool true), (.slice A n c), (.agg #[.int .u8 x.1, .int .u16 x.2.1, .int .u32 x.2.2])] (by kernel_rfl) ?_
        refine over_nil ?_
        simp only [putAll, put_lit, List.set_cons_succ, List.set_cons_zero]
        go_wp2_with fail
        have hc2 := drop_any A n c l x w9 (SL.out.next hb) hn8
        rw [HD.out] at hc2
        refine hc2.mono ?_
        clear hc2
        rintro e w8 ⟨A9, c9, rfl, s9, b6⟩
        have S9 := Lib.hid s9
        clear s9
        go_wp2
        exact post_of (by rfl) (by rfl) b6 (by exact ⟨_, _, rfl, S9.out⟩)
      case r1g57 =>
        intro w9 hb
        refine over_some (ds1 := [84]) (ds2 := []) [(.bool true)] (by kernel_rfl) ?_
        refine over_nil ?_
        simp only [putAll, put_lit, List.set_cons_succ, List.set_cons_zero]
        go_wp2
        first | exact post_of (by rfl) (by rfl) (Below.refl _ _) (by rfl) | exact rfl
      case r1g58 =>
        intro w9 hb
        refine over_some (ds1 := [84]) (ds2 := []) [(.bool true)] (by kernel_rfl) ?_
        refine over_nil ?_
        simp only [putAll, put_lit, List.set_cons_succ, List.set_cons_zero]
        obtain ⟨p0, q0, r0⟩ := (KX.out.next hb).cells
        go_wp2
        first | exact post_of (by rfl) (by rfl) (Below.refl _ _) (by rfl) | exact rfl
      case r1g59 =>
        intro w9 hb
        refine over_some (ds1 := [84, 88, 89]) (ds2 := []) [(.bool true), (.slice A n c), (.agg #[.int .u8 x.1, .int .u16 x.2.1, .int .u32 x.2.2])] (by kernel_rfl) ?_
        refine over_nil ?_
        simp only [putAll, put_lit, List.set_cons_succ, List.set_cons_zero]
        go_wp2_with fail
        have hc2 := refDrop_any A n c l x w9 (SL.out.next hb) hn8
        rw [HD.out] at hc2
        refine hc2.mono ?_
        clear hc2
        rintro e w8 ⟨A9, c9, rfl, s9, b6⟩
        have S9 := Lib.hid s9
        clear s9
        go_wp2
        exact post_of (by rfl) (by rfl) b6 (by exact ⟨_, _, rfl, S9.out⟩)
      case r1g60 =>
        intro w9 hb
        refine over_some (ds1 := [84]) (ds2 := [87, 90]) [(.bool true)] (by kernel_rfl) ?_
        refine over_pred rfl ?_
        rintro _ ⟨A87, c87, rfl, s87⟩
        refine over_pred rfl ?_
        rintro _ ⟨A90, c90, rfl, s90⟩
        refine over_nil ?_
        simp only [putAll, put_lit, List.set_cons_succ, List.set_cons_zero]
        go_wp2_with fail
        have hc2 := same_any A87 dl.length c87 dl A90 dl.length c90 dl w9 s87 s90
        rw [decide_eq_true rfl] at hc2
        refine hc2.mono ?_
        clear hc2
        rintro e w8 ⟨rfl, b6⟩
        go_wp2
        exact post_of (by rfl) (by rfl) b6 (by rfl)
      case r1g61 =>
        intro w9 hb
        refine over_some (ds1 := [84, 91]) (ds2 := []) [(.bool true), (.bool true)] (by kernel_rfl) ?_
        refine over_nil ?_
        simp only [putAll, put_lit, List.set_cons_succ, List.set_cons_zero]
        go_wp2
        first | exact post_of (by rfl) (by rfl) (Below.refl _ _) (by rfl) | exact rfl
      case r1g62 =>
        intro w9 hb
        refine over_some (ds1 := [92]) (ds2 := []) [(.bool true)] (by kernel_rfl) ?_
        refine over_nil ?_
        simp only [putAll, put_lit, List.set_cons_succ, List.set_cons_zero]
        go_wp2
        first | exact post_of (by rfl) (by rfl) (Below.refl _ _) (by rfl) | exact rfl
      case r1g63 =>
        intro w9 hb
        refine over_some (ds1 := [93]) (ds2 := []) [(.bool true)] (by kernel_rfl) ?_
        refine over_nil ?_
        simp only [putAll, put_lit, List.set_cons_succ, List.set_cons_zero]
        go_wp2_with fail
        have hc2 := awake_any w9
        refine hc2.mono ?_
        clear hc2
        rintro e w8 ⟨rfl, b6⟩
        go_wp2
        exact post_of (by rfl) (by rfl) b6 (by rfl)
      case r1g64 =>
        intro w9 hb
        refine over_some (ds1 := [93, 94]) (ds2 := []) [(.bool true), (.bool true)] (by kernel_rfl) ?_
        refine over_nil ?_
        simp only [putAll, put_lit, List.set_cons_succ, List.set_cons_zero]
        go_wp2
        first | exact post_of (by rfl) (by rfl) (Below.refl _ _) (by rfl) | exact rfl
end Go.Proofs.Ytdpcknfplognmaa
