/- Layer 7: IdentOrder. -/
import Derived.Test.YtdpcknfplognmaaIm
namespace Go.Proofs.Ytdpcknfplognmaa
open Go.RowKit
set_option linter.unusedVariables false
theorem neq_bool (a b : Bool) (w : World) : (binOp .neq 4 (.bool a) (.bool b)).run Try.prog w = .ok (.bool (!(a == b))) w := by
  cases a <;> cases b <;> simp [go_sem]
theorem less_asym {x y : Id3} (h : lessB x y = true) : lessB y x = false := by
  cases h2 : lessB y x
  · rfl
  · have := less_trans h h2; rw [less_irr] at this; cases this
theorem three (x y : Id3) : (lessB x y = true ∧ lessB y x = false ∧ x ≠ y) ∨ (lessB x y = false ∧ lessB y x = true ∧ x ≠ y) ∨ (lessB x y = false ∧ lessB y x = false ∧ x = y) := by
  cases h1 : lessB x y
  · cases h2 : lessB y x
    · exact .inr (.inr ⟨rfl, rfl, less_tri h1 h2⟩)
    · exact .inr (.inl ⟨rfl, rfl, (less_ne h2).symm⟩)
  · exact .inl ⟨rfl, less_asym h1, less_ne h1⟩
theorem less_succ (x : Id3) : lessB x (x.1, x.2.1, x.2.2 + 1) = true := by rw [less_iff]; exact .inr ⟨rfl, .inr ⟨rfl, by show x.2.2 < x.2.2 + 1; omega⟩⟩
theorem none_between {x y : Id3} (h : lessB x y = true) : lessB y (x.1, x.2.1, x.2.2 + 1) = false := by rw [less_iff] at h; rw [less_not]; simp only; omega
theorem boxes3 (w : World) (x y z : Id3) : Hid (IdBlk (((w.alloc (.cells #[.int .u8 x.1, .int .u16 x.2.1, .int .u32 x.2.2] 25)).alloc (.cells #[.int .u8 y.1, .int .u16 y.2.1, .int .u32 y.2.2] 25)).alloc (.cells #[.int .u8 z.1, .int .u16 z.2.1, .int .u32 z.2.2] 25)) w.heap.size x) ∧ Hid (IdBlk (((w.alloc (.cells #[.int .u8 x.1, .int .u16 x.2.1, .int .u32 x.2.2] 25)).alloc (.cells #[.int .u8 y.1, .int .u16 y.2.1, .int .u32 y.2.2] 25)).alloc (.cells #[.int .u8 z.1, .int .u16 z.2.1, .int .u32 z.2.2] 25)) (w.heap.size + 1) y) ∧
    Hid (IdBlk (((w.alloc (.cells #[.int .u8 x.1, .int .u16 x.2.1, .int .u32 x.2.2] 25)).alloc (.cells #[.int .u8 y.1, .int .u16 y.2.1, .int .u32 y.2.2] 25)).alloc (.cells #[.int .u8 z.1, .int .u16 z.2.1, .int .u32 z.2.2] 25)) (w.heap.size + 1 + 1) z) ∧ Hid (Below w.heap.size w (((w.alloc (.cells #[.int .u8 x.1, .int .u16 x.2.1, .int .u32 x.2.2] 25)).alloc (.cells #[.int .u8 y.1, .int .u16 y.2.1, .int .u32 y.2.2] 25)).alloc (.cells #[.int .u8 z.1, .int .u16 z.2.1, .int .u32 z.2.2] 25))) := by
  unfold Hid
  refine ⟨((IdBlk.new w x).next (below_lit _ _)).next (below_lit _ _), ?_, ?_, thn (thn (below_lit _ _) (below_lit _ _)) (below_lit _ _)⟩
  · have := (IdBlk.new (w.alloc (.cells #[.int .u8 x.1, .int .u16 x.2.1, .int .u32 x.2.2] 25)) y).next (below_lit _ (.cells #[.int .u8 z.1, .int .u16 z.2.1, .int .u32 z.2.2] 25)); simpa using this
  · have := IdBlk.new ((w.alloc (.cells #[.int .u8 x.1, .int .u16 x.2.1, .int .u32 x.2.2] 25)).alloc (.cells #[.int .u8 y.1, .int .u16 y.2.1, .int .u32 y.2.2] 25)) z; simpa using this
set_option maxRecDepth 100000 in
set_option maxHeartbeats 20000000 in
theorem iorder_walk (x y z : Id3) (last : Int) (w : World) (hx : idR x) (hl : 0 ≤ last ∧ last ≤ 4294967295) :
    Calls Try.prog 5 #[(.agg #[.int .u8 x.1, .int .u16 x.2.1, .int .u32 x.2.2]), (.agg #[.int .u8 y.1, .int .u16 y.2.1, .int .u32 y.2.2]), (.agg #[.int .u8 z.1, .int .u16 z.2.1, .int .u32 z.2.2]), .int .u32 last] w fun e w' => e = .returned (.bool true) ∧ Below w.heap.size w w' := by
  obtain ⟨⟨x0, x1⟩, ⟨y0, y1⟩, z0, z1⟩ := hx
  obtain ⟨l0, l1⟩ := hl
  have ntf : ∀ w', (binOp .neq 4 (.bool true) (.bool true)).run Try.prog w' = .ok (.bool false) w' := fun w' => (neq_bool true true w').trans (by simp)
  have nff : ∀ w', (binOp .neq 4 (.bool false) (.bool false)).run Try.prog w' = .ok (.bool false) w' := fun w' => (neq_bool false false w').trans (by simp)
  have H3 := Lib.hid (three x y)
  have H4 := Lib.hid (fun (h : lessB x y = true) (h' : lessB y z = true) => less_trans h h')
  have H5 := Lib.hid (less_succ x)
  have H6 := Lib.hid (fun (h : lessB x y = true) => none_between h)
  obtain ⟨KX, KY, KZ, B⟩ := boxes3 w x y z
  rcases H3.out with ⟨E1, E2, E0⟩ | ⟨E1, E2, E0⟩ | ⟨E1, E2, E0⟩
  · replace E1 := Lib.hid E1
    replace E2 := Lib.hid E2
    have heq := fun w' : World => (ideql x y w').trans (by rw [decide_eq_false E0])
    clear E0
    cases hE3 : lessB y z
    · have E3 := Lib.hid hE3
      clear hE3
      by_cases er : last ≤ x.2.2
      · skip
        go_enter Try.func5, Try.ntmps5
        go_upto_region 1 with fail
        generalize ((w.alloc (.cells #[.int .u8 x.1, .int .u16 x.2.1, .int .u32 x.2.2] 25)).alloc (.cells #[.int .u8 y.1, .int .u16 y.2.1, .int .u32 y.2.2] 25)).alloc (.cells #[.int .u8 z.1, .int .u16 z.2.1, .int .u32 z.2.2] 25) = w1 at *
        obtain ⟨gx, hgx⟩ : ∃ g, w.heap.size = g := ⟨_, rfl⟩
        rw [hgx] at KX KY KZ ⊢
        clear hgx
        obtain ⟨gy, hgy⟩ : ∃ g, gx + 1 = g := ⟨_, rfl⟩
        rw [hgy] at KY KZ ⊢
        clear hgy
        obtain ⟨gz, hgz⟩ : ∃ g, gy + 1 = g := ⟨_, rfl⟩
        rw [hgz] at KZ ⊢
        clear hgz
        obtain ⟨pKX, qKX, rKX⟩ := KX.out.cells
        obtain ⟨pKY, qKY, rKY⟩ := KY.out.cells
        go_wp2_with fail
        have hc := less_any x y w1
        rw [E1.out] at hc
        refine hc.mono ?_
        clear hc
        clear pKX qKX rKX pKY qKY rKY
        rintro e w2 ⟨rfl, b5⟩
        replace KX := Lib.hid (KX.out.next b5)
        replace KY := Lib.hid (KY.out.next b5)
        replace KZ := Lib.hid (KZ.out.next b5)
        replace B := Lib.hid (thn B.out b5)
        clear b5
        obtain ⟨pKX, qKX, rKX⟩ := KX.out.cells
        obtain ⟨pKY, qKY, rKY⟩ := KY.out.cells
        go_wp2_with fail
        have hc := less_any y x w2
        rw [E2.out] at hc
        refine hc.mono ?_
        clear hc
        clear pKX qKX rKX pKY qKY rKY
        rintro e w3 ⟨rfl, b5⟩
        replace KX := Lib.hid (KX.out.next b5)
        replace KY := Lib.hid (KY.out.next b5)
        replace KZ := Lib.hid (KZ.out.next b5)
        replace B := Lib.hid (thn B.out b5)
        clear b5
        obtain ⟨pKX, qKX, rKX⟩ := KX.out.cells
        obtain ⟨pKY, qKY, rKY⟩ := KY.out.cells
        go_wp2_with fail
        have hc := less_any x y w3
        rw [E1.out] at hc
        refine hc.mono ?_
        clear hc
        clear pKX qKX rKX pKY qKY rKY
        rintro e w4 ⟨rfl, b5⟩
        replace KX := Lib.hid (KX.out.next b5)
        replace KY := Lib.hid (KY.out.next b5)
        replace KZ := Lib.hid (KZ.out.next b5)
        replace B := Lib.hid (thn B.out b5)
        clear b5
        obtain ⟨pKY, qKY, rKY⟩ := KY.out.cells
        obtain ⟨pKZ, qKZ, rKZ⟩ := KZ.out.cells
        go_wp2_with fail
        have hc := less_any y z w4
        rw [E3.out] at hc
        refine hc.mono ?_
        clear hc
        clear pKY qKY rKY pKZ qKZ rKZ
        rintro e w5 ⟨rfl, b5⟩
        replace KX := Lib.hid (KX.out.next b5)
        replace KY := Lib.hid (KY.out.next b5)
        replace KZ := Lib.hid (KZ.out.next b5)
        replace B := Lib.hid (thn B.out b5)
        clear b5
        obtain ⟨pKX, qKX, rKX⟩ := KX.out.cells
        go_wp2_with fail
        have hc := next_end x last w5 er
        refine hc.mono ?_
        clear hc
        clear pKX qKX rKX
        rintro e w6 ⟨rfl, b5⟩
        replace KX := Lib.hid (KX.out.next b5)
        replace KY := Lib.hid (KY.out.next b5)
        replace KZ := Lib.hid (KZ.out.next b5)
        replace B := Lib.hid (thn B.out b5)
        clear b5
        go_upto_region 9 with fail
        have hbl := below_lit w6 (.cells #[.int .u8 0, .int .u16 0, .int .u32 0] 25)
        replace KX := Lib.hid (KX.out.next hbl)
        replace KY := Lib.hid (KY.out.next hbl)
        replace KZ := Lib.hid (KZ.out.next hbl)
        replace B := Lib.hid (thn B.out hbl)
        clear hbl
        have KN : Hid (IdBlk (w6.alloc (.cells #[.int .u8 0, .int .u16 0, .int .u32 0] 25)) w6.heap.size (0, 0, 0)) := IdBlk.new w6 (0, 0, 0)
        generalize w6.alloc (.cells #[.int .u8 0, .int .u16 0, .int .u32 0] 25) = w7 at *
        obtain ⟨gn, hgn⟩ : ∃ g, w6.heap.size = g := ⟨_, rfl⟩
        rw [hgn] at KN ⊢
        clear hgn
        have heq0 : ∀ w' : World, (binOp .eql 25 (.agg #[.int .u8 0, .int .u16 0, .int .u32 0]) (.agg #[.int .u8 0, .int .u16 0, .int .u32 0])).run Try.prog w' = .ok (.bool true) w' := fun w' => by simpa using ideql (0, 0, 0) (0, 0, 0) w'
        obtain ⟨pKX, qKX, rKX⟩ := KX.out.cells
        obtain ⟨pKN, qKN, rKN⟩ := KN.out.cells
        go_wp2_with fail
        have hc := awake_any w7
        refine hc.mono ?_
        clear hc
        clear pKX qKX rKX pKN qKN rKN
        rintro e w8 ⟨rfl, b5⟩
        replace KX := Lib.hid (KX.out.next b5)
        replace KY := Lib.hid (KY.out.next b5)
        replace KZ := Lib.hid (KZ.out.next b5)
        replace KN := Lib.hid (KN.out.next b5)
        replace B := Lib.hid (thn B.out b5)
        clear b5
        go_wp2
        go_ret
        exact ⟨rfl, B.out⟩
      · replace er : x.2.2 < last := by omega
        go_enter Try.func5, Try.ntmps5
        go_upto_region 1 with fail
        generalize ((w.alloc (.cells #[.int .u8 x.1, .int .u16 x.2.1, .int .u32 x.2.2] 25)).alloc (.cells #[.int .u8 y.1, .int .u16 y.2.1, .int .u32 y.2.2] 25)).alloc (.cells #[.int .u8 z.1, .int .u16 z.2.1, .int .u32 z.2.2] 25) = w1 at *
        obtain ⟨gx, hgx⟩ : ∃ g, w.heap.size = g := ⟨_, rfl⟩
        rw [hgx] at KX KY KZ ⊢
        clear hgx
        obtain ⟨gy, hgy⟩ : ∃ g, gx + 1 = g := ⟨_, rfl⟩
        rw [hgy] at KY KZ ⊢
        clear hgy
        obtain ⟨gz, hgz⟩ : ∃ g, gy + 1 = g := ⟨_, rfl⟩
        rw [hgz] at KZ ⊢
        clear hgz
        obtain ⟨pKX, qKX, rKX⟩ := KX.out.cells
        obtain ⟨pKY, qKY, rKY⟩ := KY.out.cells
        go_wp2_with fail
        have hc := less_any x y w1
        rw [E1.out] at hc
        refine hc.mono ?_
        clear hc
        clear pKX qKX rKX pKY qKY rKY
        rintro e w2 ⟨rfl, b5⟩
        replace KX := Lib.hid (KX.out.next b5)
        replace KY := Lib.hid (KY.out.next b5)
        replace KZ := Lib.hid (KZ.out.next b5)
        replace B := Lib.hid (thn B.out b5)
        clear b5
        obtain ⟨pKX, qKX, rKX⟩ := KX.out.cells
        obtain ⟨pKY, qKY, rKY⟩ := KY.out.cells
        go_wp2_with fail
        have hc := less_any y x w2
        rw [E2.out] at hc
        refine hc.mono ?_
        clear hc
        clear pKX qKX rKX pKY qKY rKY
        rintro e w3 ⟨rfl, b5⟩
        replace KX := Lib.hid (KX.out.next b5)
        replace KY := Lib.hid (KY.out.next b5)
        replace KZ := Lib.hid (KZ.out.next b5)
        replace B := Lib.hid (thn B.out b5)
        clear b5
        obtain ⟨pKX, qKX, rKX⟩ := KX.out.cells
        obtain ⟨pKY, qKY, rKY⟩ := KY.out.cells
        go_wp2_with fail
        have hc := less_any x y w3
        rw [E1.out] at hc
        refine hc.mono ?_
        clear hc
        clear pKX qKX rKX pKY qKY rKY
        rintro e w4 ⟨rfl, b5⟩
        replace KX := Lib.hid (KX.out.next b5)
        replace KY := Lib.hid (KY.out.next b5)
        replace KZ := Lib.hid (KZ.out.next b5)
        replace B := Lib.hid (thn B.out b5)
        clear b5
        obtain ⟨pKY, qKY, rKY⟩ := KY.out.cells
        obtain ⟨pKZ, qKZ, rKZ⟩ := KZ.out.cells
        go_wp2_with fail
        have hc := less_any y z w4
        rw [E3.out] at hc
        refine hc.mono ?_
        clear hc
        clear pKY qKY rKY pKZ qKZ rKZ
        rintro e w5 ⟨rfl, b5⟩
        replace KX := Lib.hid (KX.out.next b5)
        replace KY := Lib.hid (KY.out.next b5)
        replace KZ := Lib.hid (KZ.out.next b5)
        replace B := Lib.hid (thn B.out b5)
        clear b5
        obtain ⟨pKX, qKX, rKX⟩ := KX.out.cells
        go_wp2_with fail
        have hc := next_more x last w5 z0 er l1
        refine hc.mono ?_
        clear hc
        clear pKX qKX rKX
        rintro e w6 ⟨rfl, b5⟩
        replace KX := Lib.hid (KX.out.next b5)
        replace KY := Lib.hid (KY.out.next b5)
        replace KZ := Lib.hid (KZ.out.next b5)
        replace B := Lib.hid (thn B.out b5)
        clear b5
        go_upto_region 9 with fail
        have hbl := below_lit w6 (.cells #[.int .u8 x.1, .int .u16 x.2.1, .int .u32 (x.2.2 + 1)] 25)
        replace KX := Lib.hid (KX.out.next hbl)
        replace KY := Lib.hid (KY.out.next hbl)
        replace KZ := Lib.hid (KZ.out.next hbl)
        replace B := Lib.hid (thn B.out hbl)
        clear hbl
        have KN : Hid (IdBlk (w6.alloc (.cells #[.int .u8 x.1, .int .u16 x.2.1, .int .u32 (x.2.2 + 1)] 25)) w6.heap.size (x.1, x.2.1, x.2.2 + 1)) := IdBlk.new w6 (x.1, x.2.1, x.2.2 + 1)
        generalize w6.alloc (.cells #[.int .u8 x.1, .int .u16 x.2.1, .int .u32 (x.2.2 + 1)] 25) = w7 at *
        obtain ⟨gn, hgn⟩ : ∃ g, w6.heap.size = g := ⟨_, rfl⟩
        rw [hgn] at KN ⊢
        clear hgn
        obtain ⟨pKX, qKX, rKX⟩ := KX.out.cells
        obtain ⟨pKN, qKN, rKN⟩ := KN.out.cells
        go_wp2_with fail
        have hc := less_any x (x.1, x.2.1, x.2.2 + 1) w7
        rw [H5.out] at hc
        refine hc.mono ?_
        clear hc
        clear pKX qKX rKX pKN qKN rKN
        rintro e w8 ⟨rfl, b5⟩
        replace KX := Lib.hid (KX.out.next b5)
        replace KY := Lib.hid (KY.out.next b5)
        replace KZ := Lib.hid (KZ.out.next b5)
        replace KN := Lib.hid (KN.out.next b5)
        replace B := Lib.hid (thn B.out b5)
        clear b5
        obtain ⟨pKX, qKX, rKX⟩ := KX.out.cells
        obtain ⟨pKY, qKY, rKY⟩ := KY.out.cells
        obtain ⟨pKN, qKN, rKN⟩ := KN.out.cells
        go_wp2_with fail
        have hc := less_any x y w8
        rw [E1.out] at hc
        refine hc.mono ?_
        clear hc
        clear pKX qKX rKX pKY qKY rKY pKN qKN rKN
        rintro e w9 ⟨rfl, b5⟩
        replace KX := Lib.hid (KX.out.next b5)
        replace KY := Lib.hid (KY.out.next b5)
        replace KZ := Lib.hid (KZ.out.next b5)
        replace KN := Lib.hid (KN.out.next b5)
        replace B := Lib.hid (thn B.out b5)
        clear b5
        obtain ⟨pKY, qKY, rKY⟩ := KY.out.cells
        obtain ⟨pKN, qKN, rKN⟩ := KN.out.cells
        go_wp2_with fail
        have hc := less_any y (x.1, x.2.1, x.2.2 + 1) w9
        rw [H6.out E1.out] at hc
        refine hc.mono ?_
        clear hc
        clear pKY qKY rKY pKN qKN rKN
        rintro e w10 ⟨rfl, b5⟩
        replace KX := Lib.hid (KX.out.next b5)
        replace KY := Lib.hid (KY.out.next b5)
        replace KZ := Lib.hid (KZ.out.next b5)
        replace KN := Lib.hid (KN.out.next b5)
        replace B := Lib.hid (thn B.out b5)
        clear b5
        go_wp2_with fail
        have hc := awake_any w10
        refine hc.mono ?_
        clear hc
        rintro e w11 ⟨rfl, b5⟩
        replace KX := Lib.hid (KX.out.next b5)
        replace KY := Lib.hid (KY.out.next b5)
        replace KZ := Lib.hid (KZ.out.next b5)
        replace KN := Lib.hid (KN.out.next b5)
        replace B := Lib.hid (thn B.out b5)
        clear b5
        go_wp2
        go_ret
        exact ⟨rfl, B.out⟩
    · have E3 := Lib.hid hE3
      clear hE3
      by_cases er : last ≤ x.2.2
      · skip
        go_enter Try.func5, Try.ntmps5
        go_upto_region 1 with fail
        generalize ((w.alloc (.cells #[.int .u8 x.1, .int .u16 x.2.1, .int .u32 x.2.2] 25)).alloc (.cells #[.int .u8 y.1, .int .u16 y.2.1, .int .u32 y.2.2] 25)).alloc (.cells #[.int .u8 z.1, .int .u16 z.2.1, .int .u32 z.2.2] 25) = w1 at *
        obtain ⟨gx, hgx⟩ : ∃ g, w.heap.size = g := ⟨_, rfl⟩
        rw [hgx] at KX KY KZ ⊢
        clear hgx
        obtain ⟨gy, hgy⟩ : ∃ g, gx + 1 = g := ⟨_, rfl⟩
        rw [hgy] at KY KZ ⊢
        clear hgy
        obtain ⟨gz, hgz⟩ : ∃ g, gy + 1 = g := ⟨_, rfl⟩
        rw [hgz] at KZ ⊢
        clear hgz
        obtain ⟨pKX, qKX, rKX⟩ := KX.out.cells
        obtain ⟨pKY, qKY, rKY⟩ := KY.out.cells
        go_wp2_with fail
        have hc := less_any x y w1
        rw [E1.out] at hc
        refine hc.mono ?_
        clear hc
        clear pKX qKX rKX pKY qKY rKY
        rintro e w2 ⟨rfl, b5⟩
        replace KX := Lib.hid (KX.out.next b5)
        replace KY := Lib.hid (KY.out.next b5)
        replace KZ := Lib.hid (KZ.out.next b5)
        replace B := Lib.hid (thn B.out b5)
        clear b5
        obtain ⟨pKX, qKX, rKX⟩ := KX.out.cells
        obtain ⟨pKY, qKY, rKY⟩ := KY.out.cells
        go_wp2_with fail
        have hc := less_any y x w2
        rw [E2.out] at hc
        refine hc.mono ?_
        clear hc
        clear pKX qKX rKX pKY qKY rKY
        rintro e w3 ⟨rfl, b5⟩
        replace KX := Lib.hid (KX.out.next b5)
        replace KY := Lib.hid (KY.out.next b5)
        replace KZ := Lib.hid (KZ.out.next b5)
        replace B := Lib.hid (thn B.out b5)
        clear b5
        obtain ⟨pKX, qKX, rKX⟩ := KX.out.cells
        obtain ⟨pKY, qKY, rKY⟩ := KY.out.cells
        go_wp2_with fail
        have hc := less_any x y w3
        rw [E1.out] at hc
        refine hc.mono ?_
        clear hc
        clear pKX qKX rKX pKY qKY rKY
        rintro e w4 ⟨rfl, b5⟩
        replace KX := Lib.hid (KX.out.next b5)
        replace KY := Lib.hid (KY.out.next b5)
        replace KZ := Lib.hid (KZ.out.next b5)
        replace B := Lib.hid (thn B.out b5)
        clear b5
        obtain ⟨pKY, qKY, rKY⟩ := KY.out.cells
        obtain ⟨pKZ, qKZ, rKZ⟩ := KZ.out.cells
        go_wp2_with fail
        have hc := less_any y z w4
        rw [E3.out] at hc
        refine hc.mono ?_
        clear hc
        clear pKY qKY rKY pKZ qKZ rKZ
        rintro e w5 ⟨rfl, b5⟩
        replace KX := Lib.hid (KX.out.next b5)
        replace KY := Lib.hid (KY.out.next b5)
        replace KZ := Lib.hid (KZ.out.next b5)
        replace B := Lib.hid (thn B.out b5)
        clear b5
        obtain ⟨pKX, qKX, rKX⟩ := KX.out.cells
        obtain ⟨pKZ, qKZ, rKZ⟩ := KZ.out.cells
        go_wp2_with fail
        have hc := less_any x z w5
        rw [H4.out E1.out E3.out] at hc
        refine hc.mono ?_
        clear hc
        clear pKX qKX rKX pKZ qKZ rKZ
        rintro e w6 ⟨rfl, b5⟩
        replace KX := Lib.hid (KX.out.next b5)
        replace KY := Lib.hid (KY.out.next b5)
        replace KZ := Lib.hid (KZ.out.next b5)
        replace B := Lib.hid (thn B.out b5)
        clear b5
        obtain ⟨pKX, qKX, rKX⟩ := KX.out.cells
        go_wp2_with fail
        have hc := next_end x last w6 er
        refine hc.mono ?_
        clear hc
        clear pKX qKX rKX
        rintro e w7 ⟨rfl, b5⟩
        replace KX := Lib.hid (KX.out.next b5)
        replace KY := Lib.hid (KY.out.next b5)
        replace KZ := Lib.hid (KZ.out.next b5)
        replace B := Lib.hid (thn B.out b5)
        clear b5
        go_upto_region 9 with fail
        have hbl := below_lit w7 (.cells #[.int .u8 0, .int .u16 0, .int .u32 0] 25)
        replace KX := Lib.hid (KX.out.next hbl)
        replace KY := Lib.hid (KY.out.next hbl)
        replace KZ := Lib.hid (KZ.out.next hbl)
        replace B := Lib.hid (thn B.out hbl)
        clear hbl
        have KN : Hid (IdBlk (w7.alloc (.cells #[.int .u8 0, .int .u16 0, .int .u32 0] 25)) w7.heap.size (0, 0, 0)) := IdBlk.new w7 (0, 0, 0)
        generalize w7.alloc (.cells #[.int .u8 0, .int .u16 0, .int .u32 0] 25) = w8 at *
        obtain ⟨gn, hgn⟩ : ∃ g, w7.heap.size = g := ⟨_, rfl⟩
        rw [hgn] at KN ⊢
        clear hgn
        have heq0 : ∀ w' : World, (binOp .eql 25 (.agg #[.int .u8 0, .int .u16 0, .int .u32 0]) (.agg #[.int .u8 0, .int .u16 0, .int .u32 0])).run Try.prog w' = .ok (.bool true) w' := fun w' => by simpa using ideql (0, 0, 0) (0, 0, 0) w'
        obtain ⟨pKX, qKX, rKX⟩ := KX.out.cells
        obtain ⟨pKN, qKN, rKN⟩ := KN.out.cells
        go_wp2_with fail
        have hc := awake_any w8
        refine hc.mono ?_
        clear hc
        clear pKX qKX rKX pKN qKN rKN
        rintro e w9 ⟨rfl, b5⟩
        replace KX := Lib.hid (KX.out.next b5)
        replace KY := Lib.hid (KY.out.next b5)
        replace KZ := Lib.hid (KZ.out.next b5)
        replace KN := Lib.hid (KN.out.next b5)
        replace B := Lib.hid (thn B.out b5)
        clear b5
        go_wp2
        go_ret
        exact ⟨rfl, B.out⟩
      · replace er : x.2.2 < last := by omega
        go_enter Try.func5, Try.ntmps5
        go_upto_region 1 with fail
        generalize ((w.alloc (.cells #[.int .u8 x.1, .int .u16 x.2.1, .int .u32 x.2.2] 25)).alloc (.cells #[.int .u8 y.1, .int .u16 y.2.1, .int .u32 y.2.2] 25)).alloc (.cells #[.int .u8 z.1, .int .u16 z.2.1, .int .u32 z.2.2] 25) = w1 at *
        obtain ⟨gx, hgx⟩ : ∃ g, w.heap.size = g := ⟨_, rfl⟩
        rw [hgx] at KX KY KZ ⊢
        clear hgx
        obtain ⟨gy, hgy⟩ : ∃ g, gx + 1 = g := ⟨_, rfl⟩
        rw [hgy] at KY KZ ⊢
        clear hgy
        obtain ⟨gz, hgz⟩ : ∃ g, gy + 1 = g := ⟨_, rfl⟩
        rw [hgz] at KZ ⊢
        clear hgz
        obtain ⟨pKX, qKX, rKX⟩ := KX.out.cells
        obtain ⟨pKY, qKY, rKY⟩ := KY.out.cells
        go_wp2_with fail
        have hc := less_any x y w1
        rw [E1.out] at hc
        refine hc.mono ?_
        clear hc
        clear pKX qKX rKX pKY qKY rKY
        rintro e w2 ⟨rfl, b5⟩
        replace KX := Lib.hid (KX.out.next b5)
        replace KY := Lib.hid (KY.out.next b5)
        replace KZ := Lib.hid (KZ.out.next b5)
        replace B := Lib.hid (thn B.out b5)
        clear b5
        obtain ⟨pKX, qKX, rKX⟩ := KX.out.cells
        obtain ⟨pKY, qKY, rKY⟩ := KY.out.cells
        go_wp2_with fail
        have hc := less_any y x w2
        rw [E2.out] at hc
        refine hc.mono ?_
        clear hc
        clear pKX qKX rKX pKY qKY rKY
        rintro e w3 ⟨rfl, b5⟩
        replace KX := Lib.hid (KX.out.next b5)
        replace KY := Lib.hid (KY.out.next b5)
        replace KZ := Lib.hid (KZ.out.next b5)
        replace B := Lib.hid (thn B.out b5)
        clear b5
        obtain ⟨pKX, qKX, rKX⟩ := KX.out.cells
        obtain ⟨pKY, qKY, rKY⟩ := KY.out.cells
        go_wp2_with fail
        have hc := less_any x y w3
        rw [E1.out] at hc
        refine hc.mono ?_
        clear hc
        clear pKX qKX rKX pKY qKY rKY
        rintro e w4 ⟨rfl, b5⟩
        replace KX := Lib.hid (KX.out.next b5)
        replace KY := Lib.hid (KY.out.next b5)
        replace KZ := Lib.hid (KZ.out.next b5)
        replace B := Lib.hid (thn B.out b5)
        clear b5
        obtain ⟨pKY, qKY, rKY⟩ := KY.out.cells
        obtain ⟨pKZ, qKZ, rKZ⟩ := KZ.out.cells
        go_wp2_with fail
        have hc := less_any y z w4
        rw [E3.out] at hc
        refine hc.mono ?_
        clear hc
        clear pKY qKY rKY pKZ qKZ rKZ
        rintro e w5 ⟨rfl, b5⟩
        replace KX := Lib.hid (KX.out.next b5)
        replace KY := Lib.hid (KY.out.next b5)
        replace KZ := Lib.hid (KZ.out.next b5)
        replace B := Lib.hid (thn B.out b5)
        clear b5
        obtain ⟨pKX, qKX, rKX⟩ := KX.out.cells
        obtain ⟨pKZ, qKZ, rKZ⟩ := KZ.out.cells
        go_wp2_with fail
        have hc := less_any x z w5
        rw [H4.out E1.out E3.out] at hc
        refine hc.mono ?_
        clear hc
        clear pKX qKX rKX pKZ qKZ rKZ
        rintro e w6 ⟨rfl, b5⟩
        replace KX := Lib.hid (KX.out.next b5)
        replace KY := Lib.hid (KY.out.next b5)
        replace KZ := Lib.hid (KZ.out.next b5)
        replace B := Lib.hid (thn B.out b5)
        clear b5
        obtain ⟨pKX, qKX, rKX⟩ := KX.out.cells
        go_wp2_with fail
        have hc := next_more x last w6 z0 er l1
        refine hc.mono ?_
        clear hc
        clear pKX qKX rKX
        rintro e w7 ⟨rfl, b5⟩
        replace KX := Lib.hid (KX.out.next b5)
        replace KY := Lib.hid (KY.out.next b5)
        replace KZ := Lib.hid (KZ.out.next b5)
        replace B := Lib.hid (thn B.out b5)
        clear b5
        go_upto_region 9 with fail
        have hbl := below_lit w7 (.cells #[.int .u8 x.1, .int .u16 x.2.1, .int .u32 (x.2.2 + 1)] 25)
        replace KX := Lib.hid (KX.out.next hbl)
        replace KY := Lib.hid (KY.out.next hbl)
        replace KZ := Lib.hid (KZ.out.next hbl)
        replace B := Lib.hid (thn B.out hbl)
        clear hbl
        have KN : Hid (IdBlk (w7.alloc (.cells #[.int .u8 x.1, .int .u16 x.2.1, .int .u32 (x.2.2 + 1)] 25)) w7.heap.size (x.1, x.2.1, x.2.2 + 1)) := IdBlk.new w7 (x.1, x.2.1, x.2.2 + 1)
        generalize w7.alloc (.cells #[.int .u8 x.1, .int .u16 x.2.1, .int .u32 (x.2.2 + 1)] 25) = w8 at *
        obtain ⟨gn, hgn⟩ : ∃ g, w7.heap.size = g := ⟨_, rfl⟩
        rw [hgn] at KN ⊢
        clear hgn
        obtain ⟨pKX, qKX, rKX⟩ := KX.out.cells
        obtain ⟨pKN, qKN, rKN⟩ := KN.out.cells
        go_wp2_with fail
        have hc := less_any x (x.1, x.2.1, x.2.2 + 1) w8
        rw [H5.out] at hc
        refine hc.mono ?_
        clear hc
        clear pKX qKX rKX pKN qKN rKN
        rintro e w9 ⟨rfl, b5⟩
        replace KX := Lib.hid (KX.out.next b5)
        replace KY := Lib.hid (KY.out.next b5)
        replace KZ := Lib.hid (KZ.out.next b5)
        replace KN := Lib.hid (KN.out.next b5)
        replace B := Lib.hid (thn B.out b5)
        clear b5
        obtain ⟨pKX, qKX, rKX⟩ := KX.out.cells
        obtain ⟨pKY, qKY, rKY⟩ := KY.out.cells
        obtain ⟨pKN, qKN, rKN⟩ := KN.out.cells
        go_wp2_with fail
        have hc := less_any x y w9
        rw [E1.out] at hc
        refine hc.mono ?_
        clear hc
        clear pKX qKX rKX pKY qKY rKY pKN qKN rKN
        rintro e w10 ⟨rfl, b5⟩
        replace KX := Lib.hid (KX.out.next b5)
        replace KY := Lib.hid (KY.out.next b5)
        replace KZ := Lib.hid (KZ.out.next b5)
        replace KN := Lib.hid (KN.out.next b5)
        replace B := Lib.hid (thn B.out b5)
        clear b5
        obtain ⟨pKY, qKY, rKY⟩ := KY.out.cells
        obtain ⟨pKN, qKN, rKN⟩ := KN.out.cells
        go_wp2_with fail
        have hc := less_any y (x.1, x.2.1, x.2.2 + 1) w10
        rw [H6.out E1.out] at hc
        refine hc.mono ?_
        clear hc
        clear pKY qKY rKY pKN qKN rKN
        rintro e w11 ⟨rfl, b5⟩
        replace KX := Lib.hid (KX.out.next b5)
        replace KY := Lib.hid (KY.out.next b5)
        replace KZ := Lib.hid (KZ.out.next b5)
        replace KN := Lib.hid (KN.out.next b5)
        replace B := Lib.hid (thn B.out b5)
        clear b5
        go_wp2_with fail
        have hc := awake_any w11
        refine hc.mono ?_
        clear hc
        rintro e w12 ⟨rfl, b5⟩
        replace KX := Lib.hid (KX.out.next b5)
        replace KY := Lib.hid (KY.out.next b5)
        replace KZ := Lib.hid (KZ.out.next b5)
        replace KN := Lib.hid (KN.out.next b5)
        replace B := Lib.hid (thn B.out b5)
        clear b5
        go_wp2
        go_ret
        exact ⟨rfl, B.out⟩
  · replace E1 := Lib.hid E1
    replace E2 := Lib.hid E2
    have heq := fun w' : World => (ideql x y w').trans (by rw [decide_eq_false E0])
    clear E0
    by_cases er : last ≤ x.2.2
    · skip
      go_enter Try.func5, Try.ntmps5
      go_upto_region 1 with fail
      generalize ((w.alloc (.cells #[.int .u8 x.1, .int .u16 x.2.1, .int .u32 x.2.2] 25)).alloc (.cells #[.int .u8 y.1, .int .u16 y.2.1, .int .u32 y.2.2] 25)).alloc (.cells #[.int .u8 z.1, .int .u16 z.2.1, .int .u32 z.2.2] 25) = w1 at *
      obtain ⟨gx, hgx⟩ : ∃ g, w.heap.size = g := ⟨_, rfl⟩
      rw [hgx] at KX KY KZ ⊢
      clear hgx
      obtain ⟨gy, hgy⟩ : ∃ g, gx + 1 = g := ⟨_, rfl⟩
      rw [hgy] at KY KZ ⊢
      clear hgy
      obtain ⟨gz, hgz⟩ : ∃ g, gy + 1 = g := ⟨_, rfl⟩
      rw [hgz] at KZ ⊢
      clear hgz
      obtain ⟨pKX, qKX, rKX⟩ := KX.out.cells
      obtain ⟨pKY, qKY, rKY⟩ := KY.out.cells
      go_wp2_with fail
      have hc := less_any x y w1
      rw [E1.out] at hc
      refine hc.mono ?_
      clear hc
      clear pKX qKX rKX pKY qKY rKY
      rintro e w2 ⟨rfl, b5⟩
      replace KX := Lib.hid (KX.out.next b5)
      replace KY := Lib.hid (KY.out.next b5)
      replace KZ := Lib.hid (KZ.out.next b5)
      replace B := Lib.hid (thn B.out b5)
      clear b5
      obtain ⟨pKX, qKX, rKX⟩ := KX.out.cells
      obtain ⟨pKY, qKY, rKY⟩ := KY.out.cells
      go_wp2_with fail
      have hc := less_any y x w2
      rw [E2.out] at hc
      refine hc.mono ?_
      clear hc
      clear pKX qKX rKX pKY qKY rKY
      rintro e w3 ⟨rfl, b5⟩
      replace KX := Lib.hid (KX.out.next b5)
      replace KY := Lib.hid (KY.out.next b5)
      replace KZ := Lib.hid (KZ.out.next b5)
      replace B := Lib.hid (thn B.out b5)
      clear b5
      obtain ⟨pKX, qKX, rKX⟩ := KX.out.cells
      obtain ⟨pKY, qKY, rKY⟩ := KY.out.cells
      go_wp2_with fail
      have hc := less_any x y w3
      rw [E1.out] at hc
      refine hc.mono ?_
      clear hc
      clear pKX qKX rKX pKY qKY rKY
      rintro e w4 ⟨rfl, b5⟩
      replace KX := Lib.hid (KX.out.next b5)
      replace KY := Lib.hid (KY.out.next b5)
      replace KZ := Lib.hid (KZ.out.next b5)
      replace B := Lib.hid (thn B.out b5)
      clear b5
      obtain ⟨pKX, qKX, rKX⟩ := KX.out.cells
      go_wp2_with fail
      have hc := next_end x last w4 er
      refine hc.mono ?_
      clear hc
      clear pKX qKX rKX
      rintro e w5 ⟨rfl, b5⟩
      replace KX := Lib.hid (KX.out.next b5)
      replace KY := Lib.hid (KY.out.next b5)
      replace KZ := Lib.hid (KZ.out.next b5)
      replace B := Lib.hid (thn B.out b5)
      clear b5
      go_upto_region 9 with fail
      have hbl := below_lit w5 (.cells #[.int .u8 0, .int .u16 0, .int .u32 0] 25)
      replace KX := Lib.hid (KX.out.next hbl)
      replace KY := Lib.hid (KY.out.next hbl)
      replace KZ := Lib.hid (KZ.out.next hbl)
      replace B := Lib.hid (thn B.out hbl)
      clear hbl
      have KN : Hid (IdBlk (w5.alloc (.cells #[.int .u8 0, .int .u16 0, .int .u32 0] 25)) w5.heap.size (0, 0, 0)) := IdBlk.new w5 (0, 0, 0)
      generalize w5.alloc (.cells #[.int .u8 0, .int .u16 0, .int .u32 0] 25) = w6 at *
      obtain ⟨gn, hgn⟩ : ∃ g, w5.heap.size = g := ⟨_, rfl⟩
      rw [hgn] at KN ⊢
      clear hgn
      have heq0 : ∀ w' : World, (binOp .eql 25 (.agg #[.int .u8 0, .int .u16 0, .int .u32 0]) (.agg #[.int .u8 0, .int .u16 0, .int .u32 0])).run Try.prog w' = .ok (.bool true) w' := fun w' => by simpa using ideql (0, 0, 0) (0, 0, 0) w'
      obtain ⟨pKX, qKX, rKX⟩ := KX.out.cells
      obtain ⟨pKN, qKN, rKN⟩ := KN.out.cells
      go_wp2_with fail
      have hc := awake_any w6
      refine hc.mono ?_
      clear hc
      clear pKX qKX rKX pKN qKN rKN
      rintro e w7 ⟨rfl, b5⟩
      replace KX := Lib.hid (KX.out.next b5)
      replace KY := Lib.hid (KY.out.next b5)
      replace KZ := Lib.hid (KZ.out.next b5)
      replace KN := Lib.hid (KN.out.next b5)
      replace B := Lib.hid (thn B.out b5)
      clear b5
      go_wp2
      go_ret
      exact ⟨rfl, B.out⟩
    · replace er : x.2.2 < last := by omega
      go_enter Try.func5, Try.ntmps5
      go_upto_region 1 with fail
      generalize ((w.alloc (.cells #[.int .u8 x.1, .int .u16 x.2.1, .int .u32 x.2.2] 25)).alloc (.cells #[.int .u8 y.1, .int .u16 y.2.1, .int .u32 y.2.2] 25)).alloc (.cells #[.int .u8 z.1, .int .u16 z.2.1, .int .u32 z.2.2] 25) = w1 at *
      obtain ⟨gx, hgx⟩ : ∃ g, w.heap.size = g := ⟨_, rfl⟩
      rw [hgx] at KX KY KZ ⊢
      clear hgx
      obtain ⟨gy, hgy⟩ : ∃ g, gx + 1 = g := ⟨_, rfl⟩
      rw [hgy] at KY KZ ⊢
      clear hgy
      obtain ⟨gz, hgz⟩ : ∃ g, gy + 1 = g := ⟨_, rfl⟩
      rw [hgz] at KZ ⊢
      clear hgz
      obtain ⟨pKX, qKX, rKX⟩ := KX.out.cells
      obtain ⟨pKY, qKY, rKY⟩ := KY.out.cells
      go_wp2_with fail
      have hc := less_any x y w1
      rw [E1.out] at hc
      refine hc.mono ?_
      clear hc
      clear pKX qKX rKX pKY qKY rKY
      rintro e w2 ⟨rfl, b5⟩
      replace KX := Lib.hid (KX.out.next b5)
      replace KY := Lib.hid (KY.out.next b5)
      replace KZ := Lib.hid (KZ.out.next b5)
      replace B := Lib.hid (thn B.out b5)
      clear b5
      obtain ⟨pKX, qKX, rKX⟩ := KX.out.cells
      obtain ⟨pKY, qKY, rKY⟩ := KY.out.cells
      go_wp2_with fail
      have hc := less_any y x w2
      rw [E2.out] at hc
      refine hc.mono ?_
      clear hc
      clear pKX qKX rKX pKY qKY rKY
      rintro e w3 ⟨rfl, b5⟩
      replace KX := Lib.hid (KX.out.next b5)
      replace KY := Lib.hid (KY.out.next b5)
      replace KZ := Lib.hid (KZ.out.next b5)
      replace B := Lib.hid (thn B.out b5)
      clear b5
      obtain ⟨pKX, qKX, rKX⟩ := KX.out.cells
      obtain ⟨pKY, qKY, rKY⟩ := KY.out.cells
      go_wp2_with fail
      have hc := less_any x y w3
      rw [E1.out] at hc
      refine hc.mono ?_
      clear hc
      clear pKX qKX rKX pKY qKY rKY
      rintro e w4 ⟨rfl, b5⟩
      replace KX := Lib.hid (KX.out.next b5)
      replace KY := Lib.hid (KY.out.next b5)
      replace KZ := Lib.hid (KZ.out.next b5)
      replace B := Lib.hid (thn B.out b5)
      clear b5
      obtain ⟨pKX, qKX, rKX⟩ := KX.out.cells
      go_wp2_with fail
      have hc := next_more x last w4 z0 er l1
      refine hc.mono ?_
      clear hc
      clear pKX qKX rKX
      rintro e w5 ⟨rfl, b5⟩
      replace KX := Lib.hid (KX.out.next b5)
      replace KY := Lib.hid (KY.out.next b5)
      replace KZ := Lib.hid (KZ.out.next b5)
      replace B := Lib.hid (thn B.out b5)
      clear b5
      go_upto_region 9 with fail
      have hbl := below_lit w5 (.cells #[.int .u8 x.1, .int .u16 x.2.1, .int .u32 (x.2.2 + 1)] 25)
      replace KX := Lib.hid (KX.out.next hbl)
      replace KY := Lib.hid (KY.out.next hbl)
      replace KZ := Lib.hid (KZ.out.next hbl)
      replace B := Lib.hid (thn B.out hbl)
      clear hbl
      have KN : Hid (IdBlk (w5.alloc (.cells #[.int .u8 x.1, .int .u16 x.2.1, .int .u32 (x.2.2 + 1)] 25)) w5.heap.size (x.1, x.2.1, x.2.2 + 1)) := IdBlk.new w5 (x.1, x.2.1, x.2.2 + 1)
      generalize w5.alloc (.cells #[.int .u8 x.1, .int .u16 x.2.1, .int .u32 (x.2.2 + 1)] 25) = w6 at *
      obtain ⟨gn, hgn⟩ : ∃ g, w5.heap.size = g := ⟨_, rfl⟩
      rw [hgn] at KN ⊢
      clear hgn
      obtain ⟨pKX, qKX, rKX⟩ := KX.out.cells
      obtain ⟨pKN, qKN, rKN⟩ := KN.out.cells
      go_wp2_with fail
      have hc := less_any x (x.1, x.2.1, x.2.2 + 1) w6
      rw [H5.out] at hc
      refine hc.mono ?_
      clear hc
      clear pKX qKX rKX pKN qKN rKN
      rintro e w7 ⟨rfl, b5⟩
      replace KX := Lib.hid (KX.out.next b5)
      replace KY := Lib.hid (KY.out.next b5)
      replace KZ := Lib.hid (KZ.out.next b5)
      replace KN := Lib.hid (KN.out.next b5)
      replace B := Lib.hid (thn B.out b5)
      clear b5
      obtain ⟨pKX, qKX, rKX⟩ := KX.out.cells
      obtain ⟨pKY, qKY, rKY⟩ := KY.out.cells
      obtain ⟨pKN, qKN, rKN⟩ := KN.out.cells
      go_wp2_with fail
      have hc := less_any x y w7
      rw [E1.out] at hc
      refine hc.mono ?_
      clear hc
      clear pKX qKX rKX pKY qKY rKY pKN qKN rKN
      rintro e w8 ⟨rfl, b5⟩
      replace KX := Lib.hid (KX.out.next b5)
      replace KY := Lib.hid (KY.out.next b5)
      replace KZ := Lib.hid (KZ.out.next b5)
      replace KN := Lib.hid (KN.out.next b5)
      replace B := Lib.hid (thn B.out b5)
      clear b5
      go_wp2_with fail
      have hc := awake_any w8
      refine hc.mono ?_
      clear hc
      rintro e w9 ⟨rfl, b5⟩
      replace KX := Lib.hid (KX.out.next b5)
      replace KY := Lib.hid (KY.out.next b5)
      replace KZ := Lib.hid (KZ.out.next b5)
      replace KN := Lib.hid (KN.out.next b5)
      replace B := Lib.hid (thn B.out b5)
      clear b5
      go_wp2
      go_ret
      exact ⟨rfl, B.out⟩
  · replace E1 := Lib.hid E1
    replace E2 := Lib.hid E2
    have heq := fun w' : World => (ideql x y w').trans (by rw [decide_eq_true E0])
    clear E0
    by_cases er : last ≤ x.2.2
    · skip
      go_enter Try.func5, Try.ntmps5
      go_upto_region 1 with fail
      generalize ((w.alloc (.cells #[.int .u8 x.1, .int .u16 x.2.1, .int .u32 x.2.2] 25)).alloc (.cells #[.int .u8 y.1, .int .u16 y.2.1, .int .u32 y.2.2] 25)).alloc (.cells #[.int .u8 z.1, .int .u16 z.2.1, .int .u32 z.2.2] 25) = w1 at *
      obtain ⟨gx, hgx⟩ : ∃ g, w.heap.size = g := ⟨_, rfl⟩
      rw [hgx] at KX KY KZ ⊢
      clear hgx
      obtain ⟨gy, hgy⟩ : ∃ g, gx + 1 = g := ⟨_, rfl⟩
      rw [hgy] at KY KZ ⊢
      clear hgy
      obtain ⟨gz, hgz⟩ : ∃ g, gy + 1 = g := ⟨_, rfl⟩
      rw [hgz] at KZ ⊢
      clear hgz
      obtain ⟨pKX, qKX, rKX⟩ := KX.out.cells
      obtain ⟨pKY, qKY, rKY⟩ := KY.out.cells
      go_wp2_with fail
      have hc := less_any x y w1
      rw [E1.out] at hc
      refine hc.mono ?_
      clear hc
      clear pKX qKX rKX pKY qKY rKY
      rintro e w2 ⟨rfl, b5⟩
      replace KX := Lib.hid (KX.out.next b5)
      replace KY := Lib.hid (KY.out.next b5)
      replace KZ := Lib.hid (KZ.out.next b5)
      replace B := Lib.hid (thn B.out b5)
      clear b5
      obtain ⟨pKX, qKX, rKX⟩ := KX.out.cells
      obtain ⟨pKY, qKY, rKY⟩ := KY.out.cells
      go_wp2_with fail
      have hc := less_any y x w2
      rw [E2.out] at hc
      refine hc.mono ?_
      clear hc
      clear pKX qKX rKX pKY qKY rKY
      rintro e w3 ⟨rfl, b5⟩
      replace KX := Lib.hid (KX.out.next b5)
      replace KY := Lib.hid (KY.out.next b5)
      replace KZ := Lib.hid (KZ.out.next b5)
      replace B := Lib.hid (thn B.out b5)
      clear b5
      obtain ⟨pKX, qKX, rKX⟩ := KX.out.cells
      obtain ⟨pKY, qKY, rKY⟩ := KY.out.cells
      go_wp2_with fail
      have hc := less_any x y w3
      rw [E1.out] at hc
      refine hc.mono ?_
      clear hc
      clear pKX qKX rKX pKY qKY rKY
      rintro e w4 ⟨rfl, b5⟩
      replace KX := Lib.hid (KX.out.next b5)
      replace KY := Lib.hid (KY.out.next b5)
      replace KZ := Lib.hid (KZ.out.next b5)
      replace B := Lib.hid (thn B.out b5)
      clear b5
      obtain ⟨pKX, qKX, rKX⟩ := KX.out.cells
      go_wp2_with fail
      have hc := next_end x last w4 er
      refine hc.mono ?_
      clear hc
      clear pKX qKX rKX
      rintro e w5 ⟨rfl, b5⟩
      replace KX := Lib.hid (KX.out.next b5)
      replace KY := Lib.hid (KY.out.next b5)
      replace KZ := Lib.hid (KZ.out.next b5)
      replace B := Lib.hid (thn B.out b5)
      clear b5
      go_upto_region 9 with fail
      have hbl := below_lit w5 (.cells #[.int .u8 0, .int .u16 0, .int .u32 0] 25)
      replace KX := Lib.hid (KX.out.next hbl)
      replace KY := Lib.hid (KY.out.next hbl)
      replace KZ := Lib.hid (KZ.out.next hbl)
      replace B := Lib.hid (thn B.out hbl)
      clear hbl
      have KN : Hid (IdBlk (w5.alloc (.cells #[.int .u8 0, .int .u16 0, .int .u32 0] 25)) w5.heap.size (0, 0, 0)) := IdBlk.new w5 (0, 0, 0)
      generalize w5.alloc (.cells #[.int .u8 0, .int .u16 0, .int .u32 0] 25) = w6 at *
      obtain ⟨gn, hgn⟩ : ∃ g, w5.heap.size = g := ⟨_, rfl⟩
      rw [hgn] at KN ⊢
      clear hgn
      have heq0 : ∀ w' : World, (binOp .eql 25 (.agg #[.int .u8 0, .int .u16 0, .int .u32 0]) (.agg #[.int .u8 0, .int .u16 0, .int .u32 0])).run Try.prog w' = .ok (.bool true) w' := fun w' => by simpa using ideql (0, 0, 0) (0, 0, 0) w'
      obtain ⟨pKX, qKX, rKX⟩ := KX.out.cells
      obtain ⟨pKN, qKN, rKN⟩ := KN.out.cells
      go_wp2_with fail
      have hc := awake_any w6
      refine hc.mono ?_
      clear hc
      clear pKX qKX rKX pKN qKN rKN
      rintro e w7 ⟨rfl, b5⟩
      replace KX := Lib.hid (KX.out.next b5)
      replace KY := Lib.hid (KY.out.next b5)
      replace KZ := Lib.hid (KZ.out.next b5)
      replace KN := Lib.hid (KN.out.next b5)
      replace B := Lib.hid (thn B.out b5)
      clear b5
      go_wp2
      go_ret
      exact ⟨rfl, B.out⟩
    · replace er : x.2.2 < last := by omega
      go_enter Try.func5, Try.ntmps5
      go_upto_region 1 with fail
      generalize ((w.alloc (.cells #[.int .u8 x.1, .int .u16 x.2.1, .int .u32 x.2.2] 25)).alloc (.cells #[.int .u8 y.1, .int .u16 y.2.1, .int .u32 y.2.2] 25)).alloc (.cells #[.int .u8 z.1, .int .u16 z.2.1, .int .u32 z.2.2] 25) = w1 at *
      obtain ⟨gx, hgx⟩ : ∃ g, w.heap.size = g := ⟨_, rfl⟩
      rw [hgx] at KX KY KZ ⊢
      clear hgx
      obtain ⟨gy, hgy⟩ : ∃ g, gx + 1 = g := ⟨_, rfl⟩
      rw [hgy] at KY KZ ⊢
      clear hgy
      obtain ⟨gz, hgz⟩ : ∃ g, gy + 1 = g := ⟨_, rfl⟩
      rw [hgz] at KZ ⊢
      clear hgz
      obtain ⟨pKX, qKX, rKX⟩ := KX.out.cells
      obtain ⟨pKY, qKY, rKY⟩ := KY.out.cells
      go_wp2_with fail
      have hc := less_any x y w1
      rw [E1.out] at hc
      refine hc.mono ?_
      clear hc
      clear pKX qKX rKX pKY qKY rKY
      rintro e w2 ⟨rfl, b5⟩
      replace KX := Lib.hid (KX.out.next b5)
      replace KY := Lib.hid (KY.out.next b5)
      replace KZ := Lib.hid (KZ.out.next b5)
      replace B := Lib.hid (thn B.out b5)
      clear b5
      obtain ⟨pKX, qKX, rKX⟩ := KX.out.cells
      obtain ⟨pKY, qKY, rKY⟩ := KY.out.cells
      go_wp2_with fail
      have hc := less_any y x w2
      rw [E2.out] at hc
      refine hc.mono ?_
      clear hc
      clear pKX qKX rKX pKY qKY rKY
      rintro e w3 ⟨rfl, b5⟩
      replace KX := Lib.hid (KX.out.next b5)
      replace KY := Lib.hid (KY.out.next b5)
      replace KZ := Lib.hid (KZ.out.next b5)
      replace B := Lib.hid (thn B.out b5)
      clear b5
      obtain ⟨pKX, qKX, rKX⟩ := KX.out.cells
      obtain ⟨pKY, qKY, rKY⟩ := KY.out.cells
      go_wp2_with fail
      have hc := less_any x y w3
      rw [E1.out] at hc
      refine hc.mono ?_
      clear hc
      clear pKX qKX rKX pKY qKY rKY
      rintro e w4 ⟨rfl, b5⟩
      replace KX := Lib.hid (KX.out.next b5)
      replace KY := Lib.hid (KY.out.next b5)
      replace KZ := Lib.hid (KZ.out.next b5)
      replace B := Lib.hid (thn B.out b5)
      clear b5
      obtain ⟨pKX, qKX, rKX⟩ := KX.out.cells
      go_wp2_with fail
      have hc := next_more x last w4 z0 er l1
      refine hc.mono ?_
      clear hc
      clear pKX qKX rKX
      rintro e w5 ⟨rfl, b5⟩
      replace KX := Lib.hid (KX.out.next b5)
      replace KY := Lib.hid (KY.out.next b5)
      replace KZ := Lib.hid (KZ.out.next b5)
      replace B := Lib.hid (thn B.out b5)
      clear b5
      go_upto_region 9 with fail
      have hbl := below_lit w5 (.cells #[.int .u8 x.1, .int .u16 x.2.1, .int .u32 (x.2.2 + 1)] 25)
      replace KX := Lib.hid (KX.out.next hbl)
      replace KY := Lib.hid (KY.out.next hbl)
      replace KZ := Lib.hid (KZ.out.next hbl)
      replace B := Lib.hid (thn B.out hbl)
      clear hbl
      have KN : Hid (IdBlk (w5.alloc (.cells #[.int .u8 x.1, .int .u16 x.2.1, .int .u32 (x.2.2 + 1)] 25)) w5.heap.size (x.1, x.2.1, x.2.2 + 1)) := IdBlk.new w5 (x.1, x.2.1, x.2.2 + 1)
      generalize w5.alloc (.cells #[.int .u8 x.1, .int .u16 x.2.1, .int .u32 (x.2.2 + 1)] 25) = w6 at *
      obtain ⟨gn, hgn⟩ : ∃ g, w5.heap.size = g := ⟨_, rfl⟩
      rw [hgn] at KN ⊢
      clear hgn
      obtain ⟨pKX, qKX, rKX⟩ := KX.out.cells
      obtain ⟨pKN, qKN, rKN⟩ := KN.out.cells
      go_wp2_with fail
      have hc := less_any x (x.1, x.2.1, x.2.2 + 1) w6
      rw [H5.out] at hc
      refine hc.mono ?_
      clear hc
      clear pKX qKX rKX pKN qKN rKN
      rintro e w7 ⟨rfl, b5⟩
      replace KX := Lib.hid (KX.out.next b5)
      replace KY := Lib.hid (KY.out.next b5)
      replace KZ := Lib.hid (KZ.out.next b5)
      replace KN := Lib.hid (KN.out.next b5)
      replace B := Lib.hid (thn B.out b5)
      clear b5
      obtain ⟨pKX, qKX, rKX⟩ := KX.out.cells
      obtain ⟨pKY, qKY, rKY⟩ := KY.out.cells
      obtain ⟨pKN, qKN, rKN⟩ := KN.out.cells
      go_wp2_with fail
      have hc := less_any x y w7
      rw [E1.out] at hc
      refine hc.mono ?_
      clear hc
      clear pKX qKX rKX pKY qKY rKY pKN qKN rKN
      rintro e w8 ⟨rfl, b5⟩
      replace KX := Lib.hid (KX.out.next b5)
      replace KY := Lib.hid (KY.out.next b5)
      replace KZ := Lib.hid (KZ.out.next b5)
      replace KN := Lib.hid (KN.out.next b5)
      replace B := Lib.hid (thn B.out b5)
      clear b5
      go_wp2_with fail
      have hc := awake_any w8
      refine hc.mono ?_
      clear hc
      rintro e w9 ⟨rfl, b5⟩
      replace KX := Lib.hid (KX.out.next b5)
      replace KY := Lib.hid (KY.out.next b5)
      replace KZ := Lib.hid (KZ.out.next b5)
      replace KN := Lib.hid (KN.out.next b5)
      replace B := Lib.hid (thn B.out b5)
      clear b5
      go_wp2
      go_ret
      exact ⟨rfl, B.out⟩
end Go.Proofs.Ytdpcknfplognmaa
