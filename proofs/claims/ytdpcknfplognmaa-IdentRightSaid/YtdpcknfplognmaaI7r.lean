/- Layer 7: IdentRight. -/
import Derived.Test.YtdpcknfplognmaaIm
namespace Go.Proofs.Ytdpcknfplognmaa
open Go.RowKit
set_option linter.unusedVariables false
set_option maxHeartbeats 8000000 in
theorem iright_walk (x : Id3) (n m a b : Int) (w : World) (hx : idR x) (ha : 0 ≤ a ∧ a ≤ 4294967295) (hb : 0 ≤ b ∧ b ≤ 4294967295) :
    Calls Try.prog 7 #[(.agg #[.int .u8 x.1, .int .u16 x.2.1, .int .u32 x.2.2]), .int .i64 n, .int .i64 m, .int .u32 a, .int .u32 b] w fun e w' => e = .returned (.bool true) ∧ Below w.heap.size w w' := by
  obtain ⟨⟨x0, x1⟩, ⟨y0, y1⟩, z0, z1⟩ := hx
  have B := Lib.hid (Below.refl w.heap.size w)
  have H0 : Hid (rightB x (min n 0) a = false) := by unfold Hid rightB; rw [decide_eq_false (show ¬ x.1 < min n 0 by omega)]; rfl
  have H1 : Hid (rightB x n 0 = false) := by unfold Hid rightB; by_cases h : 1 ≤ x.2.2 <;> simp [h]; intros; omega
  have H2 : Hid (rightB (x.1, 0, x.2.2) n a = false) := by unfold Hid rightB; simp
  have H3 : Hid (rightB x n a = true → rightB x (max n m) (max a b) = true) := by
    unfold Hid rightB
    simp only [Bool.and_eq_true, decide_eq_true_eq]
    rintro ⟨⟨⟨h1, h2⟩, h3⟩, h4⟩
    refine ⟨⟨⟨?_, h2⟩, h3⟩, ?_⟩ <;> omega
  have H4 : Hid (¬ x.2.1 = 0 → ¬ x.2.2 = 0 → rightB x 256 4294967295 = true) := by
    unfold Hid rightB
    simp only [Bool.and_eq_true, decide_eq_true_eq]
    intro h1 h2
    omega
  obtain ⟨nm, em⟩ : ∃ nm, (if n < m then m else n) = nm := ⟨_, rfl⟩
  obtain ⟨ab, eb⟩ : ∃ ab, (if a < b then b else a) = ab := ⟨_, rfl⟩
  obtain ⟨n0, e0⟩ : ∃ n0, (if 0 < n then 0 else n) = n0 := ⟨_, rfl⟩
  rw [show max n m = nm by rw [← em]; split <;> omega, show max a b = ab by rw [← eb]; split <;> omega] at H3
  rw [show min n 0 = n0 by rw [← e0]; split <;> omega] at H0
  by_cases r1 : rightB x n a = true
  · have R1 : Hid (rightB x n a = true) := r1
    clear r1
    by_cases i0 : x.2.1 = 0
    · have i1 : (x.2.1 == 0) = true := by simpa using i0
      clear i0
      go_enter Try.func7, Try.ntmps7
      go_upto_region 1 with fail
      have hbl := below_lit w (.cells #[.int .u8 x.1, .int .u16 x.2.1, .int .u32 x.2.2] 25)
      replace B := Lib.hid (thn B.out hbl)
      clear hbl
      have KX : Hid (IdBlk (w.alloc (.cells #[.int .u8 x.1, .int .u16 x.2.1, .int .u32 x.2.2] 25)) w.heap.size x) := IdBlk.new w x
      generalize w.alloc (.cells #[.int .u8 x.1, .int .u16 x.2.1, .int .u32 x.2.2] 25) = w1 at *
      obtain ⟨gx, hgx⟩ : ∃ g, w.heap.size = g := ⟨_, rfl⟩
      rw [hgx] at KX ⊢
      clear hgx
      obtain ⟨pKX, qKX, rKX⟩ := KX.out.cells
      go_wp2_with fail
      have hc := right_any x n a w1 x0 x1
      rw [R1.out] at hc
      refine hc.mono ?_
      clear hc
      clear pKX qKX rKX
      rintro e w2 ⟨rfl, b5⟩
      replace KX := Lib.hid (KX.out.next b5)
      replace B := Lib.hid (thn B.out b5)
      clear b5
      obtain ⟨pKX, qKX, rKX⟩ := KX.out.cells
      go_wp2_with fail
      have hc := right_any x nm ab w2 x0 x1
      rw [H3.out R1.out] at hc
      refine hc.mono ?_
      clear hc
      clear pKX qKX rKX
      rintro e w3 ⟨rfl, b5⟩
      replace KX := Lib.hid (KX.out.next b5)
      replace B := Lib.hid (thn B.out b5)
      clear b5
      obtain ⟨pKX, qKX, rKX⟩ := KX.out.cells
      go_wp2_with fail
      have hc := right_any x n0 a w3 x0 x1
      rw [H0.out] at hc
      refine hc.mono ?_
      clear hc
      clear pKX qKX rKX
      rintro e w4 ⟨rfl, b5⟩
      replace KX := Lib.hid (KX.out.next b5)
      replace B := Lib.hid (thn B.out b5)
      clear b5
      obtain ⟨pKX, qKX, rKX⟩ := KX.out.cells
      go_wp2_with fail
      have hc := right_any x n 0 w4 x0 x1
      rw [H1.out] at hc
      refine hc.mono ?_
      clear hc
      clear pKX qKX rKX
      rintro e w5 ⟨rfl, b5⟩
      replace KX := Lib.hid (KX.out.next b5)
      replace B := Lib.hid (thn B.out b5)
      clear b5
      obtain ⟨pKX, qKX, rKX⟩ := KX.out.cells
      go_upto_region 5 with fail
      clear pKX qKX rKX
      have hbl := below_lit w5 (.cells #[.int .u8 x.1, .int .u16 0, .int .u32 x.2.2] 25)
      replace KX := Lib.hid (KX.out.next hbl)
      replace B := Lib.hid (thn B.out hbl)
      clear hbl
      have KY : Hid (IdBlk (w5.alloc (.cells #[.int .u8 x.1, .int .u16 0, .int .u32 x.2.2] 25)) w5.heap.size (x.1, 0, x.2.2)) := IdBlk.new w5 (x.1, 0, x.2.2)
      generalize w5.alloc (.cells #[.int .u8 x.1, .int .u16 0, .int .u32 x.2.2] 25) = w6 at *
      obtain ⟨gy, hgy⟩ : ∃ g, w5.heap.size = g := ⟨_, rfl⟩
      rw [hgy] at KY ⊢
      clear hgy
      obtain ⟨pKX, qKX, rKX⟩ := KX.out.cells
      obtain ⟨pKY, qKY, rKY⟩ := KY.out.cells
      go_wp2_with fail
      have hc := right_any (x.1, 0, x.2.2) n a w6 x0 x1
      rw [H2.out] at hc
      refine hc.mono ?_
      clear hc
      clear pKX qKX rKX pKY qKY rKY
      rintro e w7 ⟨rfl, b5⟩
      replace KX := Lib.hid (KX.out.next b5)
      replace KY := Lib.hid (KY.out.next b5)
      replace B := Lib.hid (thn B.out b5)
      clear b5
      obtain ⟨pKX, qKX, rKX⟩ := KX.out.cells
      go_wp2_with fail
      have hc := awake_any w7
      refine hc.mono ?_
      clear hc
      clear pKX qKX rKX
      rintro e w8 ⟨rfl, b5⟩
      replace KX := Lib.hid (KX.out.next b5)
      replace KY := Lib.hid (KY.out.next b5)
      replace B := Lib.hid (thn B.out b5)
      clear b5
      go_wp2
      go_ret
      exact ⟨rfl, B.out⟩
    · have i1 : (x.2.1 == 0) = false := by simpa using i0
      by_cases s0 : x.2.2 = 0
      · have s1 : (x.2.2 == 0) = true := by simpa using s0
        clear i0 s0
        go_enter Try.func7, Try.ntmps7
        go_upto_region 1 with fail
        have hbl := below_lit w (.cells #[.int .u8 x.1, .int .u16 x.2.1, .int .u32 x.2.2] 25)
        replace B := Lib.hid (thn B.out hbl)
        clear hbl
        have KX : Hid (IdBlk (w.alloc (.cells #[.int .u8 x.1, .int .u16 x.2.1, .int .u32 x.2.2] 25)) w.heap.size x) := IdBlk.new w x
        generalize w.alloc (.cells #[.int .u8 x.1, .int .u16 x.2.1, .int .u32 x.2.2] 25) = w1 at *
        obtain ⟨gx, hgx⟩ : ∃ g, w.heap.size = g := ⟨_, rfl⟩
        rw [hgx] at KX ⊢
        clear hgx
        obtain ⟨pKX, qKX, rKX⟩ := KX.out.cells
        go_wp2_with fail
        have hc := right_any x n a w1 x0 x1
        rw [R1.out] at hc
        refine hc.mono ?_
        clear hc
        clear pKX qKX rKX
        rintro e w2 ⟨rfl, b5⟩
        replace KX := Lib.hid (KX.out.next b5)
        replace B := Lib.hid (thn B.out b5)
        clear b5
        obtain ⟨pKX, qKX, rKX⟩ := KX.out.cells
        go_wp2_with fail
        have hc := right_any x nm ab w2 x0 x1
        rw [H3.out R1.out] at hc
        refine hc.mono ?_
        clear hc
        clear pKX qKX rKX
        rintro e w3 ⟨rfl, b5⟩
        replace KX := Lib.hid (KX.out.next b5)
        replace B := Lib.hid (thn B.out b5)
        clear b5
        obtain ⟨pKX, qKX, rKX⟩ := KX.out.cells
        go_wp2_with fail
        have hc := right_any x n0 a w3 x0 x1
        rw [H0.out] at hc
        refine hc.mono ?_
        clear hc
        clear pKX qKX rKX
        rintro e w4 ⟨rfl, b5⟩
        replace KX := Lib.hid (KX.out.next b5)
        replace B := Lib.hid (thn B.out b5)
        clear b5
        obtain ⟨pKX, qKX, rKX⟩ := KX.out.cells
        go_wp2_with fail
        have hc := right_any x n 0 w4 x0 x1
        rw [H1.out] at hc
        refine hc.mono ?_
        clear hc
        clear pKX qKX rKX
        rintro e w5 ⟨rfl, b5⟩
        replace KX := Lib.hid (KX.out.next b5)
        replace B := Lib.hid (thn B.out b5)
        clear b5
        obtain ⟨pKX, qKX, rKX⟩ := KX.out.cells
        go_upto_region 5 with fail
        clear pKX qKX rKX
        have hbl := below_lit w5 (.cells #[.int .u8 x.1, .int .u16 0, .int .u32 x.2.2] 25)
        replace KX := Lib.hid (KX.out.next hbl)
        replace B := Lib.hid (thn B.out hbl)
        clear hbl
        have KY : Hid (IdBlk (w5.alloc (.cells #[.int .u8 x.1, .int .u16 0, .int .u32 x.2.2] 25)) w5.heap.size (x.1, 0, x.2.2)) := IdBlk.new w5 (x.1, 0, x.2.2)
        generalize w5.alloc (.cells #[.int .u8 x.1, .int .u16 0, .int .u32 x.2.2] 25) = w6 at *
        obtain ⟨gy, hgy⟩ : ∃ g, w5.heap.size = g := ⟨_, rfl⟩
        rw [hgy] at KY ⊢
        clear hgy
        obtain ⟨pKX, qKX, rKX⟩ := KX.out.cells
        obtain ⟨pKY, qKY, rKY⟩ := KY.out.cells
        go_wp2_with fail
        have hc := right_any (x.1, 0, x.2.2) n a w6 x0 x1
        rw [H2.out] at hc
        refine hc.mono ?_
        clear hc
        clear pKX qKX rKX pKY qKY rKY
        rintro e w7 ⟨rfl, b5⟩
        replace KX := Lib.hid (KX.out.next b5)
        replace KY := Lib.hid (KY.out.next b5)
        replace B := Lib.hid (thn B.out b5)
        clear b5
        obtain ⟨pKX, qKX, rKX⟩ := KX.out.cells
        go_wp2_with fail
        have hc := awake_any w7
        refine hc.mono ?_
        clear hc
        clear pKX qKX rKX
        rintro e w8 ⟨rfl, b5⟩
        replace KX := Lib.hid (KX.out.next b5)
        replace KY := Lib.hid (KY.out.next b5)
        replace B := Lib.hid (thn B.out b5)
        clear b5
        go_wp2
        go_ret
        exact ⟨rfl, B.out⟩
      · have s1 : (x.2.2 == 0) = false := by simpa using s0
        have H5 := Lib.hid (H4.out i0 s0)
        clear i0 s0
        go_enter Try.func7, Try.ntmps7
        go_upto_region 1 with fail
        have hbl := below_lit w (.cells #[.int .u8 x.1, .int .u16 x.2.1, .int .u32 x.2.2] 25)
        replace B := Lib.hid (thn B.out hbl)
        clear hbl
        have KX : Hid (IdBlk (w.alloc (.cells #[.int .u8 x.1, .int .u16 x.2.1, .int .u32 x.2.2] 25)) w.heap.size x) := IdBlk.new w x
        generalize w.alloc (.cells #[.int .u8 x.1, .int .u16 x.2.1, .int .u32 x.2.2] 25) = w1 at *
        obtain ⟨gx, hgx⟩ : ∃ g, w.heap.size = g := ⟨_, rfl⟩
        rw [hgx] at KX ⊢
        clear hgx
        obtain ⟨pKX, qKX, rKX⟩ := KX.out.cells
        go_wp2_with fail
        have hc := right_any x n a w1 x0 x1
        rw [R1.out] at hc
        refine hc.mono ?_
        clear hc
        clear pKX qKX rKX
        rintro e w2 ⟨rfl, b5⟩
        replace KX := Lib.hid (KX.out.next b5)
        replace B := Lib.hid (thn B.out b5)
        clear b5
        obtain ⟨pKX, qKX, rKX⟩ := KX.out.cells
        go_wp2_with fail
        have hc := right_any x nm ab w2 x0 x1
        rw [H3.out R1.out] at hc
        refine hc.mono ?_
        clear hc
        clear pKX qKX rKX
        rintro e w3 ⟨rfl, b5⟩
        replace KX := Lib.hid (KX.out.next b5)
        replace B := Lib.hid (thn B.out b5)
        clear b5
        obtain ⟨pKX, qKX, rKX⟩ := KX.out.cells
        go_wp2_with fail
        have hc := right_any x n0 a w3 x0 x1
        rw [H0.out] at hc
        refine hc.mono ?_
        clear hc
        clear pKX qKX rKX
        rintro e w4 ⟨rfl, b5⟩
        replace KX := Lib.hid (KX.out.next b5)
        replace B := Lib.hid (thn B.out b5)
        clear b5
        obtain ⟨pKX, qKX, rKX⟩ := KX.out.cells
        go_wp2_with fail
        have hc := right_any x n 0 w4 x0 x1
        rw [H1.out] at hc
        refine hc.mono ?_
        clear hc
        clear pKX qKX rKX
        rintro e w5 ⟨rfl, b5⟩
        replace KX := Lib.hid (KX.out.next b5)
        replace B := Lib.hid (thn B.out b5)
        clear b5
        obtain ⟨pKX, qKX, rKX⟩ := KX.out.cells
        go_upto_region 5 with fail
        clear pKX qKX rKX
        have hbl := below_lit w5 (.cells #[.int .u8 x.1, .int .u16 0, .int .u32 x.2.2] 25)
        replace KX := Lib.hid (KX.out.next hbl)
        replace B := Lib.hid (thn B.out hbl)
        clear hbl
        have KY : Hid (IdBlk (w5.alloc (.cells #[.int .u8 x.1, .int .u16 0, .int .u32 x.2.2] 25)) w5.heap.size (x.1, 0, x.2.2)) := IdBlk.new w5 (x.1, 0, x.2.2)
        generalize w5.alloc (.cells #[.int .u8 x.1, .int .u16 0, .int .u32 x.2.2] 25) = w6 at *
        obtain ⟨gy, hgy⟩ : ∃ g, w5.heap.size = g := ⟨_, rfl⟩
        rw [hgy] at KY ⊢
        clear hgy
        obtain ⟨pKX, qKX, rKX⟩ := KX.out.cells
        obtain ⟨pKY, qKY, rKY⟩ := KY.out.cells
        go_wp2_with fail
        have hc := right_any (x.1, 0, x.2.2) n a w6 x0 x1
        rw [H2.out] at hc
        refine hc.mono ?_
        clear hc
        clear pKX qKX rKX pKY qKY rKY
        rintro e w7 ⟨rfl, b5⟩
        replace KX := Lib.hid (KX.out.next b5)
        replace KY := Lib.hid (KY.out.next b5)
        replace B := Lib.hid (thn B.out b5)
        clear b5
        obtain ⟨pKX, qKX, rKX⟩ := KX.out.cells
        go_wp2_with fail
        have hc := right_any x 256 4294967295 w7 x0 x1
        rw [H5.out] at hc
        refine hc.mono ?_
        clear hc
        clear pKX qKX rKX
        rintro e w8 ⟨rfl, b5⟩
        replace KX := Lib.hid (KX.out.next b5)
        replace KY := Lib.hid (KY.out.next b5)
        replace B := Lib.hid (thn B.out b5)
        clear b5
        go_wp2_with fail
        have hc := awake_any w8
        refine hc.mono ?_
        clear hc
        rintro e w9 ⟨rfl, b5⟩
        replace KX := Lib.hid (KX.out.next b5)
        replace KY := Lib.hid (KY.out.next b5)
        replace B := Lib.hid (thn B.out b5)
        clear b5
        go_wp2
        go_ret
        exact ⟨rfl, B.out⟩
  · have R1 : Hid (rightB x n a = false) := (Bool.not_eq_true _).mp r1
    clear r1
    by_cases i0 : x.2.1 = 0
    · have i1 : (x.2.1 == 0) = true := by simpa using i0
      clear i0
      go_enter Try.func7, Try.ntmps7
      go_upto_region 1 with fail
      have hbl := below_lit w (.cells #[.int .u8 x.1, .int .u16 x.2.1, .int .u32 x.2.2] 25)
      replace B := Lib.hid (thn B.out hbl)
      clear hbl
      have KX : Hid (IdBlk (w.alloc (.cells #[.int .u8 x.1, .int .u16 x.2.1, .int .u32 x.2.2] 25)) w.heap.size x) := IdBlk.new w x
      generalize w.alloc (.cells #[.int .u8 x.1, .int .u16 x.2.1, .int .u32 x.2.2] 25) = w1 at *
      obtain ⟨gx, hgx⟩ : ∃ g, w.heap.size = g := ⟨_, rfl⟩
      rw [hgx] at KX ⊢
      clear hgx
      obtain ⟨pKX, qKX, rKX⟩ := KX.out.cells
      go_wp2_with fail
      have hc := right_any x n a w1 x0 x1
      rw [R1.out] at hc
      refine hc.mono ?_
      clear hc
      clear pKX qKX rKX
      rintro e w2 ⟨rfl, b5⟩
      replace KX := Lib.hid (KX.out.next b5)
      replace B := Lib.hid (thn B.out b5)
      clear b5
      obtain ⟨pKX, qKX, rKX⟩ := KX.out.cells
      go_wp2_with fail
      have hc := right_any x n0 a w2 x0 x1
      rw [H0.out] at hc
      refine hc.mono ?_
      clear hc
      clear pKX qKX rKX
      rintro e w3 ⟨rfl, b5⟩
      replace KX := Lib.hid (KX.out.next b5)
      replace B := Lib.hid (thn B.out b5)
      clear b5
      obtain ⟨pKX, qKX, rKX⟩ := KX.out.cells
      go_wp2_with fail
      have hc := right_any x n 0 w3 x0 x1
      rw [H1.out] at hc
      refine hc.mono ?_
      clear hc
      clear pKX qKX rKX
      rintro e w4 ⟨rfl, b5⟩
      replace KX := Lib.hid (KX.out.next b5)
      replace B := Lib.hid (thn B.out b5)
      clear b5
      obtain ⟨pKX, qKX, rKX⟩ := KX.out.cells
      go_upto_region 5 with fail
      clear pKX qKX rKX
      have hbl := below_lit w4 (.cells #[.int .u8 x.1, .int .u16 0, .int .u32 x.2.2] 25)
      replace KX := Lib.hid (KX.out.next hbl)
      replace B := Lib.hid (thn B.out hbl)
      clear hbl
      have KY : Hid (IdBlk (w4.alloc (.cells #[.int .u8 x.1, .int .u16 0, .int .u32 x.2.2] 25)) w4.heap.size (x.1, 0, x.2.2)) := IdBlk.new w4 (x.1, 0, x.2.2)
      generalize w4.alloc (.cells #[.int .u8 x.1, .int .u16 0, .int .u32 x.2.2] 25) = w5 at *
      obtain ⟨gy, hgy⟩ : ∃ g, w4.heap.size = g := ⟨_, rfl⟩
      rw [hgy] at KY ⊢
      clear hgy
      obtain ⟨pKX, qKX, rKX⟩ := KX.out.cells
      obtain ⟨pKY, qKY, rKY⟩ := KY.out.cells
      go_wp2_with fail
      have hc := right_any (x.1, 0, x.2.2) n a w5 x0 x1
      rw [H2.out] at hc
      refine hc.mono ?_
      clear hc
      clear pKX qKX rKX pKY qKY rKY
      rintro e w6 ⟨rfl, b5⟩
      replace KX := Lib.hid (KX.out.next b5)
      replace KY := Lib.hid (KY.out.next b5)
      replace B := Lib.hid (thn B.out b5)
      clear b5
      obtain ⟨pKX, qKX, rKX⟩ := KX.out.cells
      go_wp2_with fail
      have hc := awake_any w6
      refine hc.mono ?_
      clear hc
      clear pKX qKX rKX
      rintro e w7 ⟨rfl, b5⟩
      replace KX := Lib.hid (KX.out.next b5)
      replace KY := Lib.hid (KY.out.next b5)
      replace B := Lib.hid (thn B.out b5)
      clear b5
      go_wp2
      go_ret
      exact ⟨rfl, B.out⟩
    · have i1 : (x.2.1 == 0) = false := by simpa using i0
      by_cases s0 : x.2.2 = 0
      · have s1 : (x.2.2 == 0) = true := by simpa using s0
        clear i0 s0
        go_enter Try.func7, Try.ntmps7
        go_upto_region 1 with fail
        have hbl := below_lit w (.cells #[.int .u8 x.1, .int .u16 x.2.1, .int .u32 x.2.2] 25)
        replace B := Lib.hid (thn B.out hbl)
        clear hbl
        have KX : Hid (IdBlk (w.alloc (.cells #[.int .u8 x.1, .int .u16 x.2.1, .int .u32 x.2.2] 25)) w.heap.size x) := IdBlk.new w x
        generalize w.alloc (.cells #[.int .u8 x.1, .int .u16 x.2.1, .int .u32 x.2.2] 25) = w1 at *
        obtain ⟨gx, hgx⟩ : ∃ g, w.heap.size = g := ⟨_, rfl⟩
        rw [hgx] at KX ⊢
        clear hgx
        obtain ⟨pKX, qKX, rKX⟩ := KX.out.cells
        go_wp2_with fail
        have hc := right_any x n a w1 x0 x1
        rw [R1.out] at hc
        refine hc.mono ?_
        clear hc
        clear pKX qKX rKX
        rintro e w2 ⟨rfl, b5⟩
        replace KX := Lib.hid (KX.out.next b5)
        replace B := Lib.hid (thn B.out b5)
        clear b5
        obtain ⟨pKX, qKX, rKX⟩ := KX.out.cells
        go_wp2_with fail
        have hc := right_any x n0 a w2 x0 x1
        rw [H0.out] at hc
        refine hc.mono ?_
        clear hc
        clear pKX qKX rKX
        rintro e w3 ⟨rfl, b5⟩
        replace KX := Lib.hid (KX.out.next b5)
        replace B := Lib.hid (thn B.out b5)
        clear b5
        obtain ⟨pKX, qKX, rKX⟩ := KX.out.cells
        go_wp2_with fail
        have hc := right_any x n 0 w3 x0 x1
        rw [H1.out] at hc
        refine hc.mono ?_
        clear hc
        clear pKX qKX rKX
        rintro e w4 ⟨rfl, b5⟩
        replace KX := Lib.hid (KX.out.next b5)
        replace B := Lib.hid (thn B.out b5)
        clear b5
        obtain ⟨pKX, qKX, rKX⟩ := KX.out.cells
        go_upto_region 5 with fail
        clear pKX qKX rKX
        have hbl := below_lit w4 (.cells #[.int .u8 x.1, .int .u16 0, .int .u32 x.2.2] 25)
        replace KX := Lib.hid (KX.out.next hbl)
        replace B := Lib.hid (thn B.out hbl)
        clear hbl
        have KY : Hid (IdBlk (w4.alloc (.cells #[.int .u8 x.1, .int .u16 0, .int .u32 x.2.2] 25)) w4.heap.size (x.1, 0, x.2.2)) := IdBlk.new w4 (x.1, 0, x.2.2)
        generalize w4.alloc (.cells #[.int .u8 x.1, .int .u16 0, .int .u32 x.2.2] 25) = w5 at *
        obtain ⟨gy, hgy⟩ : ∃ g, w4.heap.size = g := ⟨_, rfl⟩
        rw [hgy] at KY ⊢
        clear hgy
        obtain ⟨pKX, qKX, rKX⟩ := KX.out.cells
        obtain ⟨pKY, qKY, rKY⟩ := KY.out.cells
        go_wp2_with fail
        have hc := right_any (x.1, 0, x.2.2) n a w5 x0 x1
        rw [H2.out] at hc
        refine hc.mono ?_
        clear hc
        clear pKX qKX rKX pKY qKY rKY
        rintro e w6 ⟨rfl, b5⟩
        replace KX := Lib.hid (KX.out.next b5)
        replace KY := Lib.hid (KY.out.next b5)
        replace B := Lib.hid (thn B.out b5)
        clear b5
        obtain ⟨pKX, qKX, rKX⟩ := KX.out.cells
        go_wp2_with fail
        have hc := awake_any w6
        refine hc.mono ?_
        clear hc
        clear pKX qKX rKX
        rintro e w7 ⟨rfl, b5⟩
        replace KX := Lib.hid (KX.out.next b5)
        replace KY := Lib.hid (KY.out.next b5)
        replace B := Lib.hid (thn B.out b5)
        clear b5
        go_wp2
        go_ret
        exact ⟨rfl, B.out⟩
      · have s1 : (x.2.2 == 0) = false := by simpa using s0
        have H5 := Lib.hid (H4.out i0 s0)
        clear i0 s0
        go_enter Try.func7, Try.ntmps7
        go_upto_region 1 with fail
        have hbl := below_lit w (.cells #[.int .u8 x.1, .int .u16 x.2.1, .int .u32 x.2.2] 25)
        replace B := Lib.hid (thn B.out hbl)
        clear hbl
        have KX : Hid (IdBlk (w.alloc (.cells #[.int .u8 x.1, .int .u16 x.2.1, .int .u32 x.2.2] 25)) w.heap.size x) := IdBlk.new w x
        generalize w.alloc (.cells #[.int .u8 x.1, .int .u16 x.2.1, .int .u32 x.2.2] 25) = w1 at *
        obtain ⟨gx, hgx⟩ : ∃ g, w.heap.size = g := ⟨_, rfl⟩
        rw [hgx] at KX ⊢
        clear hgx
        obtain ⟨pKX, qKX, rKX⟩ := KX.out.cells
        go_wp2_with fail
        have hc := right_any x n a w1 x0 x1
        rw [R1.out] at hc
        refine hc.mono ?_
        clear hc
        clear pKX qKX rKX
        rintro e w2 ⟨rfl, b5⟩
        replace KX := Lib.hid (KX.out.next b5)
        replace B := Lib.hid (thn B.out b5)
        clear b5
        obtain ⟨pKX, qKX, rKX⟩ := KX.out.cells
        go_wp2_with fail
        have hc := right_any x n0 a w2 x0 x1
        rw [H0.out] at hc
        refine hc.mono ?_
        clear hc
        clear pKX qKX rKX
        rintro e w3 ⟨rfl, b5⟩
        replace KX := Lib.hid (KX.out.next b5)
        replace B := Lib.hid (thn B.out b5)
        clear b5
        obtain ⟨pKX, qKX, rKX⟩ := KX.out.cells
        go_wp2_with fail
        have hc := right_any x n 0 w3 x0 x1
        rw [H1.out] at hc
        refine hc.mono ?_
        clear hc
        clear pKX qKX rKX
        rintro e w4 ⟨rfl, b5⟩
        replace KX := Lib.hid (KX.out.next b5)
        replace B := Lib.hid (thn B.out b5)
        clear b5
        obtain ⟨pKX, qKX, rKX⟩ := KX.out.cells
        go_upto_region 5 with fail
        clear pKX qKX rKX
        have hbl := below_lit w4 (.cells #[.int .u8 x.1, .int .u16 0, .int .u32 x.2.2] 25)
        replace KX := Lib.hid (KX.out.next hbl)
        replace B := Lib.hid (thn B.out hbl)
        clear hbl
        have KY : Hid (IdBlk (w4.alloc (.cells #[.int .u8 x.1, .int .u16 0, .int .u32 x.2.2] 25)) w4.heap.size (x.1, 0, x.2.2)) := IdBlk.new w4 (x.1, 0, x.2.2)
        generalize w4.alloc (.cells #[.int .u8 x.1, .int .u16 0, .int .u32 x.2.2] 25) = w5 at *
        obtain ⟨gy, hgy⟩ : ∃ g, w4.heap.size = g := ⟨_, rfl⟩
        rw [hgy] at KY ⊢
        clear hgy
        obtain ⟨pKX, qKX, rKX⟩ := KX.out.cells
        obtain ⟨pKY, qKY, rKY⟩ := KY.out.cells
        go_wp2_with fail
        have hc := right_any (x.1, 0, x.2.2) n a w5 x0 x1
        rw [H2.out] at hc
        refine hc.mono ?_
        clear hc
        clear pKX qKX rKX pKY qKY rKY
        rintro e w6 ⟨rfl, b5⟩
        replace KX := Lib.hid (KX.out.next b5)
        replace KY := Lib.hid (KY.out.next b5)
        replace B := Lib.hid (thn B.out b5)
        clear b5
        obtain ⟨pKX, qKX, rKX⟩ := KX.out.cells
        go_wp2_with fail
        have hc := right_any x 256 4294967295 w6 x0 x1
        rw [H5.out] at hc
        refine hc.mono ?_
        clear hc
        clear pKX qKX rKX
        rintro e w7 ⟨rfl, b5⟩
        replace KX := Lib.hid (KX.out.next b5)
        replace KY := Lib.hid (KY.out.next b5)
        replace B := Lib.hid (thn B.out b5)
        clear b5
        go_wp2_with fail
        have hc := awake_any w7
        refine hc.mono ?_
        clear hc
        rintro e w8 ⟨rfl, b5⟩
        replace KX := Lib.hid (KX.out.next b5)
        replace KY := Lib.hid (KY.out.next b5)
        replace B := Lib.hid (thn B.out b5)
        clear b5
        go_wp2
        go_ret
        exact ⟨rfl, B.out⟩
end Go.Proofs.Ytdpcknfplognmaa
