/- Layer 7: Made; the chapter's examples. -/
import Derived.Test.YtdpcknfplognmaaIl
import Derived.Test.YtdpcknfplognmaaOi
namespace Go.Proofs.Ytdpcknfplognmaa
open Go.RowKit
set_option linter.unusedVariables false
theorem made_succ {l : List Id3} {j : Nat} {y : Id3} (h : l[j]? = some y) : madeL (l.take (j + 1)) = putL (madeL (l.take j)) y := by
  unfold madeL; rw [List.take_add_one, h, List.foldl_append]; rfl
theorem madeL_length (l : List Id3) : (madeL l).length ≤ l.length := by have := made_length l []; simpa [madeL] using this
theorem made_own (A : Option Addr) (n c : Nat) (l : List Id3) (w : World) (h : Sd w w.heap.size A n c l) (hn8 : n ≤ 1000000) :
    Calls Try.prog 24 #[.slice A n c] w (GaveW (madeL l) w) := by
  have HL : Hid (n = l.length) := sd_len h
  have hm := h.max
  have hc := h.cap
  unfold maxLen at hm
  have HS := Lib.hid h
  clear h
  go_enter Try.func24, Try.ntmps24
  go_wp2
  go_loopw [3, 5, 8] (fun v _ i wr => ∃ (j m : Nat) (A2 : Option Addr) (c2 : Nat), j ≤ n ∧ m ≤ j ∧ i = .int .i64 j ∧ v = .slice A2 m c2 ∧ Hid (Ows wr w.heap.size 25 3 A2 m c2 (idl (madeL (l.take j)))) ∧ Hid (Below w.heap.size w wr)) (fun _ _ i _ => n - (intOf i).toNat)
  case atStart => exact ⟨0, 0, none, 0, Nat.zero_le _, Nat.le_refl _, rfl, rfl, Ows.nil _ _ _ _, Below.refl _ _⟩
  case round =>
    obtain ⟨j, m, A2, c2, hj, hmj, rfl, rfl, S2, b1⟩ := hrel
    have i0 : (0 : Int) ≤ (j : Int) := by omega
    by_cases hlt : j < n
    · have i1 : (j : Int) < (n : Int) := by omega
      obtain ⟨b, off, y, rfl, hb, hy, c0, c1, c3⟩ := sd_at (HS.out.next b1.out) hlt
      have HM := Lib.hid (made_succ hy)
      have HN : Hid ((madeL (l.take (j + 1))).length ≤ j + 1) := by have := madeL_length (l.take (j + 1)); rw [List.length_take] at this; unfold Hid; omega
      have hbl := below_lit wr (.cells #[.int .u8 y.1, .int .u16 y.2.1, .int .u32 y.2.2] 25)
      have hcall := put_own A2 m c2 (madeL (l.take j)) y _ ((Sn.of_own S2.out).next hbl) (by omega)
      have hsz : w.heap.size ≤ (wr.alloc (.cells #[.int .u8 y.1, .int .u16 y.2.1, .int .u32 y.2.2] 25)).heap.size := Nat.le_trans b1.out.size hbl.size
      rw [← HM.out] at hcall
      have B2 := Lib.hid (thn b1.out hbl)
      generalize hmm : madeL (l.take (j + 1)) = mm at *
      have HE := Lib.hid hmm
      clear hbl hy HM hmm
      go_wp2_with fail
      refine hcall.mono ?_
      rintro e w' ⟨A3, c4, rfl, s3, hb'⟩
      have S3 := Lib.hid (s3.mono hsz)
      have B3 := Lib.hid (thn B2.out hb')
      have hN := HN.out
      clear s3 hb' hcall
      go_wp2
      go_roundw
      case rel => exact ⟨j + 1, mm.length, A3, c4, by omega, hN, by go_num, rfl, by rw [HE.out]; exact S3, B3⟩
      case measure => simp [intOf]; omega
    · obtain rfl : j = n := by omega
      rw [List.take_of_length_le (by rw [← HL.out]; exact Nat.le_refl _)] at S2
      go_wp2
      go_ret
      exact gaveW_of S2.out (Nat.le_refl _) b1.out rfl
theorem made_any (A : Option Addr) (n c : Nat) (l : List Id3) (w : World) (h : Sd w w.heap.size A n c l) (hn8 : n ≤ 1000000) :
    Calls Try.prog 24 #[.slice A n c] w (GaveD (madeL l) w) := (made_own A n c l w h hn8).mono fun _ _ h => h.d
theorem one_any (k : Int) (w : World) : Calls Try.prog 25 #[.int .u32 k] w fun e w' => e = .returned (.agg #[.int .u8 0, .int .u16 1, .int .u32 k]) ∧ Below w.heap.size w w' := by
  go_enter Try.func25, Try.ntmps25
  go_wp2
  exact bodyPost_ret (v := .agg #[.int .u8 0, .int .u16 1, .int .u32 k]) (by simp [results, Try.results25, go_sem]) rfl ⟨rfl, below_lit w _⟩
theorem zsd (w : World) (k : Nat) : Sd w k none 0 0 [] := Sn.nil rfl
set_option maxRecDepth 100000 in
set_option maxHeartbeats 4000000 in
theorem awake_any (w : World) : Calls Try.prog 8 #[] w fun e w' => e = .returned (.bool true) ∧ Below w.heap.size w w' := by
  have B := Lib.hid (Below.refl w.heap.size w)
  have heq : ∀ w' : World, (binOp .eql 25 (.agg #[.int .u8 1, .int .u16 2, .int .u32 4]) (.agg #[.int .u8 1, .int .u16 2, .int .u32 4])).run Try.prog w' = .ok (.bool true) w' := fun w' => by simpa using ideql (1, 2, 4) (1, 2, 4) w'
  go_enter Try.func8, Try.ntmps8
  go_upto_region 2 with fail
  have hbl := below_lit w (.cells #[.int .u8 1, .int .u16 2, .int .u32 3] 25)
  replace B := Lib.hid (thn B.out hbl)
  clear hbl
  have K1 : Hid (IdBlk (w.alloc (.cells #[.int .u8 1, .int .u16 2, .int .u32 3] 25)) w.heap.size (1, 2, 3)) := IdBlk.new w (1, 2, 3)
  generalize w.alloc (.cells #[.int .u8 1, .int .u16 2, .int .u32 3] 25) = w1 at *
  obtain ⟨g1, hg1⟩ : ∃ g, w.heap.size = g := ⟨_, rfl⟩
  rw [hg1] at K1 ⊢
  clear hg1
  obtain ⟨pK1, qK1, rK1⟩ := K1.out.cells
  go_wp2_with fail
  have hc := next_more (1, 2, 3) 4 w1 (by decide) (by decide) (by decide)
  refine hc.mono ?_
  clear hc
  clear pK1 qK1 rK1
  rintro e w2 ⟨rfl, b5⟩
  replace K1 := Lib.hid (K1.out.next b5)
  replace B := Lib.hid (thn B.out b5)
  clear b5
  go_upto_region 3 with fail
  have hbl := below_lit w2 (.cells #[.int .u8 1, .int .u16 2, .int .u32 4] 25)
  replace K1 := Lib.hid (K1.out.next hbl)
  replace B := Lib.hid (thn B.out hbl)
  clear hbl
  have K2 : Hid (IdBlk (w2.alloc (.cells #[.int .u8 1, .int .u16 2, .int .u32 4] 25)) w2.heap.size (1, 2, 4)) := IdBlk.new w2 (1, 2, 4)
  generalize w2.alloc (.cells #[.int .u8 1, .int .u16 2, .int .u32 4] 25) = w3 at *
  obtain ⟨g2, hg2⟩ : ∃ g, w2.heap.size = g := ⟨_, rfl⟩
  rw [hg2] at K2 ⊢
  clear hg2
  obtain ⟨pK1, qK1, rK1⟩ := K1.out.cells
  go_wp2_with fail
  have hc := next_end (1, 2, 3) 3 w3 (by decide)
  refine hc.mono ?_
  clear hc
  clear pK1 qK1 rK1
  rintro e w4 ⟨rfl, b5⟩
  replace K1 := Lib.hid (K1.out.next b5)
  replace K2 := Lib.hid (K2.out.next b5)
  replace B := Lib.hid (thn B.out b5)
  clear b5
  go_upto_region 4 with fail
  have hbl := below_lit w4 (.cells #[.int .u8 0, .int .u16 0, .int .u32 0] 25)
  replace K1 := Lib.hid (K1.out.next hbl)
  replace K2 := Lib.hid (K2.out.next hbl)
  replace B := Lib.hid (thn B.out hbl)
  clear hbl
  have K4 : Hid (IdBlk (w4.alloc (.cells #[.int .u8 0, .int .u16 0, .int .u32 0] 25)) w4.heap.size (0, 0, 0)) := IdBlk.new w4 (0, 0, 0)
  generalize w4.alloc (.cells #[.int .u8 0, .int .u16 0, .int .u32 0] 25) = w5 at *
  obtain ⟨g4, hg4⟩ : ∃ g, w4.heap.size = g := ⟨_, rfl⟩
  rw [hg4] at K4 ⊢
  clear hg4
  go_wp2_with fail
  have hc := next_more (1, 2, 0) 3 w5 (by decide) (by decide) (by decide)
  refine hc.mono ?_
  clear hc
  rintro e w6 ⟨rfl, b5⟩
  replace K1 := Lib.hid (K1.out.next b5)
  replace K2 := Lib.hid (K2.out.next b5)
  replace K4 := Lib.hid (K4.out.next b5)
  replace B := Lib.hid (thn B.out b5)
  clear b5
  go_upto_region 5 with fail
  have hbl := below_lit w6 (.cells #[.int .u8 1, .int .u16 2, .int .u32 1] 25)
  replace K1 := Lib.hid (K1.out.next hbl)
  replace K2 := Lib.hid (K2.out.next hbl)
  replace K4 := Lib.hid (K4.out.next hbl)
  replace B := Lib.hid (thn B.out hbl)
  clear hbl
  have K6 : Hid (IdBlk (w6.alloc (.cells #[.int .u8 1, .int .u16 2, .int .u32 1] 25)) w6.heap.size (1, 2, 1)) := IdBlk.new w6 (1, 2, 1)
  generalize w6.alloc (.cells #[.int .u8 1, .int .u16 2, .int .u32 1] 25) = w7 at *
  obtain ⟨g6, hg6⟩ : ∃ g, w6.heap.size = g := ⟨_, rfl⟩
  rw [hg6] at K6 ⊢
  clear hg6
  go_wp2_with fail
  have hc := one_any 1 w7
  refine hc.mono ?_
  clear hc
  rintro e w8 ⟨rfl, b5⟩
  replace K1 := Lib.hid (K1.out.next b5)
  replace K2 := Lib.hid (K2.out.next b5)
  replace K4 := Lib.hid (K4.out.next b5)
  replace K6 := Lib.hid (K6.out.next b5)
  replace B := Lib.hid (thn B.out b5)
  clear b5
  go_wp2_with fail
  have hc := one_any 3 w8
  refine hc.mono ?_
  clear hc
  rintro e w9 ⟨rfl, b5⟩
  replace K1 := Lib.hid (K1.out.next b5)
  replace K2 := Lib.hid (K2.out.next b5)
  replace K4 := Lib.hid (K4.out.next b5)
  replace K6 := Lib.hid (K6.out.next b5)
  replace B := Lib.hid (thn B.out b5)
  clear b5
  go_wp2_with fail
  have hbl := below_lit w9 (.cells #[.int .u8 0, .int .u16 1, .int .u32 1, .int .u8 0, .int .u16 1, .int .u32 3] 25)
  replace K1 := Lib.hid (K1.out.next hbl)
  replace K2 := Lib.hid (K2.out.next hbl)
  replace K4 := Lib.hid (K4.out.next hbl)
  replace K6 := Lib.hid (K6.out.next hbl)
  replace B := Lib.hid (thn B.out hbl)
  clear hbl
  have SL : Hid (Sd (w9.alloc (.cells #[.int .u8 0, .int .u16 1, .int .u32 1, .int .u8 0, .int .u16 1, .int .u32 3] 25)) (w9.alloc (.cells #[.int .u8 0, .int .u16 1, .int .u32 1, .int .u8 0, .int .u16 1, .int .u32 3] 25)).heap.size (some ⟨w9.heap.size, 0, none⟩) 2 2 [(0, 1, 1), (0, 1, 3)]) := (Sn.lit w9 #[.int .u8 0, .int .u16 1, .int .u32 1, .int .u8 0, .int .u16 1, .int .u32 3] 25 (0, 0) 3 2 rfl (by decide)).more (by simp)
  generalize w9.alloc (.cells #[.int .u8 0, .int .u16 1, .int .u32 1, .int .u8 0, .int .u16 1, .int .u32 3] 25) = w10 at *
  obtain ⟨h1, hh1⟩ : ∃ g, w9.heap.size = g := ⟨_, rfl⟩
  rw [hh1] at SL ⊢
  clear hh1
  have hc := one_any 2 w10
  refine hc.mono ?_
  clear hc
  rintro e w11 ⟨rfl, b5⟩
  replace K1 := Lib.hid (K1.out.next b5)
  replace K2 := Lib.hid (K2.out.next b5)
  replace K4 := Lib.hid (K4.out.next b5)
  replace K6 := Lib.hid (K6.out.next b5)
  replace SL := Lib.hid (SL.out.next b5)
  replace B := Lib.hid (thn B.out b5)
  clear b5
  go_wp2_with fail
  have hc := put_any (some ⟨h1, 0, none⟩) 2 2 [(0, 1, 1), (0, 1, 3)] (0, 1, 2) w11 SL.out (by decide)
  rw [show putL [(0, 1, 1), (0, 1, 3)] (0, 1, 2) = [(0, 1, 1), (0, 1, 2), (0, 1, 3)] by decide +kernel] at hc
  refine hc.mono ?_
  clear hc
  rintro e w12 ⟨AP, cP, rfl, sP, b5⟩
  have SP := Lib.hid sP
  clear sP
  replace K1 := Lib.hid (K1.out.next b5)
  replace K2 := Lib.hid (K2.out.next b5)
  replace K4 := Lib.hid (K4.out.next b5)
  replace K6 := Lib.hid (K6.out.next b5)
  replace SL := Lib.hid (SL.out.next b5)
  replace B := Lib.hid (thn B.out b5)
  clear b5
  dsimp only [List.length_cons, List.length_nil, Nat.zero_add, Nat.reduceAdd] at SP ⊢
  clear SL
  obtain ⟨pK1, qK1, rK1⟩ := K1.out.cells
  go_wp2_with fail
  have hc := right_any (1, 2, 3) 2 3 w12 (by decide) (by decide)
  rw [show rightB (1, 2, 3) 2 3 = true by decide +kernel] at hc
  refine hc.mono ?_
  clear hc
  clear pK1 qK1 rK1
  rintro e w13 ⟨rfl, b5⟩
  replace K1 := Lib.hid (K1.out.next b5)
  replace K2 := Lib.hid (K2.out.next b5)
  replace K4 := Lib.hid (K4.out.next b5)
  replace K6 := Lib.hid (K6.out.next b5)
  replace SP := Lib.hid (SP.out.next b5)
  replace B := Lib.hid (thn B.out b5)
  clear b5
  obtain ⟨pK1, qK1, rK1⟩ := K1.out.cells
  go_wp2_with fail
  have hc := right_any (1, 2, 3) 1 3 w13 (by decide) (by decide)
  rw [show rightB (1, 2, 3) 1 3 = false by decide +kernel] at hc
  refine hc.mono ?_
  clear hc
  clear pK1 qK1 rK1
  rintro e w14 ⟨rfl, b5⟩
  replace K1 := Lib.hid (K1.out.next b5)
  replace K2 := Lib.hid (K2.out.next b5)
  replace K4 := Lib.hid (K4.out.next b5)
  replace K6 := Lib.hid (K6.out.next b5)
  replace SP := Lib.hid (SP.out.next b5)
  replace B := Lib.hid (thn B.out b5)
  clear b5
  obtain ⟨pK1, qK1, rK1⟩ := K1.out.cells
  go_wp2_with fail
  have hc := right_any (1, 2, 3) 2 2 w14 (by decide) (by decide)
  rw [show rightB (1, 2, 3) 2 2 = false by decide +kernel] at hc
  refine hc.mono ?_
  clear hc
  clear pK1 qK1 rK1
  rintro e w15 ⟨rfl, b5⟩
  replace K1 := Lib.hid (K1.out.next b5)
  replace K2 := Lib.hid (K2.out.next b5)
  replace K4 := Lib.hid (K4.out.next b5)
  replace K6 := Lib.hid (K6.out.next b5)
  replace SP := Lib.hid (SP.out.next b5)
  replace B := Lib.hid (thn B.out b5)
  clear b5
  go_wp2_with fail
  have hc := right_any (1, 0, 3) 2 3 w15 (by decide) (by decide)
  rw [show rightB (1, 0, 3) 2 3 = false by decide +kernel] at hc
  refine hc.mono ?_
  clear hc
  rintro e w16 ⟨rfl, b5⟩
  replace K1 := Lib.hid (K1.out.next b5)
  replace K2 := Lib.hid (K2.out.next b5)
  replace K4 := Lib.hid (K4.out.next b5)
  replace K6 := Lib.hid (K6.out.next b5)
  replace SP := Lib.hid (SP.out.next b5)
  replace B := Lib.hid (thn B.out b5)
  clear b5
  obtain ⟨pK2, qK2, rK2⟩ := K2.out.cells
  obtain ⟨pK6, qK6, rK6⟩ := K6.out.cells
  go_wp2_with fail
  have hc := one_any 1 w16
  refine hc.mono ?_
  clear hc
  clear pK2 qK2 rK2 pK6 qK6 rK6
  rintro e w17 ⟨rfl, b5⟩
  replace K1 := Lib.hid (K1.out.next b5)
  replace K2 := Lib.hid (K2.out.next b5)
  replace K4 := Lib.hid (K4.out.next b5)
  replace K6 := Lib.hid (K6.out.next b5)
  replace SP := Lib.hid (SP.out.next b5)
  replace B := Lib.hid (thn B.out b5)
  clear b5
  go_wp2_with fail
  have hc := one_any 2 w17
  refine hc.mono ?_
  clear hc
  rintro e w18 ⟨rfl, b5⟩
  replace K1 := Lib.hid (K1.out.next b5)
  replace K2 := Lib.hid (K2.out.next b5)
  replace K4 := Lib.hid (K4.out.next b5)
  replace K6 := Lib.hid (K6.out.next b5)
  replace SP := Lib.hid (SP.out.next b5)
  replace B := Lib.hid (thn B.out b5)
  clear b5
  go_wp2_with fail
  have hc := one_any 3 w18
  refine hc.mono ?_
  clear hc
  rintro e w19 ⟨rfl, b5⟩
  replace K1 := Lib.hid (K1.out.next b5)
  replace K2 := Lib.hid (K2.out.next b5)
  replace K4 := Lib.hid (K4.out.next b5)
  replace K6 := Lib.hid (K6.out.next b5)
  replace SP := Lib.hid (SP.out.next b5)
  replace B := Lib.hid (thn B.out b5)
  clear b5
  go_wp2_with fail
  have hbl := below_lit w19 (.cells #[.int .u8 0, .int .u16 1, .int .u32 1, .int .u8 0, .int .u16 1, .int .u32 2, .int .u8 0, .int .u16 1, .int .u32 3] 25)
  replace K1 := Lib.hid (K1.out.next hbl)
  replace K2 := Lib.hid (K2.out.next hbl)
  replace K4 := Lib.hid (K4.out.next hbl)
  replace K6 := Lib.hid (K6.out.next hbl)
  replace SP := Lib.hid (SP.out.next hbl)
  replace B := Lib.hid (thn B.out hbl)
  clear hbl
  have SL : Hid (Sd (w19.alloc (.cells #[.int .u8 0, .int .u16 1, .int .u32 1, .int .u8 0, .int .u16 1, .int .u32 2, .int .u8 0, .int .u16 1, .int .u32 3] 25)) (w19.alloc (.cells #[.int .u8 0, .int .u16 1, .int .u32 1, .int .u8 0, .int .u16 1, .int .u32 2, .int .u8 0, .int .u16 1, .int .u32 3] 25)).heap.size (some ⟨w19.heap.size, 0, none⟩) 3 3 [(0, 1, 1), (0, 1, 2), (0, 1, 3)]) := (Sn.lit w19 #[.int .u8 0, .int .u16 1, .int .u32 1, .int .u8 0, .int .u16 1, .int .u32 2, .int .u8 0, .int .u16 1, .int .u32 3] 25 (0, 0) 3 3 rfl (by decide)).more (by simp)
  generalize w19.alloc (.cells #[.int .u8 0, .int .u16 1, .int .u32 1, .int .u8 0, .int .u16 1, .int .u32 2, .int .u8 0, .int .u16 1, .int .u32 3] 25) = w20 at *
  obtain ⟨h2, hh2⟩ : ∃ g, w19.heap.size = g := ⟨_, rfl⟩
  rw [hh2] at SL ⊢
  clear hh2
  have hc := same_any AP 3 cP [(0, 1, 1), (0, 1, 2), (0, 1, 3)] (some ⟨h2, 0, none⟩) 3 3 [(0, 1, 1), (0, 1, 2), (0, 1, 3)] w20 SP.out SL.out
  rw [decide_eq_true rfl] at hc
  refine hc.mono ?_
  clear hc
  rintro e w21 ⟨rfl, b5⟩
  replace K1 := Lib.hid (K1.out.next b5)
  replace K2 := Lib.hid (K2.out.next b5)
  replace K4 := Lib.hid (K4.out.next b5)
  replace K6 := Lib.hid (K6.out.next b5)
  replace SP := Lib.hid (SP.out.next b5)
  replace SL := Lib.hid (SL.out.next b5)
  replace B := Lib.hid (thn B.out b5)
  clear b5
  go_wp2_with fail
  have hc := one_any 3 w21
  refine hc.mono ?_
  clear hc
  rintro e w22 ⟨rfl, b5⟩
  replace K1 := Lib.hid (K1.out.next b5)
  replace K2 := Lib.hid (K2.out.next b5)
  replace K4 := Lib.hid (K4.out.next b5)
  replace K6 := Lib.hid (K6.out.next b5)
  replace SP := Lib.hid (SP.out.next b5)
  replace SL := Lib.hid (SL.out.next b5)
  replace B := Lib.hid (thn B.out b5)
  clear b5
  go_wp2_with fail
  have hc := drop_any AP 3 cP [(0, 1, 1), (0, 1, 2), (0, 1, 3)] (0, 1, 3) w22 SP.out (by decide)
  rw [show dropL [(0, 1, 1), (0, 1, 2), (0, 1, 3)] (0, 1, 3) = [(0, 1, 1), (0, 1, 2)] by decide +kernel] at hc
  refine hc.mono ?_
  clear hc
  rintro e w23 ⟨AD, cD, rfl, sD, b5⟩
  have SD := Lib.hid sD
  clear sD
  replace K1 := Lib.hid (K1.out.next b5)
  replace K2 := Lib.hid (K2.out.next b5)
  replace K4 := Lib.hid (K4.out.next b5)
  replace K6 := Lib.hid (K6.out.next b5)
  replace SP := Lib.hid (SP.out.next b5)
  replace SL := Lib.hid (SL.out.next b5)
  replace B := Lib.hid (thn B.out b5)
  clear b5
  dsimp only [List.length_cons, List.length_nil, Nat.zero_add, Nat.reduceAdd] at SD ⊢
  go_wp2
  go_ret
  exact ⟨rfl, B.out⟩
end Go.Proofs.Ytdpcknfplognmaa
