/- Layer 8: SeenLives. -/
import Derived.Test.YtkdlgejkgcojkaaDoorQv
namespace Go.Proofs.YtkdlgejkgcojkaaDoor
open Go.RowKit
set_option linter.unusedVariables false
theorem lives_old {r : Row3} {x : Id3} {n : Int} (h : x.2.1 < r.1) : mayI r x n = false ∧ hasI r x = false := by
  refine ⟨may_zero (by omega), ?_⟩
  unfold hasI
  rw [decide_eq_false (by omega)]; rfl
theorem lives_new {r : Row3} {x : Id3} {n : Int} (hr : rowR r) (hn : 1 ≤ n ∧ n ≤ 64) (h : r.1 < x.2.1) : mayI r x n = decide (1 ≤ x.2.2 ∧ x.2.2 ≤ n) ∧ mayI (0, 0, 0) x n = decide (1 ≤ x.2.2 ∧ x.2.2 ≤ n) ∧ takeI (0, 0, 0) x = takeI r x := by
  have h0 : 0 ≤ r.1 := hr.1.1
  have e1 : ofI r x.2.1 = (x.2.1, 0, 0) := ofI_other (by omega)
  have e2 : ofI (0, 0, 0) x.2.1 = (x.2.1, 0, 0) := ofI_other (by show (0 : Int) ≠ _; omega)
  unfold mayI takeI
  rw [e1, e2, seenI_none]
  refine ⟨?_, ?_, rfl⟩
  · simp only [Bool.not_false, Bool.and_true]
    rw [decide_eq_decide]; omega
  · simp only [Bool.not_false, Bool.and_true]
    rw [decide_eq_decide]; omega
theorem right_zero {n : Int} (hn : 1 ≤ n ∧ n ≤ 64) : rightI (0, 0, 0) n = true := by
  unfold rightI; rw [decide_eq_true hn]; rfl
theorem has_other {r q : Row3} {x : Id3} (h : r.1 ≠ x.2.1) (n : Int) : hasI (takeI r x) (0, r.1, n) = false := by
  unfold hasI takeI
  rw [decide_eq_false (fun h' => h h'.2)]; rfl
theorem eq_refl (q : Row3) (w' : World) : (binOp .eql 26 (.agg #[.int .u16 q.1, .int .u32 q.2.1, .int .u64 q.2.2]) (.agg #[.int .u16 q.1, .int .u32 q.2.1, .int .u64 q.2.2])).run Tryd.prog w' = .ok (.bool true) w' := (roweql q q w').trans (by rw [decide_eq_true rfl])
theorem neq_refl (q : Row3) (w' : World) : (binOp .neq 26 (.agg #[.int .u16 q.1, .int .u32 q.2.1, .int .u64 q.2.2]) (.agg #[.int .u16 q.1, .int .u32 q.2.1, .int .u64 q.2.2])).run Tryd.prog w' = .ok (.bool false) w' := (rowneq q q w').trans (by rw [decide_eq_true rfl]; rfl)
set_option maxRecDepth 100000 in
set_option maxHeartbeats 20000000 in
theorem lives_walk (r : Row3) (v : Int) (x : Id3) (w : World) (hr : rowR r) (hv : 0 ≤ v ∧ v ≤ 255) (hx : idR x) (hT : Tab w) :
    Calls Tryd.prog 7 #[(.agg #[.int .u16 r.1, .int .u32 r.2.1, .int .u64 r.2.2]), .int .u8 v, (.agg #[.int .u8 x.1, .int .u16 x.2.1, .int .u32 x.2.2])] w fun e w' => e = .returned (.bool true) ∧ Below w.heap.size w w' := by
  have HT := Lib.hid hT
  have HR := Lib.hid hr
  have HV := Lib.hid hv
  have HX := Lib.hid hx
  obtain ⟨wd, HW⟩ : ∃ wd, Hid (1 + v % 64 = wd) := ⟨_, rfl⟩
  obtain ⟨f0, f1⟩ : 1 ≤ wd ∧ wd ≤ 64 := by rw [← HW.out]; exact win_fit hv
  have HFW : Hid (1 ≤ wd ∧ wd ≤ 64) := ⟨f0, f1⟩
  obtain ⟨⟨i0, i1⟩, ⟨p0, p1⟩, b0, b1⟩ := hr
  obtain ⟨_, ⟨x0, x1⟩, n0, n1⟩ := hx
  have HX0 : Hid (idR (0, r.1, r.2.1)) := ⟨(show (0 : Int) ≤ 0 ∧ (0 : Int) ≤ 255 by decide), ⟨i0, i1⟩, p0, p1⟩
  obtain ⟨KR, KX, B⟩ := boxes2 w r x
  have hqq := eq_refl r
  have hnn := neq_refl r
  clear hT hv
  have ntt : ∀ w', (binOp .neq 4 (.bool true) (.bool true)).run Tryd.prog w' = .ok (.bool false) w' := fun w' => (neq_bool true true w').trans (by simp)
  have nff : ∀ w', (binOp .neq 4 (.bool false) (.bool false)).run Tryd.prog w' = .ok (.bool false) w' := fun w' => (neq_bool false false w').trans (by simp)
  cases hq : rightI r wd with
  | false =>
    have HQ := Lib.hid hq
    clear hq
    go_enter Tryd.func7, Tryd.ntmps7
    go_upto_region 1 with fail
    generalize (w.alloc (.cells #[.int .u16 r.1, .int .u32 r.2.1, .int .u64 r.2.2] 26)).alloc (.cells #[.int .u8 x.1, .int .u16 x.2.1, .int .u32 x.2.2] 28) = w1 at *
    obtain ⟨gr, hgr⟩ : ∃ g, w.heap.size = g := ⟨_, rfl⟩
    rw [hgr] at KR KX ⊢
    clear hgr
    obtain ⟨gx, hgx⟩ : ∃ g, gr + 1 = g := ⟨_, rfl⟩
    rw [hgx] at KX ⊢
    clear hgx
    go_wp2_with fail
    have hc := win_any v w1 HV.out
    rw [HW.out] at hc
    refine hc.mono ?_
    clear hc
    rintro e w2 ⟨rfl, b5⟩
    replace KR := Lib.hid (KR.out.next b5)
    replace KX := Lib.hid (KX.out.next b5)
    replace B := Lib.hid (thn B.out b5)
    clear b5
    obtain ⟨pKR, qKR, rKR⟩ := KR.out.cells
    obtain ⟨pKX, qKX, rKX⟩ := KX.out.cells
    go_wp2_with fail
    have hc := sright_any r wd w2 HR.out
    rw [HQ.out] at hc
    refine hc.mono ?_
    clear hc
    clear pKR qKR rKR pKX qKX rKX
    rintro e w3 ⟨rfl, b5⟩
    replace KR := Lib.hid (KR.out.next b5)
    replace KX := Lib.hid (KX.out.next b5)
    replace B := Lib.hid (thn B.out b5)
    clear b5
    go_wp2_with fail
    have hc := awake_any w3 (HT.out.next B.out)
    refine hc.mono ?_
    clear hc
    rintro e w4 ⟨rfl, b5⟩
    replace KR := Lib.hid (KR.out.next b5)
    replace KX := Lib.hid (KX.out.next b5)
    replace B := Lib.hid (thn B.out b5)
    clear b5
    go_wp2
    go_ret
    exact ⟨rfl, B.out⟩
  | true =>
    have HQ := Lib.hid hq
    clear hq
    by_cases ho : x.2.1 < r.1
    · have HM := Lib.hid (lives_old (n := wd) ho).1
      have HH := Lib.hid (lives_old (n := wd) ho).2
      go_enter Tryd.func7, Tryd.ntmps7
      go_upto_region 1 with fail
      generalize (w.alloc (.cells #[.int .u16 r.1, .int .u32 r.2.1, .int .u64 r.2.2] 26)).alloc (.cells #[.int .u8 x.1, .int .u16 x.2.1, .int .u32 x.2.2] 28) = w1 at *
      obtain ⟨gr, hgr⟩ : ∃ g, w.heap.size = g := ⟨_, rfl⟩
      rw [hgr] at KR KX ⊢
      clear hgr
      obtain ⟨gx, hgx⟩ : ∃ g, gr + 1 = g := ⟨_, rfl⟩
      rw [hgx] at KX ⊢
      clear hgx
      go_wp2_with fail
      have hc := win_any v w1 HV.out
      rw [HW.out] at hc
      refine hc.mono ?_
      clear hc
      rintro e w2 ⟨rfl, b5⟩
      replace KR := Lib.hid (KR.out.next b5)
      replace KX := Lib.hid (KX.out.next b5)
      replace B := Lib.hid (thn B.out b5)
      clear b5
      obtain ⟨pKR, qKR, rKR⟩ := KR.out.cells
      obtain ⟨pKX, qKX, rKX⟩ := KX.out.cells
      go_wp2_with fail
      have hc := sright_any r wd w2 HR.out
      rw [HQ.out] at hc
      refine hc.mono ?_
      clear hc
      clear pKR qKR rKR pKX qKX rKX
      rintro e w3 ⟨rfl, b5⟩
      replace KR := Lib.hid (KR.out.next b5)
      replace KX := Lib.hid (KX.out.next b5)
      replace B := Lib.hid (thn B.out b5)
      clear b5
      obtain ⟨pKR, qKR, rKR⟩ := KR.out.cells
      obtain ⟨pKX, qKX, rKX⟩ := KX.out.cells
      go_wp2_with fail
      have hc := take_no r x wd w3 HR.out HX.out HM.out
      refine hc.mono ?_
      clear hc
      clear pKR qKR rKR pKX qKX rKX
      rintro e w4 ⟨rfl, b5⟩
      replace KR := Lib.hid (KR.out.next b5)
      replace KX := Lib.hid (KX.out.next b5)
      replace B := Lib.hid (thn B.out b5)
      clear b5
      go_upto_region 5 with fail
      have hbl := below_lit w4 (.cells #[.int .u16 r.1, .int .u32 r.2.1, .int .u64 r.2.2] 26)
      replace KR := Lib.hid (KR.out.next hbl)
      replace KX := Lib.hid (KX.out.next hbl)
      replace B := Lib.hid (thn B.out hbl)
      clear hbl
      have KN : Hid (RowBlk (w4.alloc (.cells #[.int .u16 r.1, .int .u32 r.2.1, .int .u64 r.2.2] 26)) w4.heap.size r) := RowBlk.new w4 r
      generalize w4.alloc (.cells #[.int .u16 r.1, .int .u32 r.2.1, .int .u64 r.2.2] 26) = w5 at *
      obtain ⟨gn, hgn⟩ : ∃ g, w4.heap.size = g := ⟨_, rfl⟩
      rw [hgn] at KN ⊢
      clear hgn
      obtain ⟨pKR, qKR, rKR⟩ := KR.out.cells
      obtain ⟨pKX, qKX, rKX⟩ := KX.out.cells
      obtain ⟨pKN, qKN, rKN⟩ := KN.out.cells
      go_wp2_with fail
      have hc := shas_any r x w5 HR.out HX.out
      rw [HH.out] at hc
      refine hc.mono ?_
      clear hc
      clear pKR qKR rKR pKX qKX rKX pKN qKN rKN
      rintro e w6 ⟨rfl, b5⟩
      replace KR := Lib.hid (KR.out.next b5)
      replace KX := Lib.hid (KX.out.next b5)
      replace KN := Lib.hid (KN.out.next b5)
      replace B := Lib.hid (thn B.out b5)
      clear b5
      obtain ⟨pKR, qKR, rKR⟩ := KR.out.cells
      obtain ⟨pKX, qKX, rKX⟩ := KX.out.cells
      obtain ⟨pKN, qKN, rKN⟩ := KN.out.cells
      go_wp2_with fail
      have hc := awake_any w6 (HT.out.next B.out)
      refine hc.mono ?_
      clear hc
      clear pKR qKR rKR pKX qKX rKX pKN qKN rKN
      rintro e w7 ⟨rfl, b5⟩
      replace KR := Lib.hid (KR.out.next b5)
      replace KX := Lib.hid (KX.out.next b5)
      replace KN := Lib.hid (KN.out.next b5)
      replace B := Lib.hid (thn B.out b5)
      clear b5
      go_wp2
      go_ret
      exact ⟨rfl, B.out⟩
    · by_cases he : r.1 = x.2.1
      · have he' : (x.2.1 == r.1) = true := by simp [he]
        replace ho : r.1 ≤ x.2.1 := by omega
        clear he
        cases hm : mayI r x wd with
        | false =>
          have HM := Lib.hid hm
          obtain ⟨tk, HTK⟩ : ∃ tk, Hid (takeI r x = tk) := ⟨_, rfl⟩
          clear hm
          go_enter Tryd.func7, Tryd.ntmps7
          go_upto_region 1 with fail
          generalize (w.alloc (.cells #[.int .u16 r.1, .int .u32 r.2.1, .int .u64 r.2.2] 26)).alloc (.cells #[.int .u8 x.1, .int .u16 x.2.1, .int .u32 x.2.2] 28) = w1 at *
          obtain ⟨gr, hgr⟩ : ∃ g, w.heap.size = g := ⟨_, rfl⟩
          rw [hgr] at KR KX ⊢
          clear hgr
          obtain ⟨gx, hgx⟩ : ∃ g, gr + 1 = g := ⟨_, rfl⟩
          rw [hgx] at KX ⊢
          clear hgx
          go_wp2_with fail
          have hc := win_any v w1 HV.out
          rw [HW.out] at hc
          refine hc.mono ?_
          clear hc
          rintro e w2 ⟨rfl, b5⟩
          replace KR := Lib.hid (KR.out.next b5)
          replace KX := Lib.hid (KX.out.next b5)
          replace B := Lib.hid (thn B.out b5)
          clear b5
          obtain ⟨pKR, qKR, rKR⟩ := KR.out.cells
          obtain ⟨pKX, qKX, rKX⟩ := KX.out.cells
          go_wp2_with fail
          have hc := sright_any r wd w2 HR.out
          rw [HQ.out] at hc
          refine hc.mono ?_
          clear hc
          clear pKR qKR rKR pKX qKX rKX
          rintro e w3 ⟨rfl, b5⟩
          replace KR := Lib.hid (KR.out.next b5)
          replace KX := Lib.hid (KX.out.next b5)
          replace B := Lib.hid (thn B.out b5)
          clear b5
          obtain ⟨pKR, qKR, rKR⟩ := KR.out.cells
          obtain ⟨pKX, qKX, rKX⟩ := KX.out.cells
          go_wp2_with fail
          have hc := take_no r x wd w3 HR.out HX.out HM.out
          refine hc.mono ?_
          clear hc
          clear pKR qKR rKR pKX qKX rKX
          rintro e w4 ⟨rfl, b5⟩
          replace KR := Lib.hid (KR.out.next b5)
          replace KX := Lib.hid (KX.out.next b5)
          replace B := Lib.hid (thn B.out b5)
          clear b5
          go_upto_region 5 with fail
          have hbl := below_lit w4 (.cells #[.int .u16 r.1, .int .u32 r.2.1, .int .u64 r.2.2] 26)
          replace KR := Lib.hid (KR.out.next hbl)
          replace KX := Lib.hid (KX.out.next hbl)
          replace B := Lib.hid (thn B.out hbl)
          clear hbl
          have KN : Hid (RowBlk (w4.alloc (.cells #[.int .u16 r.1, .int .u32 r.2.1, .int .u64 r.2.2] 26)) w4.heap.size r) := RowBlk.new w4 r
          generalize w4.alloc (.cells #[.int .u16 r.1, .int .u32 r.2.1, .int .u64 r.2.2] 26) = w5 at *
          obtain ⟨gn, hgn⟩ : ∃ g, w4.heap.size = g := ⟨_, rfl⟩
          rw [hgn] at KN ⊢
          clear hgn
          obtain ⟨pKR, qKR, rKR⟩ := KR.out.cells
          obtain ⟨pKX, qKX, rKX⟩ := KX.out.cells
          obtain ⟨pKN, qKN, rKN⟩ := KN.out.cells
          go_wp2_with fail
          have hc := awake_any w5 (HT.out.next B.out)
          refine hc.mono ?_
          clear hc
          clear pKR qKR rKR pKX qKX rKX pKN qKN rKN
          rintro e w6 ⟨rfl, b5⟩
          replace KR := Lib.hid (KR.out.next b5)
          replace KX := Lib.hid (KX.out.next b5)
          replace KN := Lib.hid (KN.out.next b5)
          replace B := Lib.hid (thn B.out b5)
          clear b5
          go_wp2
          go_ret
          exact ⟨rfl, B.out⟩
        | true =>
          have HM := Lib.hid hm
          obtain ⟨tk, HTK⟩ : ∃ tk, Hid (takeI r x = tk) := ⟨_, rfl⟩
          clear hm
          go_enter Tryd.func7, Tryd.ntmps7
          go_upto_region 1 with fail
          generalize (w.alloc (.cells #[.int .u16 r.1, .int .u32 r.2.1, .int .u64 r.2.2] 26)).alloc (.cells #[.int .u8 x.1, .int .u16 x.2.1, .int .u32 x.2.2] 28) = w1 at *
          obtain ⟨gr, hgr⟩ : ∃ g, w.heap.size = g := ⟨_, rfl⟩
          rw [hgr] at KR KX ⊢
          clear hgr
          obtain ⟨gx, hgx⟩ : ∃ g, gr + 1 = g := ⟨_, rfl⟩
          rw [hgx] at KX ⊢
          clear hgx
          go_wp2_with fail
          have hc := win_any v w1 HV.out
          rw [HW.out] at hc
          refine hc.mono ?_
          clear hc
          rintro e w2 ⟨rfl, b5⟩
          replace KR := Lib.hid (KR.out.next b5)
          replace KX := Lib.hid (KX.out.next b5)
          replace B := Lib.hid (thn B.out b5)
          clear b5
          obtain ⟨pKR, qKR, rKR⟩ := KR.out.cells
          obtain ⟨pKX, qKX, rKX⟩ := KX.out.cells
          go_wp2_with fail
          have hc := sright_any r wd w2 HR.out
          rw [HQ.out] at hc
          refine hc.mono ?_
          clear hc
          clear pKR qKR rKR pKX qKX rKX
          rintro e w3 ⟨rfl, b5⟩
          replace KR := Lib.hid (KR.out.next b5)
          replace KX := Lib.hid (KX.out.next b5)
          replace B := Lib.hid (thn B.out b5)
          clear b5
          obtain ⟨pKR, qKR, rKR⟩ := KR.out.cells
          obtain ⟨pKX, qKX, rKX⟩ := KX.out.cells
          go_wp2_with fail
          have hc := take_yes r x wd w3 HR.out HX.out HQ.out HM.out (HT.out.next B.out)
          rw [HTK.out] at hc
          refine hc.mono ?_
          clear hc
          clear pKR qKR rKR pKX qKX rKX
          rintro e w4 ⟨rfl, b5⟩
          replace KR := Lib.hid (KR.out.next b5)
          replace KX := Lib.hid (KX.out.next b5)
          replace B := Lib.hid (thn B.out b5)
          clear b5
          go_upto_region 5 with fail
          have hbl := below_lit w4 (.cells #[.int .u16 tk.1, .int .u32 tk.2.1, .int .u64 tk.2.2] 26)
          replace KR := Lib.hid (KR.out.next hbl)
          replace KX := Lib.hid (KX.out.next hbl)
          replace B := Lib.hid (thn B.out hbl)
          clear hbl
          have KN : Hid (RowBlk (w4.alloc (.cells #[.int .u16 tk.1, .int .u32 tk.2.1, .int .u64 tk.2.2] 26)) w4.heap.size tk) := RowBlk.new w4 tk
          generalize w4.alloc (.cells #[.int .u16 tk.1, .int .u32 tk.2.1, .int .u64 tk.2.2] 26) = w5 at *
          obtain ⟨gn, hgn⟩ : ∃ g, w4.heap.size = g := ⟨_, rfl⟩
          rw [hgn] at KN ⊢
          clear hgn
          obtain ⟨pKR, qKR, rKR⟩ := KR.out.cells
          obtain ⟨pKX, qKX, rKX⟩ := KX.out.cells
          obtain ⟨pKN, qKN, rKN⟩ := KN.out.cells
          go_wp2_with fail
          have hc := awake_any w5 (HT.out.next B.out)
          refine hc.mono ?_
          clear hc
          clear pKR qKR rKR pKX qKX rKX pKN qKN rKN
          rintro e w6 ⟨rfl, b5⟩
          replace KR := Lib.hid (KR.out.next b5)
          replace KX := Lib.hid (KX.out.next b5)
          replace KN := Lib.hid (KN.out.next b5)
          replace B := Lib.hid (thn B.out b5)
          clear b5
          go_wp2
          go_ret
          exact ⟨rfl, B.out⟩
      · replace ho : r.1 < x.2.1 := by omega
        obtain ⟨hm1, hm2, hm3⟩ := lives_new HR.out HFW.out ho
        have HO := Lib.hid (has_other (q := r) he r.2.1)
        have he' : (x.2.1 == r.1) = false := by simp only [beq_eq_false_iff_ne]; omega
        have hz' : (x.2.1 == 0) = false := by simp only [beq_eq_false_iff_ne]; omega
        have HZR : Hid (rowR (0, 0, 0)) := rowR_zero (by decide)
        obtain ⟨tk, HTK⟩ : ∃ tk, Hid (takeI r x = tk) := ⟨_, rfl⟩
        rw [HTK.out] at hm3 HO
        have HT0 := Lib.hid hm3
        have hk : rowR r := HR.out
        have htq := eq_refl tk
        clear he hm3 hk
        by_cases hs0 : 1 ≤ x.2.2
        · by_cases hs1 : x.2.2 ≤ wd
          · rw [decide_eq_true ⟨hs0, hs1⟩] at hm1 hm2
            have HM := Lib.hid hm1
            have HM2 := Lib.hid hm2
            have HZ0 := Lib.hid (right_zero HFW.out)
            have HKR := Lib.hid (take_right_ HR.out HX.out.2.1 HX.out.2.2.2 HQ.out HM.out).2
            clear hm1 hm2
            go_enter Tryd.func7, Tryd.ntmps7
            go_upto_region 1 with fail
            generalize (w.alloc (.cells #[.int .u16 r.1, .int .u32 r.2.1, .int .u64 r.2.2] 26)).alloc (.cells #[.int .u8 x.1, .int .u16 x.2.1, .int .u32 x.2.2] 28) = w1 at *
            obtain ⟨gr, hgr⟩ : ∃ g, w.heap.size = g := ⟨_, rfl⟩
            rw [hgr] at KR KX ⊢
            clear hgr
            obtain ⟨gx, hgx⟩ : ∃ g, gr + 1 = g := ⟨_, rfl⟩
            rw [hgx] at KX ⊢
            clear hgx
            go_wp2_with fail
            have hc := win_any v w1 HV.out
            rw [HW.out] at hc
            refine hc.mono ?_
            clear hc
            rintro e w2 ⟨rfl, b5⟩
            replace KR := Lib.hid (KR.out.next b5)
            replace KX := Lib.hid (KX.out.next b5)
            replace B := Lib.hid (thn B.out b5)
            clear b5
            obtain ⟨pKR, qKR, rKR⟩ := KR.out.cells
            obtain ⟨pKX, qKX, rKX⟩ := KX.out.cells
            go_wp2_with fail
            have hc := sright_any r wd w2 HR.out
            rw [HQ.out] at hc
            refine hc.mono ?_
            clear hc
            clear pKR qKR rKR pKX qKX rKX
            rintro e w3 ⟨rfl, b5⟩
            replace KR := Lib.hid (KR.out.next b5)
            replace KX := Lib.hid (KX.out.next b5)
            replace B := Lib.hid (thn B.out b5)
            clear b5
            obtain ⟨pKR, qKR, rKR⟩ := KR.out.cells
            obtain ⟨pKX, qKX, rKX⟩ := KX.out.cells
            go_wp2_with fail
            have hc := take_yes r x wd w3 HR.out HX.out HQ.out HM.out (HT.out.next B.out)
            rw [HTK.out] at hc
            refine hc.mono ?_
            clear hc
            clear pKR qKR rKR pKX qKX rKX
            rintro e w4 ⟨rfl, b5⟩
            replace KR := Lib.hid (KR.out.next b5)
            replace KX := Lib.hid (KX.out.next b5)
            replace B := Lib.hid (thn B.out b5)
            clear b5
            go_upto_region 5 with fail
            have hbl := below_lit w4 (.cells #[.int .u16 tk.1, .int .u32 tk.2.1, .int .u64 tk.2.2] 26)
            replace KR := Lib.hid (KR.out.next hbl)
            replace KX := Lib.hid (KX.out.next hbl)
            replace B := Lib.hid (thn B.out hbl)
            clear hbl
            have KN : Hid (RowBlk (w4.alloc (.cells #[.int .u16 tk.1, .int .u32 tk.2.1, .int .u64 tk.2.2] 26)) w4.heap.size tk) := RowBlk.new w4 tk
            generalize w4.alloc (.cells #[.int .u16 tk.1, .int .u32 tk.2.1, .int .u64 tk.2.2] 26) = w5 at *
            obtain ⟨gn, hgn⟩ : ∃ g, w4.heap.size = g := ⟨_, rfl⟩
            rw [hgn] at KN ⊢
            clear hgn
            obtain ⟨pKR, qKR, rKR⟩ := KR.out.cells
            obtain ⟨pKX, qKX, rKX⟩ := KX.out.cells
            obtain ⟨pKN, qKN, rKN⟩ := KN.out.cells
            go_upto_region 12 with fail
            clear pKR qKR rKR pKX qKX rKX pKN qKN rKN
            have hbl := below_lit w5 (.cells #[.int .u8 0, .int .u16 r.1, .int .u32 r.2.1] 28)
            replace KR := Lib.hid (KR.out.next hbl)
            replace KX := Lib.hid (KX.out.next hbl)
            replace KN := Lib.hid (KN.out.next hbl)
            replace B := Lib.hid (thn B.out hbl)
            clear hbl
            have KO : Hid (IdBlk (w5.alloc (.cells #[.int .u8 0, .int .u16 r.1, .int .u32 r.2.1] 28)) w5.heap.size (0, r.1, r.2.1)) := IdBlk.new w5 (0, r.1, r.2.1)
            generalize w5.alloc (.cells #[.int .u8 0, .int .u16 r.1, .int .u32 r.2.1] 28) = w6 at *
            obtain ⟨go, hgo⟩ : ∃ g, w5.heap.size = g := ⟨_, rfl⟩
            rw [hgo] at KO ⊢
            clear hgo
            obtain ⟨pKR, qKR, rKR⟩ := KR.out.cells
            obtain ⟨pKX, qKX, rKX⟩ := KX.out.cells
            obtain ⟨pKN, qKN, rKN⟩ := KN.out.cells
            obtain ⟨pKO, qKO, rKO⟩ := KO.out.cells
            go_wp2_with fail
            have hc := take_yes (0, 0, 0) x wd w6 HZR.out HX.out HZ0.out HM2.out (HT.out.next B.out)
            rw [HT0.out] at hc
            refine hc.mono ?_
            clear hc
            clear pKR qKR rKR pKX qKX rKX pKN qKN rKN pKO qKO rKO
            rintro e w7 ⟨rfl, b5⟩
            replace KR := Lib.hid (KR.out.next b5)
            replace KX := Lib.hid (KX.out.next b5)
            replace KN := Lib.hid (KN.out.next b5)
            replace KO := Lib.hid (KO.out.next b5)
            replace B := Lib.hid (thn B.out b5)
            clear b5
            go_upto_region 13 with fail
            have hbl := below_lit w7 (.cells #[.int .u16 tk.1, .int .u32 tk.2.1, .int .u64 tk.2.2] 26)
            replace KR := Lib.hid (KR.out.next hbl)
            replace KX := Lib.hid (KX.out.next hbl)
            replace KN := Lib.hid (KN.out.next hbl)
            replace KO := Lib.hid (KO.out.next hbl)
            replace B := Lib.hid (thn B.out hbl)
            clear hbl
            have KF : Hid (RowBlk (w7.alloc (.cells #[.int .u16 tk.1, .int .u32 tk.2.1, .int .u64 tk.2.2] 26)) w7.heap.size tk) := RowBlk.new w7 tk
            generalize w7.alloc (.cells #[.int .u16 tk.1, .int .u32 tk.2.1, .int .u64 tk.2.2] 26) = w8 at *
            obtain ⟨gf, hgf⟩ : ∃ g, w7.heap.size = g := ⟨_, rfl⟩
            rw [hgf] at KF ⊢
            clear hgf
            obtain ⟨pKR, qKR, rKR⟩ := KR.out.cells
            obtain ⟨pKX, qKX, rKX⟩ := KX.out.cells
            obtain ⟨pKN, qKN, rKN⟩ := KN.out.cells
            obtain ⟨pKO, qKO, rKO⟩ := KO.out.cells
            obtain ⟨pKF, qKF, rKF⟩ := KF.out.cells
            go_wp2_with fail
            have hc := shas_any tk (0, r.1, r.2.1) w8 (by have h := HKR.out; rw [HTK.out] at h; exact h) HX0.out
            rw [HO.out] at hc
            refine hc.mono ?_
            clear hc
            clear pKR qKR rKR pKX qKX rKX pKN qKN rKN pKO qKO rKO pKF qKF rKF
            rintro e w9 ⟨rfl, b5⟩
            replace KR := Lib.hid (KR.out.next b5)
            replace KX := Lib.hid (KX.out.next b5)
            replace KN := Lib.hid (KN.out.next b5)
            replace KO := Lib.hid (KO.out.next b5)
            replace KF := Lib.hid (KF.out.next b5)
            replace B := Lib.hid (thn B.out b5)
            clear b5
            obtain ⟨pKR, qKR, rKR⟩ := KR.out.cells
            obtain ⟨pKX, qKX, rKX⟩ := KX.out.cells
            obtain ⟨pKN, qKN, rKN⟩ := KN.out.cells
            obtain ⟨pKO, qKO, rKO⟩ := KO.out.cells
            obtain ⟨pKF, qKF, rKF⟩ := KF.out.cells
            go_wp2_with fail
            have hc := awake_any w9 (HT.out.next B.out)
            refine hc.mono ?_
            clear hc
            clear pKR qKR rKR pKX qKX rKX pKN qKN rKN pKO qKO rKO pKF qKF rKF
            rintro e w10 ⟨rfl, b5⟩
            replace KR := Lib.hid (KR.out.next b5)
            replace KX := Lib.hid (KX.out.next b5)
            replace KN := Lib.hid (KN.out.next b5)
            replace KO := Lib.hid (KO.out.next b5)
            replace KF := Lib.hid (KF.out.next b5)
            replace B := Lib.hid (thn B.out b5)
            clear b5
            go_wp2
            go_ret
            exact ⟨rfl, B.out⟩
          · rw [decide_eq_false (fun h => hs1 h.2)] at hm1 hm2
            replace hs1 : wd < x.2.2 := by omega
            have HM := Lib.hid hm1
            have HM2 := Lib.hid hm2
            have HZ0 := Lib.hid (right_zero HFW.out)
            clear hm1 hm2
            go_enter Tryd.func7, Tryd.ntmps7
            go_upto_region 1 with fail
            generalize (w.alloc (.cells #[.int .u16 r.1, .int .u32 r.2.1, .int .u64 r.2.2] 26)).alloc (.cells #[.int .u8 x.1, .int .u16 x.2.1, .int .u32 x.2.2] 28) = w1 at *
            obtain ⟨gr, hgr⟩ : ∃ g, w.heap.size = g := ⟨_, rfl⟩
            rw [hgr] at KR KX ⊢
            clear hgr
            obtain ⟨gx, hgx⟩ : ∃ g, gr + 1 = g := ⟨_, rfl⟩
            rw [hgx] at KX ⊢
            clear hgx
            go_wp2_with fail
            have hc := win_any v w1 HV.out
            rw [HW.out] at hc
            refine hc.mono ?_
            clear hc
            rintro e w2 ⟨rfl, b5⟩
            replace KR := Lib.hid (KR.out.next b5)
            replace KX := Lib.hid (KX.out.next b5)
            replace B := Lib.hid (thn B.out b5)
            clear b5
            obtain ⟨pKR, qKR, rKR⟩ := KR.out.cells
            obtain ⟨pKX, qKX, rKX⟩ := KX.out.cells
            go_wp2_with fail
            have hc := sright_any r wd w2 HR.out
            rw [HQ.out] at hc
            refine hc.mono ?_
            clear hc
            clear pKR qKR rKR pKX qKX rKX
            rintro e w3 ⟨rfl, b5⟩
            replace KR := Lib.hid (KR.out.next b5)
            replace KX := Lib.hid (KX.out.next b5)
            replace B := Lib.hid (thn B.out b5)
            clear b5
            obtain ⟨pKR, qKR, rKR⟩ := KR.out.cells
            obtain ⟨pKX, qKX, rKX⟩ := KX.out.cells
            go_wp2_with fail
            have hc := take_no r x wd w3 HR.out HX.out HM.out
            refine hc.mono ?_
            clear hc
            clear pKR qKR rKR pKX qKX rKX
            rintro e w4 ⟨rfl, b5⟩
            replace KR := Lib.hid (KR.out.next b5)
            replace KX := Lib.hid (KX.out.next b5)
            replace B := Lib.hid (thn B.out b5)
            clear b5
            go_upto_region 5 with fail
            have hbl := below_lit w4 (.cells #[.int .u16 r.1, .int .u32 r.2.1, .int .u64 r.2.2] 26)
            replace KR := Lib.hid (KR.out.next hbl)
            replace KX := Lib.hid (KX.out.next hbl)
            replace B := Lib.hid (thn B.out hbl)
            clear hbl
            have KN : Hid (RowBlk (w4.alloc (.cells #[.int .u16 r.1, .int .u32 r.2.1, .int .u64 r.2.2] 26)) w4.heap.size r) := RowBlk.new w4 r
            generalize w4.alloc (.cells #[.int .u16 r.1, .int .u32 r.2.1, .int .u64 r.2.2] 26) = w5 at *
            obtain ⟨gn, hgn⟩ : ∃ g, w4.heap.size = g := ⟨_, rfl⟩
            rw [hgn] at KN ⊢
            clear hgn
            obtain ⟨pKR, qKR, rKR⟩ := KR.out.cells
            obtain ⟨pKX, qKX, rKX⟩ := KX.out.cells
            obtain ⟨pKN, qKN, rKN⟩ := KN.out.cells
            go_upto_region 12 with fail
            clear pKR qKR rKR pKX qKX rKX pKN qKN rKN
            have hbl := below_lit w5 (.cells #[.int .u8 0, .int .u16 r.1, .int .u32 r.2.1] 28)
            replace KR := Lib.hid (KR.out.next hbl)
            replace KX := Lib.hid (KX.out.next hbl)
            replace KN := Lib.hid (KN.out.next hbl)
            replace B := Lib.hid (thn B.out hbl)
            clear hbl
            have KO : Hid (IdBlk (w5.alloc (.cells #[.int .u8 0, .int .u16 r.1, .int .u32 r.2.1] 28)) w5.heap.size (0, r.1, r.2.1)) := IdBlk.new w5 (0, r.1, r.2.1)
            generalize w5.alloc (.cells #[.int .u8 0, .int .u16 r.1, .int .u32 r.2.1] 28) = w6 at *
            obtain ⟨go, hgo⟩ : ∃ g, w5.heap.size = g := ⟨_, rfl⟩
            rw [hgo] at KO ⊢
            clear hgo
            obtain ⟨pKR, qKR, rKR⟩ := KR.out.cells
            obtain ⟨pKX, qKX, rKX⟩ := KX.out.cells
            obtain ⟨pKN, qKN, rKN⟩ := KN.out.cells
            obtain ⟨pKO, qKO, rKO⟩ := KO.out.cells
            go_wp2_with fail
            have hc := take_no (0, 0, 0) x wd w6 HZR.out HX.out HM2.out
            refine hc.mono ?_
            clear hc
            clear pKR qKR rKR pKX qKX rKX pKN qKN rKN pKO qKO rKO
            rintro e w7 ⟨rfl, b5⟩
            replace KR := Lib.hid (KR.out.next b5)
            replace KX := Lib.hid (KX.out.next b5)
            replace KN := Lib.hid (KN.out.next b5)
            replace KO := Lib.hid (KO.out.next b5)
            replace B := Lib.hid (thn B.out b5)
            clear b5
            go_upto_region 13 with fail
            have hbl := below_lit w7 (.cells #[.int .u16 0, .int .u32 0, .int .u64 0] 26)
            replace KR := Lib.hid (KR.out.next hbl)
            replace KX := Lib.hid (KX.out.next hbl)
            replace KN := Lib.hid (KN.out.next hbl)
            replace KO := Lib.hid (KO.out.next hbl)
            replace B := Lib.hid (thn B.out hbl)
            clear hbl
            have KF : Hid (RowBlk (w7.alloc (.cells #[.int .u16 0, .int .u32 0, .int .u64 0] 26)) w7.heap.size (0, 0, 0)) := RowBlk.new w7 (0, 0, 0)
            generalize w7.alloc (.cells #[.int .u16 0, .int .u32 0, .int .u64 0] 26) = w8 at *
            obtain ⟨gf, hgf⟩ : ∃ g, w7.heap.size = g := ⟨_, rfl⟩
            rw [hgf] at KF ⊢
            clear hgf
            obtain ⟨pKR, qKR, rKR⟩ := KR.out.cells
            obtain ⟨pKX, qKX, rKX⟩ := KX.out.cells
            obtain ⟨pKN, qKN, rKN⟩ := KN.out.cells
            obtain ⟨pKO, qKO, rKO⟩ := KO.out.cells
            obtain ⟨pKF, qKF, rKF⟩ := KF.out.cells
            go_wp2_with fail
            have hc := awake_any w8 (HT.out.next B.out)
            refine hc.mono ?_
            clear hc
            clear pKR qKR rKR pKX qKX rKX pKN qKN rKN pKO qKO rKO pKF qKF rKF
            rintro e w9 ⟨rfl, b5⟩
            replace KR := Lib.hid (KR.out.next b5)
            replace KX := Lib.hid (KX.out.next b5)
            replace KN := Lib.hid (KN.out.next b5)
            replace KO := Lib.hid (KO.out.next b5)
            replace KF := Lib.hid (KF.out.next b5)
            replace B := Lib.hid (thn B.out b5)
            clear b5
            go_wp2
            go_ret
            exact ⟨rfl, B.out⟩
        · rw [decide_eq_false (fun h => hs0 h.1)] at hm1 hm2
          replace hs0 : x.2.2 ≤ 0 := by omega
          have HM := Lib.hid hm1
          have HM2 := Lib.hid hm2
          have HZ0 := Lib.hid (right_zero HFW.out)
          clear hm1 hm2
          go_enter Tryd.func7, Tryd.ntmps7
          go_upto_region 1 with fail
          generalize (w.alloc (.cells #[.int .u16 r.1, .int .u32 r.2.1, .int .u64 r.2.2] 26)).alloc (.cells #[.int .u8 x.1, .int .u16 x.2.1, .int .u32 x.2.2] 28) = w1 at *
          obtain ⟨gr, hgr⟩ : ∃ g, w.heap.size = g := ⟨_, rfl⟩
          rw [hgr] at KR KX ⊢
          clear hgr
          obtain ⟨gx, hgx⟩ : ∃ g, gr + 1 = g := ⟨_, rfl⟩
          rw [hgx] at KX ⊢
          clear hgx
          go_wp2_with fail
          have hc := win_any v w1 HV.out
          rw [HW.out] at hc
          refine hc.mono ?_
          clear hc
          rintro e w2 ⟨rfl, b5⟩
          replace KR := Lib.hid (KR.out.next b5)
          replace KX := Lib.hid (KX.out.next b5)
          replace B := Lib.hid (thn B.out b5)
          clear b5
          obtain ⟨pKR, qKR, rKR⟩ := KR.out.cells
          obtain ⟨pKX, qKX, rKX⟩ := KX.out.cells
          go_wp2_with fail
          have hc := sright_any r wd w2 HR.out
          rw [HQ.out] at hc
          refine hc.mono ?_
          clear hc
          clear pKR qKR rKR pKX qKX rKX
          rintro e w3 ⟨rfl, b5⟩
          replace KR := Lib.hid (KR.out.next b5)
          replace KX := Lib.hid (KX.out.next b5)
          replace B := Lib.hid (thn B.out b5)
          clear b5
          obtain ⟨pKR, qKR, rKR⟩ := KR.out.cells
          obtain ⟨pKX, qKX, rKX⟩ := KX.out.cells
          go_wp2_with fail
          have hc := take_no r x wd w3 HR.out HX.out HM.out
          refine hc.mono ?_
          clear hc
          clear pKR qKR rKR pKX qKX rKX
          rintro e w4 ⟨rfl, b5⟩
          replace KR := Lib.hid (KR.out.next b5)
          replace KX := Lib.hid (KX.out.next b5)
          replace B := Lib.hid (thn B.out b5)
          clear b5
          go_upto_region 5 with fail
          have hbl := below_lit w4 (.cells #[.int .u16 r.1, .int .u32 r.2.1, .int .u64 r.2.2] 26)
          replace KR := Lib.hid (KR.out.next hbl)
          replace KX := Lib.hid (KX.out.next hbl)
          replace B := Lib.hid (thn B.out hbl)
          clear hbl
          have KN : Hid (RowBlk (w4.alloc (.cells #[.int .u16 r.1, .int .u32 r.2.1, .int .u64 r.2.2] 26)) w4.heap.size r) := RowBlk.new w4 r
          generalize w4.alloc (.cells #[.int .u16 r.1, .int .u32 r.2.1, .int .u64 r.2.2] 26) = w5 at *
          obtain ⟨gn, hgn⟩ : ∃ g, w4.heap.size = g := ⟨_, rfl⟩
          rw [hgn] at KN ⊢
          clear hgn
          obtain ⟨pKR, qKR, rKR⟩ := KR.out.cells
          obtain ⟨pKX, qKX, rKX⟩ := KX.out.cells
          obtain ⟨pKN, qKN, rKN⟩ := KN.out.cells
          go_upto_region 12 with fail
          clear pKR qKR rKR pKX qKX rKX pKN qKN rKN
          have hbl := below_lit w5 (.cells #[.int .u8 0, .int .u16 r.1, .int .u32 r.2.1] 28)
          replace KR := Lib.hid (KR.out.next hbl)
          replace KX := Lib.hid (KX.out.next hbl)
          replace KN := Lib.hid (KN.out.next hbl)
          replace B := Lib.hid (thn B.out hbl)
          clear hbl
          have KO : Hid (IdBlk (w5.alloc (.cells #[.int .u8 0, .int .u16 r.1, .int .u32 r.2.1] 28)) w5.heap.size (0, r.1, r.2.1)) := IdBlk.new w5 (0, r.1, r.2.1)
          generalize w5.alloc (.cells #[.int .u8 0, .int .u16 r.1, .int .u32 r.2.1] 28) = w6 at *
          obtain ⟨go, hgo⟩ : ∃ g, w5.heap.size = g := ⟨_, rfl⟩
          rw [hgo] at KO ⊢
          clear hgo
          obtain ⟨pKR, qKR, rKR⟩ := KR.out.cells
          obtain ⟨pKX, qKX, rKX⟩ := KX.out.cells
          obtain ⟨pKN, qKN, rKN⟩ := KN.out.cells
          obtain ⟨pKO, qKO, rKO⟩ := KO.out.cells
          go_wp2_with fail
          have hc := take_no (0, 0, 0) x wd w6 HZR.out HX.out HM2.out
          refine hc.mono ?_
          clear hc
          clear pKR qKR rKR pKX qKX rKX pKN qKN rKN pKO qKO rKO
          rintro e w7 ⟨rfl, b5⟩
          replace KR := Lib.hid (KR.out.next b5)
          replace KX := Lib.hid (KX.out.next b5)
          replace KN := Lib.hid (KN.out.next b5)
          replace KO := Lib.hid (KO.out.next b5)
          replace B := Lib.hid (thn B.out b5)
          clear b5
          go_upto_region 13 with fail
          have hbl := below_lit w7 (.cells #[.int .u16 0, .int .u32 0, .int .u64 0] 26)
          replace KR := Lib.hid (KR.out.next hbl)
          replace KX := Lib.hid (KX.out.next hbl)
          replace KN := Lib.hid (KN.out.next hbl)
          replace KO := Lib.hid (KO.out.next hbl)
          replace B := Lib.hid (thn B.out hbl)
          clear hbl
          have KF : Hid (RowBlk (w7.alloc (.cells #[.int .u16 0, .int .u32 0, .int .u64 0] 26)) w7.heap.size (0, 0, 0)) := RowBlk.new w7 (0, 0, 0)
          generalize w7.alloc (.cells #[.int .u16 0, .int .u32 0, .int .u64 0] 26) = w8 at *
          obtain ⟨gf, hgf⟩ : ∃ g, w7.heap.size = g := ⟨_, rfl⟩
          rw [hgf] at KF ⊢
          clear hgf
          obtain ⟨pKR, qKR, rKR⟩ := KR.out.cells
          obtain ⟨pKX, qKX, rKX⟩ := KX.out.cells
          obtain ⟨pKN, qKN, rKN⟩ := KN.out.cells
          obtain ⟨pKO, qKO, rKO⟩ := KO.out.cells
          obtain ⟨pKF, qKF, rKF⟩ := KF.out.cells
          go_wp2_with fail
          have hc := awake_any w8 (HT.out.next B.out)
          refine hc.mono ?_
          clear hc
          clear pKR qKR rKR pKX qKX rKX pKN qKN rKN pKO qKO rKO pKF qKF rKF
          rintro e w9 ⟨rfl, b5⟩
          replace KR := Lib.hid (KR.out.next b5)
          replace KX := Lib.hid (KX.out.next b5)
          replace KN := Lib.hid (KN.out.next b5)
          replace KO := Lib.hid (KO.out.next b5)
          replace KF := Lib.hid (KF.out.next b5)
          replace B := Lib.hid (thn B.out b5)
          clear b5
          go_wp2
          go_ret
          exact ⟨rfl, B.out⟩
end Go.Proofs.YtkdlgejkgcojkaaDoor
