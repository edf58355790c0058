/- Layer 8: SeenWindow. -/
import Derived.Test.YtkdlgejkgcojkaaDoorQw
namespace Go.Proofs.YtkdlgejkgcojkaaDoor
open Go.RowKit
set_option linter.unusedVariables false
theorem win_any (v : Int) (w : World) (h : 0 ≤ v ∧ v ≤ 255) : Calls Tryd.prog 19 #[.int .u8 v] w fun e w' => e = .returned (.int .i64 (1 + v % 64)) ∧ Below w.heap.size w w' := by
  obtain ⟨h0, h1⟩ := h
  obtain ⟨m, hm⟩ : ∃ m, Int.tmod v 64 = m := ⟨_, rfl⟩
  have e : v % 64 = m := by rw [← hm, Int.tmod_eq_emod_of_nonneg h0]
  have m0 : 0 ≤ m := by omega
  have m1 : m ≤ 63 := by omega
  rw [e]
  clear e
  go_enter Tryd.func19, Tryd.ntmps19
  go_wp2
  go_ret
  exact ⟨rfl, Below.refl _ _⟩
theorem win_fit {v : Int} (h : 0 ≤ v ∧ v ≤ 255) : 1 ≤ 1 + v % 64 ∧ 1 + v % 64 ≤ 64 := by omega
theorem right_not {r : Row3} {o : Int} (h : ¬ (1 ≤ o ∧ o ≤ 64)) : rightI r o = false := by
  unfold rightI; rw [decide_eq_false h]; rfl
theorem may_of {r : Row3} {n wd : Int} {h m : Bool} (h0 : seenI r n = h) (hw : 1 ≤ wd ∧ wd ≤ 64) (hi : 1 ≤ r.1) (hm : (decide (1 ≤ n ∧ n ≤ r.2.1 + wd) && !h) = m) : mayI r (0, r.1, n) wd = m := by
  rw [← hm]
  unfold mayI
  simp only
  rw [ofI_same rfl, h0]
  congr 1
  rw [decide_eq_decide]
  omega
theorem has_of_ {r : Row3} {n : Int} {h : Bool} (h0 : seenI r n = h) (hi : 1 ≤ r.1) : hasI r (0, r.1, n) = h := by
  unfold hasI
  rw [decide_eq_true ⟨hi, rfl⟩, h0]; rfl
set_option maxRecDepth 100000 in
set_option maxHeartbeats 20000000 in
theorem window_walk (r : Row3) (v n o : Int) (w : World) (hr : rowR r) (hv : 0 ≤ v ∧ v ≤ 255) (hn : 0 ≤ n ∧ n ≤ 4294967295) (hT : Tab w) :
    Calls Tryd.prog 6 #[(.agg #[.int .u16 r.1, .int .u32 r.2.1, .int .u64 r.2.2]), .int .u8 v, .int .u32 n, .int .i64 o] w fun e w' => e = .returned (.bool true) ∧ Below w.heap.size w w' := by
  have HT := Lib.hid hT
  have HR := Lib.hid hr
  have HV := Lib.hid hv
  obtain ⟨wd, HW⟩ : ∃ wd, Hid (1 + v % 64 = wd) := ⟨_, rfl⟩
  obtain ⟨f0, f1⟩ : 1 ≤ wd ∧ wd ≤ 64 := by rw [← HW.out]; exact win_fit hv
  obtain ⟨⟨i0, i1⟩, ⟨p0, p1⟩, b0, b1⟩ := hr
  obtain ⟨n0, n1⟩ := hn
  have HX : Hid (idR (0, r.1, n)) := ⟨(show (0 : Int) ≤ 0 ∧ (0 : Int) ≤ 255 by decide), ⟨i0, i1⟩, n0, n1⟩
  have HX0 : Hid (idR (0, r.1, 0)) := ⟨(show (0 : Int) ≤ 0 ∧ (0 : Int) ≤ 255 by decide), ⟨i0, i1⟩, (show (0 : Int) ≤ 0 ∧ (0 : Int) ≤ 4294967295 by decide)⟩
  have B := Lib.hid (below_lit w (.cells #[.int .u16 r.1, .int .u32 r.2.1, .int .u64 r.2.2] 26))
  have KR := Lib.hid (RowBlk.new w r)
  clear hT hv
  have ntt : ∀ w', (binOp .neq 4 (.bool true) (.bool true)).run Tryd.prog w' = .ok (.bool false) w' := fun w' => (neq_bool true true w').trans (by simp)
  have nff : ∀ w', (binOp .neq 4 (.bool false) (.bool false)).run Tryd.prog w' = .ok (.bool false) w' := fun w' => (neq_bool false false w').trans (by simp)
  cases hq : rightI r wd with
  | false =>
    have HQ := Lib.hid hq
    clear hq
    go_enter Tryd.func6, Tryd.ntmps6
    go_upto_region 1 with fail
    generalize w.alloc (.cells #[.int .u16 r.1, .int .u32 r.2.1, .int .u64 r.2.2] 26) = w1 at *
    obtain ⟨gr, hgr⟩ : ∃ g, w.heap.size = g := ⟨_, rfl⟩
    rw [hgr] at KR ⊢
    clear hgr
    go_wp2_with fail
    have hc := win_any v w1 HV.out
    rw [HW.out] at hc
    refine hc.mono ?_
    clear hc
    rintro e w2 ⟨rfl, b5⟩
    replace KR := Lib.hid (KR.out.next b5)
    replace B := Lib.hid (thn B.out b5)
    clear b5
    obtain ⟨pKR, qKR, rKR⟩ := KR.out.cells
    go_wp2_with fail
    have hc := sright_any r wd w2 HR.out
    rw [HQ.out] at hc
    refine hc.mono ?_
    clear hc
    clear pKR qKR rKR
    rintro e w3 ⟨rfl, b5⟩
    replace KR := Lib.hid (KR.out.next b5)
    replace B := Lib.hid (thn B.out b5)
    clear b5
    go_wp2_with fail
    have hc := awake_any w3 (HT.out.next B.out)
    refine hc.mono ?_
    clear hc
    rintro e w4 ⟨rfl, b5⟩
    replace KR := Lib.hid (KR.out.next b5)
    replace B := Lib.hid (thn B.out b5)
    clear b5
    go_wp2
    go_ret
    exact ⟨rfl, B.out⟩
  | true =>
    have HQ := Lib.hid hq
    clear hq
    by_cases hz : r.1 = 0
    · have hz' : (r.1 == 0) = true := by simpa using hz
      clear hz
      go_enter Tryd.func6, Tryd.ntmps6
      go_upto_region 1 with fail
      generalize w.alloc (.cells #[.int .u16 r.1, .int .u32 r.2.1, .int .u64 r.2.2] 26) = w1 at *
      obtain ⟨gr, hgr⟩ : ∃ g, w.heap.size = g := ⟨_, rfl⟩
      rw [hgr] at KR ⊢
      clear hgr
      go_wp2_with fail
      have hc := win_any v w1 HV.out
      rw [HW.out] at hc
      refine hc.mono ?_
      clear hc
      rintro e w2 ⟨rfl, b5⟩
      replace KR := Lib.hid (KR.out.next b5)
      replace B := Lib.hid (thn B.out b5)
      clear b5
      obtain ⟨pKR, qKR, rKR⟩ := KR.out.cells
      go_wp2_with fail
      have hc := sright_any r wd w2 HR.out
      rw [HQ.out] at hc
      refine hc.mono ?_
      clear hc
      clear pKR qKR rKR
      rintro e w3 ⟨rfl, b5⟩
      replace KR := Lib.hid (KR.out.next b5)
      replace B := Lib.hid (thn B.out b5)
      clear b5
      obtain ⟨pKR, qKR, rKR⟩ := KR.out.cells
      go_wp2_with fail
      have hc := awake_any w3 (HT.out.next B.out)
      refine hc.mono ?_
      clear hc
      clear pKR qKR rKR
      rintro e w4 ⟨rfl, b5⟩
      replace KR := Lib.hid (KR.out.next b5)
      replace B := Lib.hid (thn B.out b5)
      clear b5
      go_wp2
      go_ret
      exact ⟨rfl, B.out⟩
    · have hz' : (r.1 == 0) = false := by simpa using hz
      have hi : 1 ≤ r.1 := by omega
      have HZ : Hid (hasI r (0, r.1, 0) = false) := has_of_ (seenI_zero r) hi
      obtain ⟨fr, hfr⟩ : ∃ fr, n - r.2.1 = fr := ⟨_, rfl⟩
      have fr0 : -4294967295 ≤ fr := by omega
      have fr1 : fr ≤ 4294967295 := by omega
      have hw0 : 1 ≤ wd ∧ wd ≤ 64 := ⟨f0, f1⟩
      have HFW := Lib.hid hw0
      clear hz hw0
      by_cases hn : 1 ≤ n
      rotate_left
      · have hs : seenI r n = false := by rw [show n = 0 by omega]; exact seenI_zero r
        have HM : Hid (mayI r (0, r.1, n) wd = false) := may_of hs HFW.out hi (by first | (simp; done) | (simp; omega))
        have HH : Hid (hasI r (0, r.1, n) = false) := has_of_ hs hi
        clear hs
        have c1 : n ≤ 0 := by omega
        have c2 : fr ≤ 0 := by omega
        clear hn
        by_cases ho0 : o < 1
        · have HMO : Hid (mayI r (0, r.1, n) o = false) := may_zero (by omega)
          have HRO : Hid (rightI r o = false) := right_not (by omega)
          go_enter Tryd.func6, Tryd.ntmps6
          go_upto_region 1 with fail
          generalize w.alloc (.cells #[.int .u16 r.1, .int .u32 r.2.1, .int .u64 r.2.2] 26) = w1 at *
          obtain ⟨gr, hgr⟩ : ∃ g, w.heap.size = g := ⟨_, rfl⟩
          rw [hgr] at KR ⊢
          clear hgr
          go_wp2_with fail
          have hc := win_any v w1 HV.out
          rw [HW.out] at hc
          refine hc.mono ?_
          clear hc
          rintro e w2 ⟨rfl, b5⟩
          replace KR := Lib.hid (KR.out.next b5)
          replace B := Lib.hid (thn B.out b5)
          clear b5
          obtain ⟨pKR, qKR, rKR⟩ := KR.out.cells
          go_wp2_with fail
          have hc := sright_any r wd w2 HR.out
          rw [HQ.out] at hc
          refine hc.mono ?_
          clear hc
          clear pKR qKR rKR
          rintro e w3 ⟨rfl, b5⟩
          replace KR := Lib.hid (KR.out.next b5)
          replace B := Lib.hid (thn B.out b5)
          clear b5
          obtain ⟨pKR, qKR, rKR⟩ := KR.out.cells
          go_upto_region 5 with fail
          clear pKR qKR rKR
          have hbl := below_lit w3 (.cells #[.int .u8 0, .int .u16 r.1, .int .u32 n] 28)
          replace KR := Lib.hid (KR.out.next hbl)
          replace B := Lib.hid (thn B.out hbl)
          clear hbl
          have KX : Hid (IdBlk (w3.alloc (.cells #[.int .u8 0, .int .u16 r.1, .int .u32 n] 28)) w3.heap.size (0, r.1, n)) := IdBlk.new w3 (0, r.1, n)
          generalize w3.alloc (.cells #[.int .u8 0, .int .u16 r.1, .int .u32 n] 28) = w4 at *
          obtain ⟨gx, hgx⟩ : ∃ g, w3.heap.size = g := ⟨_, rfl⟩
          rw [hgx] at KX ⊢
          clear hgx
          obtain ⟨pKR, qKR, rKR⟩ := KR.out.cells
          obtain ⟨pKX, qKX, rKX⟩ := KX.out.cells
          go_wp2_with fail
          have hc := may_any r (0, r.1, n) wd w4 HR.out HX.out
          rw [HM.out] at hc
          refine hc.mono ?_
          clear hc
          clear pKR qKR rKR pKX qKX rKX
          rintro e w5 ⟨rfl, b5⟩
          replace KR := Lib.hid (KR.out.next b5)
          replace KX := Lib.hid (KX.out.next b5)
          replace B := Lib.hid (thn B.out b5)
          clear b5
          obtain ⟨pKR, qKR, rKR⟩ := KR.out.cells
          obtain ⟨pKX, qKX, rKX⟩ := KX.out.cells
          go_wp2_with fail
          have hc := shas_any r (0, r.1, 0) w5 HR.out HX0.out
          rw [HZ.out] at hc
          refine hc.mono ?_
          clear hc
          clear pKR qKR rKR pKX qKX rKX
          rintro e w6 ⟨rfl, b5⟩
          replace KR := Lib.hid (KR.out.next b5)
          replace KX := Lib.hid (KX.out.next b5)
          replace B := Lib.hid (thn B.out b5)
          clear b5
          obtain ⟨pKR, qKR, rKR⟩ := KR.out.cells
          obtain ⟨pKX, qKX, rKX⟩ := KX.out.cells
          go_wp2_with fail
          have hc := may_any r (0, r.1, n) o w6 HR.out HX.out
          rw [HMO.out] at hc
          refine hc.mono ?_
          clear hc
          clear pKR qKR rKR pKX qKX rKX
          rintro e w7 ⟨rfl, b5⟩
          replace KR := Lib.hid (KR.out.next b5)
          replace KX := Lib.hid (KX.out.next b5)
          replace B := Lib.hid (thn B.out b5)
          clear b5
          obtain ⟨pKR, qKR, rKR⟩ := KR.out.cells
          obtain ⟨pKX, qKX, rKX⟩ := KX.out.cells
          go_wp2_with fail
          have hc := sright_any r o w7 HR.out
          rw [HRO.out] at hc
          refine hc.mono ?_
          clear hc
          clear pKR qKR rKR pKX qKX rKX
          rintro e w8 ⟨rfl, b5⟩
          replace KR := Lib.hid (KR.out.next b5)
          replace KX := Lib.hid (KX.out.next b5)
          replace B := Lib.hid (thn B.out b5)
          clear b5
          obtain ⟨pKR, qKR, rKR⟩ := KR.out.cells
          obtain ⟨pKX, qKX, rKX⟩ := KX.out.cells
          go_wp2_with fail
          have hc := awake_any w8 (HT.out.next B.out)
          refine hc.mono ?_
          clear hc
          clear pKR qKR rKR pKX qKX rKX
          rintro e w9 ⟨rfl, b5⟩
          replace KR := Lib.hid (KR.out.next b5)
          replace KX := Lib.hid (KX.out.next b5)
          replace B := Lib.hid (thn B.out b5)
          clear b5
          go_wp2
          go_ret
          exact ⟨rfl, B.out⟩
        · by_cases ho1 : 64 < o
          · have HMO : Hid (mayI r (0, r.1, n) o = false) := may_zero (by omega)
            have HRO : Hid (rightI r o = false) := right_not (by omega)
            go_enter Tryd.func6, Tryd.ntmps6
            go_upto_region 1 with fail
            generalize w.alloc (.cells #[.int .u16 r.1, .int .u32 r.2.1, .int .u64 r.2.2] 26) = w1 at *
            obtain ⟨gr, hgr⟩ : ∃ g, w.heap.size = g := ⟨_, rfl⟩
            rw [hgr] at KR ⊢
            clear hgr
            go_wp2_with fail
            have hc := win_any v w1 HV.out
            rw [HW.out] at hc
            refine hc.mono ?_
            clear hc
            rintro e w2 ⟨rfl, b5⟩
            replace KR := Lib.hid (KR.out.next b5)
            replace B := Lib.hid (thn B.out b5)
            clear b5
            obtain ⟨pKR, qKR, rKR⟩ := KR.out.cells
            go_wp2_with fail
            have hc := sright_any r wd w2 HR.out
            rw [HQ.out] at hc
            refine hc.mono ?_
            clear hc
            clear pKR qKR rKR
            rintro e w3 ⟨rfl, b5⟩
            replace KR := Lib.hid (KR.out.next b5)
            replace B := Lib.hid (thn B.out b5)
            clear b5
            obtain ⟨pKR, qKR, rKR⟩ := KR.out.cells
            go_upto_region 5 with fail
            clear pKR qKR rKR
            have hbl := below_lit w3 (.cells #[.int .u8 0, .int .u16 r.1, .int .u32 n] 28)
            replace KR := Lib.hid (KR.out.next hbl)
            replace B := Lib.hid (thn B.out hbl)
            clear hbl
            have KX : Hid (IdBlk (w3.alloc (.cells #[.int .u8 0, .int .u16 r.1, .int .u32 n] 28)) w3.heap.size (0, r.1, n)) := IdBlk.new w3 (0, r.1, n)
            generalize w3.alloc (.cells #[.int .u8 0, .int .u16 r.1, .int .u32 n] 28) = w4 at *
            obtain ⟨gx, hgx⟩ : ∃ g, w3.heap.size = g := ⟨_, rfl⟩
            rw [hgx] at KX ⊢
            clear hgx
            obtain ⟨pKR, qKR, rKR⟩ := KR.out.cells
            obtain ⟨pKX, qKX, rKX⟩ := KX.out.cells
            go_wp2_with fail
            have hc := may_any r (0, r.1, n) wd w4 HR.out HX.out
            rw [HM.out] at hc
            refine hc.mono ?_
            clear hc
            clear pKR qKR rKR pKX qKX rKX
            rintro e w5 ⟨rfl, b5⟩
            replace KR := Lib.hid (KR.out.next b5)
            replace KX := Lib.hid (KX.out.next b5)
            replace B := Lib.hid (thn B.out b5)
            clear b5
            obtain ⟨pKR, qKR, rKR⟩ := KR.out.cells
            obtain ⟨pKX, qKX, rKX⟩ := KX.out.cells
            go_wp2_with fail
            have hc := shas_any r (0, r.1, 0) w5 HR.out HX0.out
            rw [HZ.out] at hc
            refine hc.mono ?_
            clear hc
            clear pKR qKR rKR pKX qKX rKX
            rintro e w6 ⟨rfl, b5⟩
            replace KR := Lib.hid (KR.out.next b5)
            replace KX := Lib.hid (KX.out.next b5)
            replace B := Lib.hid (thn B.out b5)
            clear b5
            obtain ⟨pKR, qKR, rKR⟩ := KR.out.cells
            obtain ⟨pKX, qKX, rKX⟩ := KX.out.cells
            go_wp2_with fail
            have hc := may_any r (0, r.1, n) o w6 HR.out HX.out
            rw [HMO.out] at hc
            refine hc.mono ?_
            clear hc
            clear pKR qKR rKR pKX qKX rKX
            rintro e w7 ⟨rfl, b5⟩
            replace KR := Lib.hid (KR.out.next b5)
            replace KX := Lib.hid (KX.out.next b5)
            replace B := Lib.hid (thn B.out b5)
            clear b5
            obtain ⟨pKR, qKR, rKR⟩ := KR.out.cells
            obtain ⟨pKX, qKX, rKX⟩ := KX.out.cells
            go_wp2_with fail
            have hc := sright_any r o w7 HR.out
            rw [HRO.out] at hc
            refine hc.mono ?_
            clear hc
            clear pKR qKR rKR pKX qKX rKX
            rintro e w8 ⟨rfl, b5⟩
            replace KR := Lib.hid (KR.out.next b5)
            replace KX := Lib.hid (KX.out.next b5)
            replace B := Lib.hid (thn B.out b5)
            clear b5
            obtain ⟨pKR, qKR, rKR⟩ := KR.out.cells
            obtain ⟨pKX, qKX, rKX⟩ := KX.out.cells
            go_wp2_with fail
            have hc := awake_any w8 (HT.out.next B.out)
            refine hc.mono ?_
            clear hc
            clear pKR qKR rKR pKX qKX rKX
            rintro e w9 ⟨rfl, b5⟩
            replace KR := Lib.hid (KR.out.next b5)
            replace KX := Lib.hid (KX.out.next b5)
            replace B := Lib.hid (thn B.out b5)
            clear b5
            go_wp2
            go_ret
            exact ⟨rfl, B.out⟩
          · skip
            go_enter Tryd.func6, Tryd.ntmps6
            go_upto_region 1 with fail
            generalize w.alloc (.cells #[.int .u16 r.1, .int .u32 r.2.1, .int .u64 r.2.2] 26) = w1 at *
            obtain ⟨gr, hgr⟩ : ∃ g, w.heap.size = g := ⟨_, rfl⟩
            rw [hgr] at KR ⊢
            clear hgr
            go_wp2_with fail
            have hc := win_any v w1 HV.out
            rw [HW.out] at hc
            refine hc.mono ?_
            clear hc
            rintro e w2 ⟨rfl, b5⟩
            replace KR := Lib.hid (KR.out.next b5)
            replace B := Lib.hid (thn B.out b5)
            clear b5
            obtain ⟨pKR, qKR, rKR⟩ := KR.out.cells
            go_wp2_with fail
            have hc := sright_any r wd w2 HR.out
            rw [HQ.out] at hc
            refine hc.mono ?_
            clear hc
            clear pKR qKR rKR
            rintro e w3 ⟨rfl, b5⟩
            replace KR := Lib.hid (KR.out.next b5)
            replace B := Lib.hid (thn B.out b5)
            clear b5
            obtain ⟨pKR, qKR, rKR⟩ := KR.out.cells
            go_upto_region 5 with fail
            clear pKR qKR rKR
            have hbl := below_lit w3 (.cells #[.int .u8 0, .int .u16 r.1, .int .u32 n] 28)
            replace KR := Lib.hid (KR.out.next hbl)
            replace B := Lib.hid (thn B.out hbl)
            clear hbl
            have KX : Hid (IdBlk (w3.alloc (.cells #[.int .u8 0, .int .u16 r.1, .int .u32 n] 28)) w3.heap.size (0, r.1, n)) := IdBlk.new w3 (0, r.1, n)
            generalize w3.alloc (.cells #[.int .u8 0, .int .u16 r.1, .int .u32 n] 28) = w4 at *
            obtain ⟨gx, hgx⟩ : ∃ g, w3.heap.size = g := ⟨_, rfl⟩
            rw [hgx] at KX ⊢
            clear hgx
            obtain ⟨pKR, qKR, rKR⟩ := KR.out.cells
            obtain ⟨pKX, qKX, rKX⟩ := KX.out.cells
            go_wp2_with fail
            have hc := may_any r (0, r.1, n) wd w4 HR.out HX.out
            rw [HM.out] at hc
            refine hc.mono ?_
            clear hc
            clear pKR qKR rKR pKX qKX rKX
            rintro e w5 ⟨rfl, b5⟩
            replace KR := Lib.hid (KR.out.next b5)
            replace KX := Lib.hid (KX.out.next b5)
            replace B := Lib.hid (thn B.out b5)
            clear b5
            obtain ⟨pKR, qKR, rKR⟩ := KR.out.cells
            obtain ⟨pKX, qKX, rKX⟩ := KX.out.cells
            go_wp2_with fail
            have hc := shas_any r (0, r.1, 0) w5 HR.out HX0.out
            rw [HZ.out] at hc
            refine hc.mono ?_
            clear hc
            clear pKR qKR rKR pKX qKX rKX
            rintro e w6 ⟨rfl, b5⟩
            replace KR := Lib.hid (KR.out.next b5)
            replace KX := Lib.hid (KX.out.next b5)
            replace B := Lib.hid (thn B.out b5)
            clear b5
            obtain ⟨pKR, qKR, rKR⟩ := KR.out.cells
            obtain ⟨pKX, qKX, rKX⟩ := KX.out.cells
            go_wp2_with fail
            have hc := awake_any w6 (HT.out.next B.out)
            refine hc.mono ?_
            clear hc
            clear pKR qKR rKR pKX qKX rKX
            rintro e w7 ⟨rfl, b5⟩
            replace KR := Lib.hid (KR.out.next b5)
            replace KX := Lib.hid (KX.out.next b5)
            replace B := Lib.hid (thn B.out b5)
            clear b5
            go_wp2
            go_ret
            exact ⟨rfl, B.out⟩
      by_cases h1 : fr ≤ 0
      · have hs : seenI r n = true := seenI_low hn (by omega)
        have HM : Hid (mayI r (0, r.1, n) wd = false) := may_of hs HFW.out hi (by first | (simp; done) | (simp; omega))
        have HH : Hid (hasI r (0, r.1, n) = true) := has_of_ hs hi
        clear hs
        by_cases ho0 : o < 1
        · have HMO : Hid (mayI r (0, r.1, n) o = false) := may_zero (by omega)
          have HRO : Hid (rightI r o = false) := right_not (by omega)
          go_enter Tryd.func6, Tryd.ntmps6
          go_upto_region 1 with fail
          generalize w.alloc (.cells #[.int .u16 r.1, .int .u32 r.2.1, .int .u64 r.2.2] 26) = w1 at *
          obtain ⟨gr, hgr⟩ : ∃ g, w.heap.size = g := ⟨_, rfl⟩
          rw [hgr] at KR ⊢
          clear hgr
          go_wp2_with fail
          have hc := win_any v w1 HV.out
          rw [HW.out] at hc
          refine hc.mono ?_
          clear hc
          rintro e w2 ⟨rfl, b5⟩
          replace KR := Lib.hid (KR.out.next b5)
          replace B := Lib.hid (thn B.out b5)
          clear b5
          obtain ⟨pKR, qKR, rKR⟩ := KR.out.cells
          go_wp2_with fail
          have hc := sright_any r wd w2 HR.out
          rw [HQ.out] at hc
          refine hc.mono ?_
          clear hc
          clear pKR qKR rKR
          rintro e w3 ⟨rfl, b5⟩
          replace KR := Lib.hid (KR.out.next b5)
          replace B := Lib.hid (thn B.out b5)
          clear b5
          obtain ⟨pKR, qKR, rKR⟩ := KR.out.cells
          go_upto_region 5 with fail
          clear pKR qKR rKR
          have hbl := below_lit w3 (.cells #[.int .u8 0, .int .u16 r.1, .int .u32 n] 28)
          replace KR := Lib.hid (KR.out.next hbl)
          replace B := Lib.hid (thn B.out hbl)
          clear hbl
          have KX : Hid (IdBlk (w3.alloc (.cells #[.int .u8 0, .int .u16 r.1, .int .u32 n] 28)) w3.heap.size (0, r.1, n)) := IdBlk.new w3 (0, r.1, n)
          generalize w3.alloc (.cells #[.int .u8 0, .int .u16 r.1, .int .u32 n] 28) = w4 at *
          obtain ⟨gx, hgx⟩ : ∃ g, w3.heap.size = g := ⟨_, rfl⟩
          rw [hgx] at KX ⊢
          clear hgx
          obtain ⟨pKR, qKR, rKR⟩ := KR.out.cells
          obtain ⟨pKX, qKX, rKX⟩ := KX.out.cells
          go_wp2_with fail
          have hc := may_any r (0, r.1, n) wd w4 HR.out HX.out
          rw [HM.out] at hc
          refine hc.mono ?_
          clear hc
          clear pKR qKR rKR pKX qKX rKX
          rintro e w5 ⟨rfl, b5⟩
          replace KR := Lib.hid (KR.out.next b5)
          replace KX := Lib.hid (KX.out.next b5)
          replace B := Lib.hid (thn B.out b5)
          clear b5
          obtain ⟨pKR, qKR, rKR⟩ := KR.out.cells
          obtain ⟨pKX, qKX, rKX⟩ := KX.out.cells
          go_wp2_with fail
          have hc := shas_any r (0, r.1, n) w5 HR.out HX.out
          rw [HH.out] at hc
          refine hc.mono ?_
          clear hc
          clear pKR qKR rKR pKX qKX rKX
          rintro e w6 ⟨rfl, b5⟩
          replace KR := Lib.hid (KR.out.next b5)
          replace KX := Lib.hid (KX.out.next b5)
          replace B := Lib.hid (thn B.out b5)
          clear b5
          obtain ⟨pKR, qKR, rKR⟩ := KR.out.cells
          obtain ⟨pKX, qKX, rKX⟩ := KX.out.cells
          go_wp2_with fail
          have hc := shas_any r (0, r.1, 0) w6 HR.out HX0.out
          rw [HZ.out] at hc
          refine hc.mono ?_
          clear hc
          clear pKR qKR rKR pKX qKX rKX
          rintro e w7 ⟨rfl, b5⟩
          replace KR := Lib.hid (KR.out.next b5)
          replace KX := Lib.hid (KX.out.next b5)
          replace B := Lib.hid (thn B.out b5)
          clear b5
          obtain ⟨pKR, qKR, rKR⟩ := KR.out.cells
          obtain ⟨pKX, qKX, rKX⟩ := KX.out.cells
          go_wp2_with fail
          have hc := may_any r (0, r.1, n) o w7 HR.out HX.out
          rw [HMO.out] at hc
          refine hc.mono ?_
          clear hc
          clear pKR qKR rKR pKX qKX rKX
          rintro e w8 ⟨rfl, b5⟩
          replace KR := Lib.hid (KR.out.next b5)
          replace KX := Lib.hid (KX.out.next b5)
          replace B := Lib.hid (thn B.out b5)
          clear b5
          obtain ⟨pKR, qKR, rKR⟩ := KR.out.cells
          obtain ⟨pKX, qKX, rKX⟩ := KX.out.cells
          go_wp2_with fail
          have hc := sright_any r o w8 HR.out
          rw [HRO.out] at hc
          refine hc.mono ?_
          clear hc
          clear pKR qKR rKR pKX qKX rKX
          rintro e w9 ⟨rfl, b5⟩
          replace KR := Lib.hid (KR.out.next b5)
          replace KX := Lib.hid (KX.out.next b5)
          replace B := Lib.hid (thn B.out b5)
          clear b5
          obtain ⟨pKR, qKR, rKR⟩ := KR.out.cells
          obtain ⟨pKX, qKX, rKX⟩ := KX.out.cells
          go_wp2_with fail
          have hc := awake_any w9 (HT.out.next B.out)
          refine hc.mono ?_
          clear hc
          clear pKR qKR rKR pKX qKX rKX
          rintro e w10 ⟨rfl, b5⟩
          replace KR := Lib.hid (KR.out.next b5)
          replace KX := Lib.hid (KX.out.next b5)
          replace B := Lib.hid (thn B.out b5)
          clear b5
          go_wp2
          go_ret
          exact ⟨rfl, B.out⟩
        · by_cases ho1 : 64 < o
          · have HMO : Hid (mayI r (0, r.1, n) o = false) := may_zero (by omega)
            have HRO : Hid (rightI r o = false) := right_not (by omega)
            go_enter Tryd.func6, Tryd.ntmps6
            go_upto_region 1 with fail
            generalize w.alloc (.cells #[.int .u16 r.1, .int .u32 r.2.1, .int .u64 r.2.2] 26) = w1 at *
            obtain ⟨gr, hgr⟩ : ∃ g, w.heap.size = g := ⟨_, rfl⟩
            rw [hgr] at KR ⊢
            clear hgr
            go_wp2_with fail
            have hc := win_any v w1 HV.out
            rw [HW.out] at hc
            refine hc.mono ?_
            clear hc
            rintro e w2 ⟨rfl, b5⟩
            replace KR := Lib.hid (KR.out.next b5)
            replace B := Lib.hid (thn B.out b5)
            clear b5
            obtain ⟨pKR, qKR, rKR⟩ := KR.out.cells
            go_wp2_with fail
            have hc := sright_any r wd w2 HR.out
            rw [HQ.out] at hc
            refine hc.mono ?_
            clear hc
            clear pKR qKR rKR
            rintro e w3 ⟨rfl, b5⟩
            replace KR := Lib.hid (KR.out.next b5)
            replace B := Lib.hid (thn B.out b5)
            clear b5
            obtain ⟨pKR, qKR, rKR⟩ := KR.out.cells
            go_upto_region 5 with fail
            clear pKR qKR rKR
            have hbl := below_lit w3 (.cells #[.int .u8 0, .int .u16 r.1, .int .u32 n] 28)
            replace KR := Lib.hid (KR.out.next hbl)
            replace B := Lib.hid (thn B.out hbl)
            clear hbl
            have KX : Hid (IdBlk (w3.alloc (.cells #[.int .u8 0, .int .u16 r.1, .int .u32 n] 28)) w3.heap.size (0, r.1, n)) := IdBlk.new w3 (0, r.1, n)
            generalize w3.alloc (.cells #[.int .u8 0, .int .u16 r.1, .int .u32 n] 28) = w4 at *
            obtain ⟨gx, hgx⟩ : ∃ g, w3.heap.size = g := ⟨_, rfl⟩
            rw [hgx] at KX ⊢
            clear hgx
            obtain ⟨pKR, qKR, rKR⟩ := KR.out.cells
            obtain ⟨pKX, qKX, rKX⟩ := KX.out.cells
            go_wp2_with fail
            have hc := may_any r (0, r.1, n) wd w4 HR.out HX.out
            rw [HM.out] at hc
            refine hc.mono ?_
            clear hc
            clear pKR qKR rKR pKX qKX rKX
            rintro e w5 ⟨rfl, b5⟩
            replace KR := Lib.hid (KR.out.next b5)
            replace KX := Lib.hid (KX.out.next b5)
            replace B := Lib.hid (thn B.out b5)
            clear b5
            obtain ⟨pKR, qKR, rKR⟩ := KR.out.cells
            obtain ⟨pKX, qKX, rKX⟩ := KX.out.cells
            go_wp2_with fail
            have hc := shas_any r (0, r.1, n) w5 HR.out HX.out
            rw [HH.out] at hc
            refine hc.mono ?_
            clear hc
            clear pKR qKR rKR pKX qKX rKX
            rintro e w6 ⟨rfl, b5⟩
            replace KR := Lib.hid (KR.out.next b5)
            replace KX := Lib.hid (KX.out.next b5)
            replace B := Lib.hid (thn B.out b5)
            clear b5
            obtain ⟨pKR, qKR, rKR⟩ := KR.out.cells
            obtain ⟨pKX, qKX, rKX⟩ := KX.out.cells
            go_wp2_with fail
            have hc := shas_any r (0, r.1, 0) w6 HR.out HX0.out
            rw [HZ.out] at hc
            refine hc.mono ?_
            clear hc
            clear pKR qKR rKR pKX qKX rKX
            rintro e w7 ⟨rfl, b5⟩
            replace KR := Lib.hid (KR.out.next b5)
            replace KX := Lib.hid (KX.out.next b5)
            replace B := Lib.hid (thn B.out b5)
            clear b5
            obtain ⟨pKR, qKR, rKR⟩ := KR.out.cells
            obtain ⟨pKX, qKX, rKX⟩ := KX.out.cells
            go_wp2_with fail
            have hc := may_any r (0, r.1, n) o w7 HR.out HX.out
            rw [HMO.out] at hc
            refine hc.mono ?_
            clear hc
            clear pKR qKR rKR pKX qKX rKX
            rintro e w8 ⟨rfl, b5⟩
            replace KR := Lib.hid (KR.out.next b5)
            replace KX := Lib.hid (KX.out.next b5)
            replace B := Lib.hid (thn B.out b5)
            clear b5
            obtain ⟨pKR, qKR, rKR⟩ := KR.out.cells
            obtain ⟨pKX, qKX, rKX⟩ := KX.out.cells
            go_wp2_with fail
            have hc := sright_any r o w8 HR.out
            rw [HRO.out] at hc
            refine hc.mono ?_
            clear hc
            clear pKR qKR rKR pKX qKX rKX
            rintro e w9 ⟨rfl, b5⟩
            replace KR := Lib.hid (KR.out.next b5)
            replace KX := Lib.hid (KX.out.next b5)
            replace B := Lib.hid (thn B.out b5)
            clear b5
            obtain ⟨pKR, qKR, rKR⟩ := KR.out.cells
            obtain ⟨pKX, qKX, rKX⟩ := KX.out.cells
            go_wp2_with fail
            have hc := awake_any w9 (HT.out.next B.out)
            refine hc.mono ?_
            clear hc
            clear pKR qKR rKR pKX qKX rKX
            rintro e w10 ⟨rfl, b5⟩
            replace KR := Lib.hid (KR.out.next b5)
            replace KX := Lib.hid (KX.out.next b5)
            replace B := Lib.hid (thn B.out b5)
            clear b5
            go_wp2
            go_ret
            exact ⟨rfl, B.out⟩
          · skip
            go_enter Tryd.func6, Tryd.ntmps6
            go_upto_region 1 with fail
            generalize w.alloc (.cells #[.int .u16 r.1, .int .u32 r.2.1, .int .u64 r.2.2] 26) = w1 at *
            obtain ⟨gr, hgr⟩ : ∃ g, w.heap.size = g := ⟨_, rfl⟩
            rw [hgr] at KR ⊢
            clear hgr
            go_wp2_with fail
            have hc := win_any v w1 HV.out
            rw [HW.out] at hc
            refine hc.mono ?_
            clear hc
            rintro e w2 ⟨rfl, b5⟩
            replace KR := Lib.hid (KR.out.next b5)
            replace B := Lib.hid (thn B.out b5)
            clear b5
            obtain ⟨pKR, qKR, rKR⟩ := KR.out.cells
            go_wp2_with fail
            have hc := sright_any r wd w2 HR.out
            rw [HQ.out] at hc
            refine hc.mono ?_
            clear hc
            clear pKR qKR rKR
            rintro e w3 ⟨rfl, b5⟩
            replace KR := Lib.hid (KR.out.next b5)
            replace B := Lib.hid (thn B.out b5)
            clear b5
            obtain ⟨pKR, qKR, rKR⟩ := KR.out.cells
            go_upto_region 5 with fail
            clear pKR qKR rKR
            have hbl := below_lit w3 (.cells #[.int .u8 0, .int .u16 r.1, .int .u32 n] 28)
            replace KR := Lib.hid (KR.out.next hbl)
            replace B := Lib.hid (thn B.out hbl)
            clear hbl
            have KX : Hid (IdBlk (w3.alloc (.cells #[.int .u8 0, .int .u16 r.1, .int .u32 n] 28)) w3.heap.size (0, r.1, n)) := IdBlk.new w3 (0, r.1, n)
            generalize w3.alloc (.cells #[.int .u8 0, .int .u16 r.1, .int .u32 n] 28) = w4 at *
            obtain ⟨gx, hgx⟩ : ∃ g, w3.heap.size = g := ⟨_, rfl⟩
            rw [hgx] at KX ⊢
            clear hgx
            obtain ⟨pKR, qKR, rKR⟩ := KR.out.cells
            obtain ⟨pKX, qKX, rKX⟩ := KX.out.cells
            go_wp2_with fail
            have hc := may_any r (0, r.1, n) wd w4 HR.out HX.out
            rw [HM.out] at hc
            refine hc.mono ?_
            clear hc
            clear pKR qKR rKR pKX qKX rKX
            rintro e w5 ⟨rfl, b5⟩
            replace KR := Lib.hid (KR.out.next b5)
            replace KX := Lib.hid (KX.out.next b5)
            replace B := Lib.hid (thn B.out b5)
            clear b5
            obtain ⟨pKR, qKR, rKR⟩ := KR.out.cells
            obtain ⟨pKX, qKX, rKX⟩ := KX.out.cells
            go_wp2_with fail
            have hc := shas_any r (0, r.1, n) w5 HR.out HX.out
            rw [HH.out] at hc
            refine hc.mono ?_
            clear hc
            clear pKR qKR rKR pKX qKX rKX
            rintro e w6 ⟨rfl, b5⟩
            replace KR := Lib.hid (KR.out.next b5)
            replace KX := Lib.hid (KX.out.next b5)
            replace B := Lib.hid (thn B.out b5)
            clear b5
            obtain ⟨pKR, qKR, rKR⟩ := KR.out.cells
            obtain ⟨pKX, qKX, rKX⟩ := KX.out.cells
            go_wp2_with fail
            have hc := shas_any r (0, r.1, 0) w6 HR.out HX0.out
            rw [HZ.out] at hc
            refine hc.mono ?_
            clear hc
            clear pKR qKR rKR pKX qKX rKX
            rintro e w7 ⟨rfl, b5⟩
            replace KR := Lib.hid (KR.out.next b5)
            replace KX := Lib.hid (KX.out.next b5)
            replace B := Lib.hid (thn B.out b5)
            clear b5
            obtain ⟨pKR, qKR, rKR⟩ := KR.out.cells
            obtain ⟨pKX, qKX, rKX⟩ := KX.out.cells
            go_wp2_with fail
            have hc := awake_any w7 (HT.out.next B.out)
            refine hc.mono ?_
            clear hc
            clear pKR qKR rKR pKX qKX rKX
            rintro e w8 ⟨rfl, b5⟩
            replace KR := Lib.hid (KR.out.next b5)
            replace KX := Lib.hid (KX.out.next b5)
            replace B := Lib.hid (thn B.out b5)
            clear b5
            go_wp2
            go_ret
            exact ⟨rfl, B.out⟩
      replace h1 : 0 < fr := by omega
      by_cases h2 : fr ≤ wd
      rotate_left
      · replace h2 : wd < fr := by omega
        obtain ⟨h, hs⟩ : ∃ h, seenI r n = h := ⟨_, rfl⟩
        have HM : Hid (mayI r (0, r.1, n) wd = false) := may_of hs HFW.out hi (by first | (simp; done) | (simp; omega))
        clear hs
        by_cases ho0 : o < 1
        · have HMO : Hid (mayI r (0, r.1, n) o = false) := may_zero (by omega)
          have HRO : Hid (rightI r o = false) := right_not (by omega)
          go_enter Tryd.func6, Tryd.ntmps6
          go_upto_region 1 with fail
          generalize w.alloc (.cells #[.int .u16 r.1, .int .u32 r.2.1, .int .u64 r.2.2] 26) = w1 at *
          obtain ⟨gr, hgr⟩ : ∃ g, w.heap.size = g := ⟨_, rfl⟩
          rw [hgr] at KR ⊢
          clear hgr
          go_wp2_with fail
          have hc := win_any v w1 HV.out
          rw [HW.out] at hc
          refine hc.mono ?_
          clear hc
          rintro e w2 ⟨rfl, b5⟩
          replace KR := Lib.hid (KR.out.next b5)
          replace B := Lib.hid (thn B.out b5)
          clear b5
          obtain ⟨pKR, qKR, rKR⟩ := KR.out.cells
          go_wp2_with fail
          have hc := sright_any r wd w2 HR.out
          rw [HQ.out] at hc
          refine hc.mono ?_
          clear hc
          clear pKR qKR rKR
          rintro e w3 ⟨rfl, b5⟩
          replace KR := Lib.hid (KR.out.next b5)
          replace B := Lib.hid (thn B.out b5)
          clear b5
          obtain ⟨pKR, qKR, rKR⟩ := KR.out.cells
          go_upto_region 5 with fail
          clear pKR qKR rKR
          have hbl := below_lit w3 (.cells #[.int .u8 0, .int .u16 r.1, .int .u32 n] 28)
          replace KR := Lib.hid (KR.out.next hbl)
          replace B := Lib.hid (thn B.out hbl)
          clear hbl
          have KX : Hid (IdBlk (w3.alloc (.cells #[.int .u8 0, .int .u16 r.1, .int .u32 n] 28)) w3.heap.size (0, r.1, n)) := IdBlk.new w3 (0, r.1, n)
          generalize w3.alloc (.cells #[.int .u8 0, .int .u16 r.1, .int .u32 n] 28) = w4 at *
          obtain ⟨gx, hgx⟩ : ∃ g, w3.heap.size = g := ⟨_, rfl⟩
          rw [hgx] at KX ⊢
          clear hgx
          obtain ⟨pKR, qKR, rKR⟩ := KR.out.cells
          obtain ⟨pKX, qKX, rKX⟩ := KX.out.cells
          go_wp2_with fail
          have hc := may_any r (0, r.1, n) wd w4 HR.out HX.out
          rw [HM.out] at hc
          refine hc.mono ?_
          clear hc
          clear pKR qKR rKR pKX qKX rKX
          rintro e w5 ⟨rfl, b5⟩
          replace KR := Lib.hid (KR.out.next b5)
          replace KX := Lib.hid (KX.out.next b5)
          replace B := Lib.hid (thn B.out b5)
          clear b5
          obtain ⟨pKR, qKR, rKR⟩ := KR.out.cells
          obtain ⟨pKX, qKX, rKX⟩ := KX.out.cells
          go_wp2_with fail
          have hc := shas_any r (0, r.1, 0) w5 HR.out HX0.out
          rw [HZ.out] at hc
          refine hc.mono ?_
          clear hc
          clear pKR qKR rKR pKX qKX rKX
          rintro e w6 ⟨rfl, b5⟩
          replace KR := Lib.hid (KR.out.next b5)
          replace KX := Lib.hid (KX.out.next b5)
          replace B := Lib.hid (thn B.out b5)
          clear b5
          obtain ⟨pKR, qKR, rKR⟩ := KR.out.cells
          obtain ⟨pKX, qKX, rKX⟩ := KX.out.cells
          go_wp2_with fail
          have hc := may_any r (0, r.1, n) o w6 HR.out HX.out
          rw [HMO.out] at hc
          refine hc.mono ?_
          clear hc
          clear pKR qKR rKR pKX qKX rKX
          rintro e w7 ⟨rfl, b5⟩
          replace KR := Lib.hid (KR.out.next b5)
          replace KX := Lib.hid (KX.out.next b5)
          replace B := Lib.hid (thn B.out b5)
          clear b5
          obtain ⟨pKR, qKR, rKR⟩ := KR.out.cells
          obtain ⟨pKX, qKX, rKX⟩ := KX.out.cells
          go_wp2_with fail
          have hc := sright_any r o w7 HR.out
          rw [HRO.out] at hc
          refine hc.mono ?_
          clear hc
          clear pKR qKR rKR pKX qKX rKX
          rintro e w8 ⟨rfl, b5⟩
          replace KR := Lib.hid (KR.out.next b5)
          replace KX := Lib.hid (KX.out.next b5)
          replace B := Lib.hid (thn B.out b5)
          clear b5
          obtain ⟨pKR, qKR, rKR⟩ := KR.out.cells
          obtain ⟨pKX, qKX, rKX⟩ := KX.out.cells
          go_wp2_with fail
          have hc := awake_any w8 (HT.out.next B.out)
          refine hc.mono ?_
          clear hc
          clear pKR qKR rKR pKX qKX rKX
          rintro e w9 ⟨rfl, b5⟩
          replace KR := Lib.hid (KR.out.next b5)
          replace KX := Lib.hid (KX.out.next b5)
          replace B := Lib.hid (thn B.out b5)
          clear b5
          go_wp2
          go_ret
          exact ⟨rfl, B.out⟩
        · by_cases ho1 : 64 < o
          · have HMO : Hid (mayI r (0, r.1, n) o = false) := may_zero (by omega)
            have HRO : Hid (rightI r o = false) := right_not (by omega)
            go_enter Tryd.func6, Tryd.ntmps6
            go_upto_region 1 with fail
            generalize w.alloc (.cells #[.int .u16 r.1, .int .u32 r.2.1, .int .u64 r.2.2] 26) = w1 at *
            obtain ⟨gr, hgr⟩ : ∃ g, w.heap.size = g := ⟨_, rfl⟩
            rw [hgr] at KR ⊢
            clear hgr
            go_wp2_with fail
            have hc := win_any v w1 HV.out
            rw [HW.out] at hc
            refine hc.mono ?_
            clear hc
            rintro e w2 ⟨rfl, b5⟩
            replace KR := Lib.hid (KR.out.next b5)
            replace B := Lib.hid (thn B.out b5)
            clear b5
            obtain ⟨pKR, qKR, rKR⟩ := KR.out.cells
            go_wp2_with fail
            have hc := sright_any r wd w2 HR.out
            rw [HQ.out] at hc
            refine hc.mono ?_
            clear hc
            clear pKR qKR rKR
            rintro e w3 ⟨rfl, b5⟩
            replace KR := Lib.hid (KR.out.next b5)
            replace B := Lib.hid (thn B.out b5)
            clear b5
            obtain ⟨pKR, qKR, rKR⟩ := KR.out.cells
            go_upto_region 5 with fail
            clear pKR qKR rKR
            have hbl := below_lit w3 (.cells #[.int .u8 0, .int .u16 r.1, .int .u32 n] 28)
            replace KR := Lib.hid (KR.out.next hbl)
            replace B := Lib.hid (thn B.out hbl)
            clear hbl
            have KX : Hid (IdBlk (w3.alloc (.cells #[.int .u8 0, .int .u16 r.1, .int .u32 n] 28)) w3.heap.size (0, r.1, n)) := IdBlk.new w3 (0, r.1, n)
            generalize w3.alloc (.cells #[.int .u8 0, .int .u16 r.1, .int .u32 n] 28) = w4 at *
            obtain ⟨gx, hgx⟩ : ∃ g, w3.heap.size = g := ⟨_, rfl⟩
            rw [hgx] at KX ⊢
            clear hgx
            obtain ⟨pKR, qKR, rKR⟩ := KR.out.cells
            obtain ⟨pKX, qKX, rKX⟩ := KX.out.cells
            go_wp2_with fail
            have hc := may_any r (0, r.1, n) wd w4 HR.out HX.out
            rw [HM.out] at hc
            refine hc.mono ?_
            clear hc
            clear pKR qKR rKR pKX qKX rKX
            rintro e w5 ⟨rfl, b5⟩
            replace KR := Lib.hid (KR.out.next b5)
            replace KX := Lib.hid (KX.out.next b5)
            replace B := Lib.hid (thn B.out b5)
            clear b5
            obtain ⟨pKR, qKR, rKR⟩ := KR.out.cells
            obtain ⟨pKX, qKX, rKX⟩ := KX.out.cells
            go_wp2_with fail
            have hc := shas_any r (0, r.1, 0) w5 HR.out HX0.out
            rw [HZ.out] at hc
            refine hc.mono ?_
            clear hc
            clear pKR qKR rKR pKX qKX rKX
            rintro e w6 ⟨rfl, b5⟩
            replace KR := Lib.hid (KR.out.next b5)
            replace KX := Lib.hid (KX.out.next b5)
            replace B := Lib.hid (thn B.out b5)
            clear b5
            obtain ⟨pKR, qKR, rKR⟩ := KR.out.cells
            obtain ⟨pKX, qKX, rKX⟩ := KX.out.cells
            go_wp2_with fail
            have hc := may_any r (0, r.1, n) o w6 HR.out HX.out
            rw [HMO.out] at hc
            refine hc.mono ?_
            clear hc
            clear pKR qKR rKR pKX qKX rKX
            rintro e w7 ⟨rfl, b5⟩
            replace KR := Lib.hid (KR.out.next b5)
            replace KX := Lib.hid (KX.out.next b5)
            replace B := Lib.hid (thn B.out b5)
            clear b5
            obtain ⟨pKR, qKR, rKR⟩ := KR.out.cells
            obtain ⟨pKX, qKX, rKX⟩ := KX.out.cells
            go_wp2_with fail
            have hc := sright_any r o w7 HR.out
            rw [HRO.out] at hc
            refine hc.mono ?_
            clear hc
            clear pKR qKR rKR pKX qKX rKX
            rintro e w8 ⟨rfl, b5⟩
            replace KR := Lib.hid (KR.out.next b5)
            replace KX := Lib.hid (KX.out.next b5)
            replace B := Lib.hid (thn B.out b5)
            clear b5
            obtain ⟨pKR, qKR, rKR⟩ := KR.out.cells
            obtain ⟨pKX, qKX, rKX⟩ := KX.out.cells
            go_wp2_with fail
            have hc := awake_any w8 (HT.out.next B.out)
            refine hc.mono ?_
            clear hc
            clear pKR qKR rKR pKX qKX rKX
            rintro e w9 ⟨rfl, b5⟩
            replace KR := Lib.hid (KR.out.next b5)
            replace KX := Lib.hid (KX.out.next b5)
            replace B := Lib.hid (thn B.out b5)
            clear b5
            go_wp2
            go_ret
            exact ⟨rfl, B.out⟩
          · skip
            go_enter Tryd.func6, Tryd.ntmps6
            go_upto_region 1 with fail
            generalize w.alloc (.cells #[.int .u16 r.1, .int .u32 r.2.1, .int .u64 r.2.2] 26) = w1 at *
            obtain ⟨gr, hgr⟩ : ∃ g, w.heap.size = g := ⟨_, rfl⟩
            rw [hgr] at KR ⊢
            clear hgr
            go_wp2_with fail
            have hc := win_any v w1 HV.out
            rw [HW.out] at hc
            refine hc.mono ?_
            clear hc
            rintro e w2 ⟨rfl, b5⟩
            replace KR := Lib.hid (KR.out.next b5)
            replace B := Lib.hid (thn B.out b5)
            clear b5
            obtain ⟨pKR, qKR, rKR⟩ := KR.out.cells
            go_wp2_with fail
            have hc := sright_any r wd w2 HR.out
            rw [HQ.out] at hc
            refine hc.mono ?_
            clear hc
            clear pKR qKR rKR
            rintro e w3 ⟨rfl, b5⟩
            replace KR := Lib.hid (KR.out.next b5)
            replace B := Lib.hid (thn B.out b5)
            clear b5
            obtain ⟨pKR, qKR, rKR⟩ := KR.out.cells
            go_upto_region 5 with fail
            clear pKR qKR rKR
            have hbl := below_lit w3 (.cells #[.int .u8 0, .int .u16 r.1, .int .u32 n] 28)
            replace KR := Lib.hid (KR.out.next hbl)
            replace B := Lib.hid (thn B.out hbl)
            clear hbl
            have KX : Hid (IdBlk (w3.alloc (.cells #[.int .u8 0, .int .u16 r.1, .int .u32 n] 28)) w3.heap.size (0, r.1, n)) := IdBlk.new w3 (0, r.1, n)
            generalize w3.alloc (.cells #[.int .u8 0, .int .u16 r.1, .int .u32 n] 28) = w4 at *
            obtain ⟨gx, hgx⟩ : ∃ g, w3.heap.size = g := ⟨_, rfl⟩
            rw [hgx] at KX ⊢
            clear hgx
            obtain ⟨pKR, qKR, rKR⟩ := KR.out.cells
            obtain ⟨pKX, qKX, rKX⟩ := KX.out.cells
            go_wp2_with fail
            have hc := may_any r (0, r.1, n) wd w4 HR.out HX.out
            rw [HM.out] at hc
            refine hc.mono ?_
            clear hc
            clear pKR qKR rKR pKX qKX rKX
            rintro e w5 ⟨rfl, b5⟩
            replace KR := Lib.hid (KR.out.next b5)
            replace KX := Lib.hid (KX.out.next b5)
            replace B := Lib.hid (thn B.out b5)
            clear b5
            obtain ⟨pKR, qKR, rKR⟩ := KR.out.cells
            obtain ⟨pKX, qKX, rKX⟩ := KX.out.cells
            go_wp2_with fail
            have hc := shas_any r (0, r.1, 0) w5 HR.out HX0.out
            rw [HZ.out] at hc
            refine hc.mono ?_
            clear hc
            clear pKR qKR rKR pKX qKX rKX
            rintro e w6 ⟨rfl, b5⟩
            replace KR := Lib.hid (KR.out.next b5)
            replace KX := Lib.hid (KX.out.next b5)
            replace B := Lib.hid (thn B.out b5)
            clear b5
            obtain ⟨pKR, qKR, rKR⟩ := KR.out.cells
            obtain ⟨pKX, qKX, rKX⟩ := KX.out.cells
            go_wp2_with fail
            have hc := awake_any w6 (HT.out.next B.out)
            refine hc.mono ?_
            clear hc
            clear pKR qKR rKR pKX qKX rKX
            rintro e w7 ⟨rfl, b5⟩
            replace KR := Lib.hid (KR.out.next b5)
            replace KX := Lib.hid (KX.out.next b5)
            replace B := Lib.hid (thn B.out b5)
            clear b5
            go_wp2
            go_ret
            exact ⟨rfl, B.out⟩
      cases hs : seenI r n with
      | false =>
        have hs2 : seenI r n = false := hs
        have HM : Hid (mayI r (0, r.1, n) wd = true) := may_of hs2 HFW.out hi (by first | (simp; done) | (simp; omega))
        have HH : Hid (hasI r (0, r.1, n) = false) := has_of_ hs2 hi
        clear hs hs2
        by_cases ho0 : o < 1
        · have HMO : Hid (mayI r (0, r.1, n) o = false) := may_zero (by omega)
          have HRO : Hid (rightI r o = false) := right_not (by omega)
          go_enter Tryd.func6, Tryd.ntmps6
          go_upto_region 1 with fail
          generalize w.alloc (.cells #[.int .u16 r.1, .int .u32 r.2.1, .int .u64 r.2.2] 26) = w1 at *
          obtain ⟨gr, hgr⟩ : ∃ g, w.heap.size = g := ⟨_, rfl⟩
          rw [hgr] at KR ⊢
          clear hgr
          go_wp2_with fail
          have hc := win_any v w1 HV.out
          rw [HW.out] at hc
          refine hc.mono ?_
          clear hc
          rintro e w2 ⟨rfl, b5⟩
          replace KR := Lib.hid (KR.out.next b5)
          replace B := Lib.hid (thn B.out b5)
          clear b5
          obtain ⟨pKR, qKR, rKR⟩ := KR.out.cells
          go_wp2_with fail
          have hc := sright_any r wd w2 HR.out
          rw [HQ.out] at hc
          refine hc.mono ?_
          clear hc
          clear pKR qKR rKR
          rintro e w3 ⟨rfl, b5⟩
          replace KR := Lib.hid (KR.out.next b5)
          replace B := Lib.hid (thn B.out b5)
          clear b5
          obtain ⟨pKR, qKR, rKR⟩ := KR.out.cells
          go_upto_region 5 with fail
          clear pKR qKR rKR
          have hbl := below_lit w3 (.cells #[.int .u8 0, .int .u16 r.1, .int .u32 n] 28)
          replace KR := Lib.hid (KR.out.next hbl)
          replace B := Lib.hid (thn B.out hbl)
          clear hbl
          have KX : Hid (IdBlk (w3.alloc (.cells #[.int .u8 0, .int .u16 r.1, .int .u32 n] 28)) w3.heap.size (0, r.1, n)) := IdBlk.new w3 (0, r.1, n)
          generalize w3.alloc (.cells #[.int .u8 0, .int .u16 r.1, .int .u32 n] 28) = w4 at *
          obtain ⟨gx, hgx⟩ : ∃ g, w3.heap.size = g := ⟨_, rfl⟩
          rw [hgx] at KX ⊢
          clear hgx
          obtain ⟨pKR, qKR, rKR⟩ := KR.out.cells
          obtain ⟨pKX, qKX, rKX⟩ := KX.out.cells
          go_wp2_with fail
          have hc := may_any r (0, r.1, n) wd w4 HR.out HX.out
          rw [HM.out] at hc
          refine hc.mono ?_
          clear hc
          clear pKR qKR rKR pKX qKX rKX
          rintro e w5 ⟨rfl, b5⟩
          replace KR := Lib.hid (KR.out.next b5)
          replace KX := Lib.hid (KX.out.next b5)
          replace B := Lib.hid (thn B.out b5)
          clear b5
          obtain ⟨pKR, qKR, rKR⟩ := KR.out.cells
          obtain ⟨pKX, qKX, rKX⟩ := KX.out.cells
          go_wp2_with fail
          have hc := shas_any r (0, r.1, n) w5 HR.out HX.out
          rw [HH.out] at hc
          refine hc.mono ?_
          clear hc
          clear pKR qKR rKR pKX qKX rKX
          rintro e w6 ⟨rfl, b5⟩
          replace KR := Lib.hid (KR.out.next b5)
          replace KX := Lib.hid (KX.out.next b5)
          replace B := Lib.hid (thn B.out b5)
          clear b5
          obtain ⟨pKR, qKR, rKR⟩ := KR.out.cells
          obtain ⟨pKX, qKX, rKX⟩ := KX.out.cells
          go_wp2_with fail
          have hc := shas_any r (0, r.1, 0) w6 HR.out HX0.out
          rw [HZ.out] at hc
          refine hc.mono ?_
          clear hc
          clear pKR qKR rKR pKX qKX rKX
          rintro e w7 ⟨rfl, b5⟩
          replace KR := Lib.hid (KR.out.next b5)
          replace KX := Lib.hid (KX.out.next b5)
          replace B := Lib.hid (thn B.out b5)
          clear b5
          obtain ⟨pKR, qKR, rKR⟩ := KR.out.cells
          obtain ⟨pKX, qKX, rKX⟩ := KX.out.cells
          go_wp2_with fail
          have hc := may_any r (0, r.1, n) o w7 HR.out HX.out
          rw [HMO.out] at hc
          refine hc.mono ?_
          clear hc
          clear pKR qKR rKR pKX qKX rKX
          rintro e w8 ⟨rfl, b5⟩
          replace KR := Lib.hid (KR.out.next b5)
          replace KX := Lib.hid (KX.out.next b5)
          replace B := Lib.hid (thn B.out b5)
          clear b5
          obtain ⟨pKR, qKR, rKR⟩ := KR.out.cells
          obtain ⟨pKX, qKX, rKX⟩ := KX.out.cells
          go_wp2_with fail
          have hc := sright_any r o w8 HR.out
          rw [HRO.out] at hc
          refine hc.mono ?_
          clear hc
          clear pKR qKR rKR pKX qKX rKX
          rintro e w9 ⟨rfl, b5⟩
          replace KR := Lib.hid (KR.out.next b5)
          replace KX := Lib.hid (KX.out.next b5)
          replace B := Lib.hid (thn B.out b5)
          clear b5
          obtain ⟨pKR, qKR, rKR⟩ := KR.out.cells
          obtain ⟨pKX, qKX, rKX⟩ := KX.out.cells
          go_wp2_with fail
          have hc := awake_any w9 (HT.out.next B.out)
          refine hc.mono ?_
          clear hc
          clear pKR qKR rKR pKX qKX rKX
          rintro e w10 ⟨rfl, b5⟩
          replace KR := Lib.hid (KR.out.next b5)
          replace KX := Lib.hid (KX.out.next b5)
          replace B := Lib.hid (thn B.out b5)
          clear b5
          go_wp2
          go_ret
          exact ⟨rfl, B.out⟩
        · by_cases ho1 : 64 < o
          · have HMO : Hid (mayI r (0, r.1, n) o = false) := may_zero (by omega)
            have HRO : Hid (rightI r o = false) := right_not (by omega)
            go_enter Tryd.func6, Tryd.ntmps6
            go_upto_region 1 with fail
            generalize w.alloc (.cells #[.int .u16 r.1, .int .u32 r.2.1, .int .u64 r.2.2] 26) = w1 at *
            obtain ⟨gr, hgr⟩ : ∃ g, w.heap.size = g := ⟨_, rfl⟩
            rw [hgr] at KR ⊢
            clear hgr
            go_wp2_with fail
            have hc := win_any v w1 HV.out
            rw [HW.out] at hc
            refine hc.mono ?_
            clear hc
            rintro e w2 ⟨rfl, b5⟩
            replace KR := Lib.hid (KR.out.next b5)
            replace B := Lib.hid (thn B.out b5)
            clear b5
            obtain ⟨pKR, qKR, rKR⟩ := KR.out.cells
            go_wp2_with fail
            have hc := sright_any r wd w2 HR.out
            rw [HQ.out] at hc
            refine hc.mono ?_
            clear hc
            clear pKR qKR rKR
            rintro e w3 ⟨rfl, b5⟩
            replace KR := Lib.hid (KR.out.next b5)
            replace B := Lib.hid (thn B.out b5)
            clear b5
            obtain ⟨pKR, qKR, rKR⟩ := KR.out.cells
            go_upto_region 5 with fail
            clear pKR qKR rKR
            have hbl := below_lit w3 (.cells #[.int .u8 0, .int .u16 r.1, .int .u32 n] 28)
            replace KR := Lib.hid (KR.out.next hbl)
            replace B := Lib.hid (thn B.out hbl)
            clear hbl
            have KX : Hid (IdBlk (w3.alloc (.cells #[.int .u8 0, .int .u16 r.1, .int .u32 n] 28)) w3.heap.size (0, r.1, n)) := IdBlk.new w3 (0, r.1, n)
            generalize w3.alloc (.cells #[.int .u8 0, .int .u16 r.1, .int .u32 n] 28) = w4 at *
            obtain ⟨gx, hgx⟩ : ∃ g, w3.heap.size = g := ⟨_, rfl⟩
            rw [hgx] at KX ⊢
            clear hgx
            obtain ⟨pKR, qKR, rKR⟩ := KR.out.cells
            obtain ⟨pKX, qKX, rKX⟩ := KX.out.cells
            go_wp2_with fail
            have hc := may_any r (0, r.1, n) wd w4 HR.out HX.out
            rw [HM.out] at hc
            refine hc.mono ?_
            clear hc
            clear pKR qKR rKR pKX qKX rKX
            rintro e w5 ⟨rfl, b5⟩
            replace KR := Lib.hid (KR.out.next b5)
            replace KX := Lib.hid (KX.out.next b5)
            replace B := Lib.hid (thn B.out b5)
            clear b5
            obtain ⟨pKR, qKR, rKR⟩ := KR.out.cells
            obtain ⟨pKX, qKX, rKX⟩ := KX.out.cells
            go_wp2_with fail
            have hc := shas_any r (0, r.1, n) w5 HR.out HX.out
            rw [HH.out] at hc
            refine hc.mono ?_
            clear hc
            clear pKR qKR rKR pKX qKX rKX
            rintro e w6 ⟨rfl, b5⟩
            replace KR := Lib.hid (KR.out.next b5)
            replace KX := Lib.hid (KX.out.next b5)
            replace B := Lib.hid (thn B.out b5)
            clear b5
            obtain ⟨pKR, qKR, rKR⟩ := KR.out.cells
            obtain ⟨pKX, qKX, rKX⟩ := KX.out.cells
            go_wp2_with fail
            have hc := shas_any r (0, r.1, 0) w6 HR.out HX0.out
            rw [HZ.out] at hc
            refine hc.mono ?_
            clear hc
            clear pKR qKR rKR pKX qKX rKX
            rintro e w7 ⟨rfl, b5⟩
            replace KR := Lib.hid (KR.out.next b5)
            replace KX := Lib.hid (KX.out.next b5)
            replace B := Lib.hid (thn B.out b5)
            clear b5
            obtain ⟨pKR, qKR, rKR⟩ := KR.out.cells
            obtain ⟨pKX, qKX, rKX⟩ := KX.out.cells
            go_wp2_with fail
            have hc := may_any r (0, r.1, n) o w7 HR.out HX.out
            rw [HMO.out] at hc
            refine hc.mono ?_
            clear hc
            clear pKR qKR rKR pKX qKX rKX
            rintro e w8 ⟨rfl, b5⟩
            replace KR := Lib.hid (KR.out.next b5)
            replace KX := Lib.hid (KX.out.next b5)
            replace B := Lib.hid (thn B.out b5)
            clear b5
            obtain ⟨pKR, qKR, rKR⟩ := KR.out.cells
            obtain ⟨pKX, qKX, rKX⟩ := KX.out.cells
            go_wp2_with fail
            have hc := sright_any r o w8 HR.out
            rw [HRO.out] at hc
            refine hc.mono ?_
            clear hc
            clear pKR qKR rKR pKX qKX rKX
            rintro e w9 ⟨rfl, b5⟩
            replace KR := Lib.hid (KR.out.next b5)
            replace KX := Lib.hid (KX.out.next b5)
            replace B := Lib.hid (thn B.out b5)
            clear b5
            obtain ⟨pKR, qKR, rKR⟩ := KR.out.cells
            obtain ⟨pKX, qKX, rKX⟩ := KX.out.cells
            go_wp2_with fail
            have hc := awake_any w9 (HT.out.next B.out)
            refine hc.mono ?_
            clear hc
            clear pKR qKR rKR pKX qKX rKX
            rintro e w10 ⟨rfl, b5⟩
            replace KR := Lib.hid (KR.out.next b5)
            replace KX := Lib.hid (KX.out.next b5)
            replace B := Lib.hid (thn B.out b5)
            clear b5
            go_wp2
            go_ret
            exact ⟨rfl, B.out⟩
          · skip
            go_enter Tryd.func6, Tryd.ntmps6
            go_upto_region 1 with fail
            generalize w.alloc (.cells #[.int .u16 r.1, .int .u32 r.2.1, .int .u64 r.2.2] 26) = w1 at *
            obtain ⟨gr, hgr⟩ : ∃ g, w.heap.size = g := ⟨_, rfl⟩
            rw [hgr] at KR ⊢
            clear hgr
            go_wp2_with fail
            have hc := win_any v w1 HV.out
            rw [HW.out] at hc
            refine hc.mono ?_
            clear hc
            rintro e w2 ⟨rfl, b5⟩
            replace KR := Lib.hid (KR.out.next b5)
            replace B := Lib.hid (thn B.out b5)
            clear b5
            obtain ⟨pKR, qKR, rKR⟩ := KR.out.cells
            go_wp2_with fail
            have hc := sright_any r wd w2 HR.out
            rw [HQ.out] at hc
            refine hc.mono ?_
            clear hc
            clear pKR qKR rKR
            rintro e w3 ⟨rfl, b5⟩
            replace KR := Lib.hid (KR.out.next b5)
            replace B := Lib.hid (thn B.out b5)
            clear b5
            obtain ⟨pKR, qKR, rKR⟩ := KR.out.cells
            go_upto_region 5 with fail
            clear pKR qKR rKR
            have hbl := below_lit w3 (.cells #[.int .u8 0, .int .u16 r.1, .int .u32 n] 28)
            replace KR := Lib.hid (KR.out.next hbl)
            replace B := Lib.hid (thn B.out hbl)
            clear hbl
            have KX : Hid (IdBlk (w3.alloc (.cells #[.int .u8 0, .int .u16 r.1, .int .u32 n] 28)) w3.heap.size (0, r.1, n)) := IdBlk.new w3 (0, r.1, n)
            generalize w3.alloc (.cells #[.int .u8 0, .int .u16 r.1, .int .u32 n] 28) = w4 at *
            obtain ⟨gx, hgx⟩ : ∃ g, w3.heap.size = g := ⟨_, rfl⟩
            rw [hgx] at KX ⊢
            clear hgx
            obtain ⟨pKR, qKR, rKR⟩ := KR.out.cells
            obtain ⟨pKX, qKX, rKX⟩ := KX.out.cells
            go_wp2_with fail
            have hc := may_any r (0, r.1, n) wd w4 HR.out HX.out
            rw [HM.out] at hc
            refine hc.mono ?_
            clear hc
            clear pKR qKR rKR pKX qKX rKX
            rintro e w5 ⟨rfl, b5⟩
            replace KR := Lib.hid (KR.out.next b5)
            replace KX := Lib.hid (KX.out.next b5)
            replace B := Lib.hid (thn B.out b5)
            clear b5
            obtain ⟨pKR, qKR, rKR⟩ := KR.out.cells
            obtain ⟨pKX, qKX, rKX⟩ := KX.out.cells
            go_wp2_with fail
            have hc := shas_any r (0, r.1, n) w5 HR.out HX.out
            rw [HH.out] at hc
            refine hc.mono ?_
            clear hc
            clear pKR qKR rKR pKX qKX rKX
            rintro e w6 ⟨rfl, b5⟩
            replace KR := Lib.hid (KR.out.next b5)
            replace KX := Lib.hid (KX.out.next b5)
            replace B := Lib.hid (thn B.out b5)
            clear b5
            obtain ⟨pKR, qKR, rKR⟩ := KR.out.cells
            obtain ⟨pKX, qKX, rKX⟩ := KX.out.cells
            go_wp2_with fail
            have hc := shas_any r (0, r.1, 0) w6 HR.out HX0.out
            rw [HZ.out] at hc
            refine hc.mono ?_
            clear hc
            clear pKR qKR rKR pKX qKX rKX
            rintro e w7 ⟨rfl, b5⟩
            replace KR := Lib.hid (KR.out.next b5)
            replace KX := Lib.hid (KX.out.next b5)
            replace B := Lib.hid (thn B.out b5)
            clear b5
            obtain ⟨pKR, qKR, rKR⟩ := KR.out.cells
            obtain ⟨pKX, qKX, rKX⟩ := KX.out.cells
            go_wp2_with fail
            have hc := awake_any w7 (HT.out.next B.out)
            refine hc.mono ?_
            clear hc
            clear pKR qKR rKR pKX qKX rKX
            rintro e w8 ⟨rfl, b5⟩
            replace KR := Lib.hid (KR.out.next b5)
            replace KX := Lib.hid (KX.out.next b5)
            replace B := Lib.hid (thn B.out b5)
            clear b5
            go_wp2
            go_ret
            exact ⟨rfl, B.out⟩
      | true =>
        have hs2 : seenI r n = true := hs
        have HM : Hid (mayI r (0, r.1, n) wd = false) := may_of hs2 HFW.out hi (by first | (simp; done) | (simp; omega))
        have HH : Hid (hasI r (0, r.1, n) = true) := has_of_ hs2 hi
        clear hs hs2
        by_cases ho0 : o < 1
        · have HMO : Hid (mayI r (0, r.1, n) o = false) := may_zero (by omega)
          have HRO : Hid (rightI r o = false) := right_not (by omega)
          go_enter Tryd.func6, Tryd.ntmps6
          go_upto_region 1 with fail
          generalize w.alloc (.cells #[.int .u16 r.1, .int .u32 r.2.1, .int .u64 r.2.2] 26) = w1 at *
          obtain ⟨gr, hgr⟩ : ∃ g, w.heap.size = g := ⟨_, rfl⟩
          rw [hgr] at KR ⊢
          clear hgr
          go_wp2_with fail
          have hc := win_any v w1 HV.out
          rw [HW.out] at hc
          refine hc.mono ?_
          clear hc
          rintro e w2 ⟨rfl, b5⟩
          replace KR := Lib.hid (KR.out.next b5)
          replace B := Lib.hid (thn B.out b5)
          clear b5
          obtain ⟨pKR, qKR, rKR⟩ := KR.out.cells
          go_wp2_with fail
          have hc := sright_any r wd w2 HR.out
          rw [HQ.out] at hc
          refine hc.mono ?_
          clear hc
          clear pKR qKR rKR
          rintro e w3 ⟨rfl, b5⟩
          replace KR := Lib.hid (KR.out.next b5)
          replace B := Lib.hid (thn B.out b5)
          clear b5
          obtain ⟨pKR, qKR, rKR⟩ := KR.out.cells
          go_upto_region 5 with fail
          clear pKR qKR rKR
          have hbl := below_lit w3 (.cells #[.int .u8 0, .int .u16 r.1, .int .u32 n] 28)
          replace KR := Lib.hid (KR.out.next hbl)
          replace B := Lib.hid (thn B.out hbl)
          clear hbl
          have KX : Hid (IdBlk (w3.alloc (.cells #[.int .u8 0, .int .u16 r.1, .int .u32 n] 28)) w3.heap.size (0, r.1, n)) := IdBlk.new w3 (0, r.1, n)
          generalize w3.alloc (.cells #[.int .u8 0, .int .u16 r.1, .int .u32 n] 28) = w4 at *
          obtain ⟨gx, hgx⟩ : ∃ g, w3.heap.size = g := ⟨_, rfl⟩
          rw [hgx] at KX ⊢
          clear hgx
          obtain ⟨pKR, qKR, rKR⟩ := KR.out.cells
          obtain ⟨pKX, qKX, rKX⟩ := KX.out.cells
          go_wp2_with fail
          have hc := may_any r (0, r.1, n) wd w4 HR.out HX.out
          rw [HM.out] at hc
          refine hc.mono ?_
          clear hc
          clear pKR qKR rKR pKX qKX rKX
          rintro e w5 ⟨rfl, b5⟩
          replace KR := Lib.hid (KR.out.next b5)
          replace KX := Lib.hid (KX.out.next b5)
          replace B := Lib.hid (thn B.out b5)
          clear b5
          obtain ⟨pKR, qKR, rKR⟩ := KR.out.cells
          obtain ⟨pKX, qKX, rKX⟩ := KX.out.cells
          go_wp2_with fail
          have hc := shas_any r (0, r.1, n) w5 HR.out HX.out
          rw [HH.out] at hc
          refine hc.mono ?_
          clear hc
          clear pKR qKR rKR pKX qKX rKX
          rintro e w6 ⟨rfl, b5⟩
          replace KR := Lib.hid (KR.out.next b5)
          replace KX := Lib.hid (KX.out.next b5)
          replace B := Lib.hid (thn B.out b5)
          clear b5
          obtain ⟨pKR, qKR, rKR⟩ := KR.out.cells
          obtain ⟨pKX, qKX, rKX⟩ := KX.out.cells
          go_wp2_with fail
          have hc := shas_any r (0, r.1, 0) w6 HR.out HX0.out
          rw [HZ.out] at hc
          refine hc.mono ?_
          clear hc
          clear pKR qKR rKR pKX qKX rKX
          rintro e w7 ⟨rfl, b5⟩
          replace KR := Lib.hid (KR.out.next b5)
          replace KX := Lib.hid (KX.out.next b5)
          replace B := Lib.hid (thn B.out b5)
          clear b5
          obtain ⟨pKR, qKR, rKR⟩ := KR.out.cells
          obtain ⟨pKX, qKX, rKX⟩ := KX.out.cells
          go_wp2_with fail
          have hc := may_any r (0, r.1, n) o w7 HR.out HX.out
          rw [HMO.out] at hc
          refine hc.mono ?_
          clear hc
          clear pKR qKR rKR pKX qKX rKX
          rintro e w8 ⟨rfl, b5⟩
          replace KR := Lib.hid (KR.out.next b5)
          replace KX := Lib.hid (KX.out.next b5)
          replace B := Lib.hid (thn B.out b5)
          clear b5
          obtain ⟨pKR, qKR, rKR⟩ := KR.out.cells
          obtain ⟨pKX, qKX, rKX⟩ := KX.out.cells
          go_wp2_with fail
          have hc := sright_any r o w8 HR.out
          rw [HRO.out] at hc
          refine hc.mono ?_
          clear hc
          clear pKR qKR rKR pKX qKX rKX
          rintro e w9 ⟨rfl, b5⟩
          replace KR := Lib.hid (KR.out.next b5)
          replace KX := Lib.hid (KX.out.next b5)
          replace B := Lib.hid (thn B.out b5)
          clear b5
          obtain ⟨pKR, qKR, rKR⟩ := KR.out.cells
          obtain ⟨pKX, qKX, rKX⟩ := KX.out.cells
          go_wp2_with fail
          have hc := awake_any w9 (HT.out.next B.out)
          refine hc.mono ?_
          clear hc
          clear pKR qKR rKR pKX qKX rKX
          rintro e w10 ⟨rfl, b5⟩
          replace KR := Lib.hid (KR.out.next b5)
          replace KX := Lib.hid (KX.out.next b5)
          replace B := Lib.hid (thn B.out b5)
          clear b5
          go_wp2
          go_ret
          exact ⟨rfl, B.out⟩
        · by_cases ho1 : 64 < o
          · have HMO : Hid (mayI r (0, r.1, n) o = false) := may_zero (by omega)
            have HRO : Hid (rightI r o = false) := right_not (by omega)
            go_enter Tryd.func6, Tryd.ntmps6
            go_upto_region 1 with fail
            generalize w.alloc (.cells #[.int .u16 r.1, .int .u32 r.2.1, .int .u64 r.2.2] 26) = w1 at *
            obtain ⟨gr, hgr⟩ : ∃ g, w.heap.size = g := ⟨_, rfl⟩
            rw [hgr] at KR ⊢
            clear hgr
            go_wp2_with fail
            have hc := win_any v w1 HV.out
            rw [HW.out] at hc
            refine hc.mono ?_
            clear hc
            rintro e w2 ⟨rfl, b5⟩
            replace KR := Lib.hid (KR.out.next b5)
            replace B := Lib.hid (thn B.out b5)
            clear b5
            obtain ⟨pKR, qKR, rKR⟩ := KR.out.cells
            go_wp2_with fail
            have hc := sright_any r wd w2 HR.out
            rw [HQ.out] at hc
            refine hc.mono ?_
            clear hc
            clear pKR qKR rKR
            rintro e w3 ⟨rfl, b5⟩
            replace KR := Lib.hid (KR.out.next b5)
            replace B := Lib.hid (thn B.out b5)
            clear b5
            obtain ⟨pKR, qKR, rKR⟩ := KR.out.cells
            go_upto_region 5 with fail
            clear pKR qKR rKR
            have hbl := below_lit w3 (.cells #[.int .u8 0, .int .u16 r.1, .int .u32 n] 28)
            replace KR := Lib.hid (KR.out.next hbl)
            replace B := Lib.hid (thn B.out hbl)
            clear hbl
            have KX : Hid (IdBlk (w3.alloc (.cells #[.int .u8 0, .int .u16 r.1, .int .u32 n] 28)) w3.heap.size (0, r.1, n)) := IdBlk.new w3 (0, r.1, n)
            generalize w3.alloc (.cells #[.int .u8 0, .int .u16 r.1, .int .u32 n] 28) = w4 at *
            obtain ⟨gx, hgx⟩ : ∃ g, w3.heap.size = g := ⟨_, rfl⟩
            rw [hgx] at KX ⊢
            clear hgx
            obtain ⟨pKR, qKR, rKR⟩ := KR.out.cells
            obtain ⟨pKX, qKX, rKX⟩ := KX.out.cells
            go_wp2_with fail
            have hc := may_any r (0, r.1, n) wd w4 HR.out HX.out
            rw [HM.out] at hc
            refine hc.mono ?_
            clear hc
            clear pKR qKR rKR pKX qKX rKX
            rintro e w5 ⟨rfl, b5⟩
            replace KR := Lib.hid (KR.out.next b5)
            replace KX := Lib.hid (KX.out.next b5)
            replace B := Lib.hid (thn B.out b5)
            clear b5
            obtain ⟨pKR, qKR, rKR⟩ := KR.out.cells
            obtain ⟨pKX, qKX, rKX⟩ := KX.out.cells
            go_wp2_with fail
            have hc := shas_any r (0, r.1, n) w5 HR.out HX.out
            rw [HH.out] at hc
            refine hc.mono ?_
            clear hc
            clear pKR qKR rKR pKX qKX rKX
            rintro e w6 ⟨rfl, b5⟩
            replace KR := Lib.hid (KR.out.next b5)
            replace KX := Lib.hid (KX.out.next b5)
            replace B := Lib.hid (thn B.out b5)
            clear b5
            obtain ⟨pKR, qKR, rKR⟩ := KR.out.cells
            obtain ⟨pKX, qKX, rKX⟩ := KX.out.cells
            go_wp2_with fail
            have hc := shas_any r (0, r.1, 0) w6 HR.out HX0.out
            rw [HZ.out] at hc
            refine hc.mono ?_
            clear hc
            clear pKR qKR rKR pKX qKX rKX
            rintro e w7 ⟨rfl, b5⟩
            replace KR := Lib.hid (KR.out.next b5)
            replace KX := Lib.hid (KX.out.next b5)
            replace B := Lib.hid (thn B.out b5)
            clear b5
            obtain ⟨pKR, qKR, rKR⟩ := KR.out.cells
            obtain ⟨pKX, qKX, rKX⟩ := KX.out.cells
            go_wp2_with fail
            have hc := may_any r (0, r.1, n) o w7 HR.out HX.out
            rw [HMO.out] at hc
            refine hc.mono ?_
            clear hc
            clear pKR qKR rKR pKX qKX rKX
            rintro e w8 ⟨rfl, b5⟩
            replace KR := Lib.hid (KR.out.next b5)
            replace KX := Lib.hid (KX.out.next b5)
            replace B := Lib.hid (thn B.out b5)
            clear b5
            obtain ⟨pKR, qKR, rKR⟩ := KR.out.cells
            obtain ⟨pKX, qKX, rKX⟩ := KX.out.cells
            go_wp2_with fail
            have hc := sright_any r o w8 HR.out
            rw [HRO.out] at hc
            refine hc.mono ?_
            clear hc
            clear pKR qKR rKR pKX qKX rKX
            rintro e w9 ⟨rfl, b5⟩
            replace KR := Lib.hid (KR.out.next b5)
            replace KX := Lib.hid (KX.out.next b5)
            replace B := Lib.hid (thn B.out b5)
            clear b5
            obtain ⟨pKR, qKR, rKR⟩ := KR.out.cells
            obtain ⟨pKX, qKX, rKX⟩ := KX.out.cells
            go_wp2_with fail
            have hc := awake_any w9 (HT.out.next B.out)
            refine hc.mono ?_
            clear hc
            clear pKR qKR rKR pKX qKX rKX
            rintro e w10 ⟨rfl, b5⟩
            replace KR := Lib.hid (KR.out.next b5)
            replace KX := Lib.hid (KX.out.next b5)
            replace B := Lib.hid (thn B.out b5)
            clear b5
            go_wp2
            go_ret
            exact ⟨rfl, B.out⟩
          · skip
            go_enter Tryd.func6, Tryd.ntmps6
            go_upto_region 1 with fail
            generalize w.alloc (.cells #[.int .u16 r.1, .int .u32 r.2.1, .int .u64 r.2.2] 26) = w1 at *
            obtain ⟨gr, hgr⟩ : ∃ g, w.heap.size = g := ⟨_, rfl⟩
            rw [hgr] at KR ⊢
            clear hgr
            go_wp2_with fail
            have hc := win_any v w1 HV.out
            rw [HW.out] at hc
            refine hc.mono ?_
            clear hc
            rintro e w2 ⟨rfl, b5⟩
            replace KR := Lib.hid (KR.out.next b5)
            replace B := Lib.hid (thn B.out b5)
            clear b5
            obtain ⟨pKR, qKR, rKR⟩ := KR.out.cells
            go_wp2_with fail
            have hc := sright_any r wd w2 HR.out
            rw [HQ.out] at hc
            refine hc.mono ?_
            clear hc
            clear pKR qKR rKR
            rintro e w3 ⟨rfl, b5⟩
            replace KR := Lib.hid (KR.out.next b5)
            replace B := Lib.hid (thn B.out b5)
            clear b5
            obtain ⟨pKR, qKR, rKR⟩ := KR.out.cells
            go_upto_region 5 with fail
            clear pKR qKR rKR
            have hbl := below_lit w3 (.cells #[.int .u8 0, .int .u16 r.1, .int .u32 n] 28)
            replace KR := Lib.hid (KR.out.next hbl)
            replace B := Lib.hid (thn B.out hbl)
            clear hbl
            have KX : Hid (IdBlk (w3.alloc (.cells #[.int .u8 0, .int .u16 r.1, .int .u32 n] 28)) w3.heap.size (0, r.1, n)) := IdBlk.new w3 (0, r.1, n)
            generalize w3.alloc (.cells #[.int .u8 0, .int .u16 r.1, .int .u32 n] 28) = w4 at *
            obtain ⟨gx, hgx⟩ : ∃ g, w3.heap.size = g := ⟨_, rfl⟩
            rw [hgx] at KX ⊢
            clear hgx
            obtain ⟨pKR, qKR, rKR⟩ := KR.out.cells
            obtain ⟨pKX, qKX, rKX⟩ := KX.out.cells
            go_wp2_with fail
            have hc := may_any r (0, r.1, n) wd w4 HR.out HX.out
            rw [HM.out] at hc
            refine hc.mono ?_
            clear hc
            clear pKR qKR rKR pKX qKX rKX
            rintro e w5 ⟨rfl, b5⟩
            replace KR := Lib.hid (KR.out.next b5)
            replace KX := Lib.hid (KX.out.next b5)
            replace B := Lib.hid (thn B.out b5)
            clear b5
            obtain ⟨pKR, qKR, rKR⟩ := KR.out.cells
            obtain ⟨pKX, qKX, rKX⟩ := KX.out.cells
            go_wp2_with fail
            have hc := shas_any r (0, r.1, n) w5 HR.out HX.out
            rw [HH.out] at hc
            refine hc.mono ?_
            clear hc
            clear pKR qKR rKR pKX qKX rKX
            rintro e w6 ⟨rfl, b5⟩
            replace KR := Lib.hid (KR.out.next b5)
            replace KX := Lib.hid (KX.out.next b5)
            replace B := Lib.hid (thn B.out b5)
            clear b5
            obtain ⟨pKR, qKR, rKR⟩ := KR.out.cells
            obtain ⟨pKX, qKX, rKX⟩ := KX.out.cells
            go_wp2_with fail
            have hc := shas_any r (0, r.1, 0) w6 HR.out HX0.out
            rw [HZ.out] at hc
            refine hc.mono ?_
            clear hc
            clear pKR qKR rKR pKX qKX rKX
            rintro e w7 ⟨rfl, b5⟩
            replace KR := Lib.hid (KR.out.next b5)
            replace KX := Lib.hid (KX.out.next b5)
            replace B := Lib.hid (thn B.out b5)
            clear b5
            obtain ⟨pKR, qKR, rKR⟩ := KR.out.cells
            obtain ⟨pKX, qKX, rKX⟩ := KX.out.cells
            go_wp2_with fail
            have hc := awake_any w7 (HT.out.next B.out)
            refine hc.mono ?_
            clear hc
            clear pKR qKR rKR pKX qKX rKX
            rintro e w8 ⟨rfl, b5⟩
            replace KR := Lib.hid (KR.out.next b5)
            replace KX := Lib.hid (KX.out.next b5)
            replace B := Lib.hid (thn B.out b5)
            clear b5
            go_wp2
            go_ret
            exact ⟨rfl, B.out⟩
end Go.Proofs.YtkdlgejkgcojkaaDoor
