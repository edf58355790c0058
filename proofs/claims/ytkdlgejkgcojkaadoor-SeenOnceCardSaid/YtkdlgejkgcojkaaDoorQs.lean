/- Layer 8: SeenOnce. -/
import Derived.Test.YtkdlgejkgcojkaaDoorQj
namespace Go.Proofs.YtkdlgejkgcojkaaDoor
open Go.RowKit
open Go.Maps (Keyed)
set_option linter.unusedVariables false
set_option maxRecDepth 100000 in
set_option maxHeartbeats 40000000 in
theorem once_walk (A : Option Addr) (n c : Nat) (l : List Id3) (v : Int) (w : World) (hv : 0 ≤ v ∧ v ≤ 255) (hT : Tab w) (hs : Sd w w.heap.size A n c l) (hl : ∀ p ∈ l, idR p) :
    Calls Tryd.prog 4 #[.slice A n c, .int .u8 v] w fun e w' => e = .returned (.bool true) ∧ Below w.heap.size w w' := by
  have HL : Hid (n = l.length) := sd_len hs
  have hm := hs.max
  have hc := hs.cap
  unfold maxLen at hm
  have HT := Lib.hid hT
  have HV := Lib.hid hv
  have HIR := Lib.hid hl
  obtain ⟨wd, HW⟩ : ∃ wd, Hid (1 + v % 64 = wd) := ⟨_, rfl⟩
  obtain ⟨f0, f1⟩ : 1 ≤ wd ∧ wd ≤ 64 := by rw [← HW.out]; exact win_fit hv
  obtain ⟨wn, hwn⟩ : ∃ wn : Nat, wd = (wn : Int) := ⟨wd.toNat, by omega⟩
  have HWN := Lib.hid hwn
  have HW1 : Hid (1 ≤ wn) := by unfold Hid; omega
  have HW2 : Hid (wn ≤ 64) := by unfold Hid; omega
  clear hwn
  obtain ⟨m, hmn, hmm⟩ : ∃ m : Nat, (m ≤ n ∧ m ≤ 200) ∧ (if (200 : Int) < (n : Int) then (200 : Int) else (n : Int)) = (m : Int) := by
    by_cases h : n ≤ 200
    · exact ⟨n, ⟨Nat.le_refl _, h⟩, if_neg (by omega)⟩
    · exact ⟨200, ⟨by omega, Nat.le_refl _⟩, if_pos (by omega)⟩
  obtain ⟨hmn, hm200⟩ := hmn
  have hup := fun w' : World => run_upto (P := Tryd.prog) (w := w') (A := A) (n := n) (c := c) (hi := m) 38 28 Tryd.underlying38 rfl 3 (fun w' => Tryd.sizeOf28 w') .i64 (m : Int) rfl (by omega)
  have SL := Lib.hid (sd_upto hs hmn)
  have hs0 := sd_upto hs hmn
  have HIM : Hid (∀ p ∈ l.take m, idR p) := fun p hp => hl p (List.mem_of_mem_take hp)
  have HLM : Hid (m = (l.take m).length) := by unfold Hid; rw [List.length_take]; have := HL.out; omega
  have B := Lib.hid (Below.refl w.heap.size w)
  have hmm2 := @run_makeMap Tryd.prog
  clear hT hs hl hv
  have ntt : ∀ w', (binOp .neq 4 (.bool true) (.bool true)).run Tryd.prog w' = .ok (.bool false) w' := fun w' => (neq_bool true true w').trans (by simp)
  have nff : ∀ w', (binOp .neq 4 (.bool false) (.bool false)).run Tryd.prog w' = .ok (.bool false) w' := fun w' => (neq_bool false false w').trans (by simp)
  go_enter Tryd.func4, Tryd.ntmps4
  go_wp2_with fail
  have hc := win_any v w HV.out
  rw [HW.out] at hc
  refine hc.mono ?_
  clear hc
  rintro e w1 ⟨rfl, b5⟩
  replace SL := Lib.hid (SL.out.next b5)
  replace B := Lib.hid (thn B.out b5)
  clear b5
  go_upto_region 3 with fail
  have hbl := below_lit w1 (.cells #[.int .u16 0, .int .u32 0, .int .u64 0] 26)
  have B0 := B
  replace SL := Lib.hid (SL.out.next hbl)
  replace B := Lib.hid (thn B.out hbl)
  clear hbl
  have KR : Hid (RowBlk (w1.alloc (.cells #[.int .u16 0, .int .u32 0, .int .u64 0] 26)) w1.heap.size (0, 0, 0)) := RowBlk.new w1 (0, 0, 0)
  generalize w1.alloc (.cells #[.int .u16 0, .int .u32 0, .int .u64 0] 26) = w2 at *
  obtain ⟨gr, hgr⟩ : ∃ g, w1.heap.size = g := ⟨_, rfl⟩
  rw [hgr] at KR ⊢
  have LR : Hid (w.heap.size ≤ gr) := by have h := B0.out.size; unfold Hid; omega
  clear hgr
  go_upto_region 4 with fail
  have LRlt := KR.out.lt
  have hbl := below_lit w2 (.map #[] 0)
  replace SL := Lib.hid (SL.out.next hbl)
  replace KR := Lib.hid (KR.out.next hbl)
  replace B := Lib.hid (thn B.out hbl)
  clear hbl
  have KM : Hid (OwnM (w2.alloc (.map #[] 0)) w2.heap.size []) := OwnM.made w2
  generalize w2.alloc (.map #[] 0) = w3 at *
  obtain ⟨gm, hgm⟩ : ∃ g, w2.heap.size = g := ⟨_, rfl⟩
  rw [hgm] at KM LRlt ⊢
  have n1 : gr ≠ gm := Nat.ne_of_lt LRlt
  have n2 : gm ≠ gr := n1.symm
  have LM : Hid (w.heap.size ≤ gm) := by have h := LR.out; unfold Hid; omega
  clear hgm LRlt
  go_wp2
  have SL0 := Lib.hid hs0
  clear hs0 hup hmm hmm2
  clear SL
  go_loopw [25] (fun iv wr => ∃ (j : Nat) (ro : Row3) (N : List Id2), j ≤ m ∧ iv = .int .i64 j ∧ Hid (OnceI wn ro N) ∧ Hid (okM N) ∧ Hid (N.length ≤ j) ∧ Hid (ro.2.1 ≤ 64 * (j : Int)) ∧ Hid (RowBlk wr gr ro) ∧ Hid (OwnM wr gm N) ∧ Hid (Below w.heap.size w wr)) (fun iv _ => m - (intOf iv).toNat)
  case atStart => exact ⟨0, (0, 0, 0), [], Nat.zero_le _, rfl, OnceI.start wn, fun _ h => (by cases h), Nat.le_refl _, by unfold Hid; decide, KR, KM, B⟩
  case round =>
    clear KR KM B
    obtain ⟨j, ro, N, hj, rfl, HO, HOK, HN, HP, KR, KM, B⟩ := hrel
    have i0 : (0 : Int) ≤ (j : Int) := by omega
    by_cases hlt : j < m
    · have i1 : (j : Int) < (m : Int) := by omega
      obtain ⟨b, off, y, rfl, hb, hy, c0, c1, c2⟩ := sd_at (SL0.out.below B.out) hlt
      have HYR := Lib.hid (HIM.out y (List.mem_of_getElem? hy))
      have HXR : Hid (idR (0, y.2.1, y.2.2)) := ⟨(show (0 : Int) ≤ 0 ∧ (0 : Int) ≤ 255 by decide), HYR.out.2⟩
      obtain ⟨_, ⟨y0, y1⟩, y2, y3⟩ := HYR.out
      have HRR := Lib.hid (HO.out.row HW2.out)
      have HRI := Lib.hid (HO.out.right HWN.out HW1.out HW2.out)
      obtain ⟨⟨r0, r1⟩, ⟨r2, r3⟩, r4, r5⟩ := HRR.out
      clear hy hb
      cases hmb : mayI ro (0, y.2.1, y.2.2) wd with
      | false =>
        have HMB := Lib.hid hmb
        clear hmb
        have hnn := neq_refl ro
        have HN2 : Hid (N.length ≤ j + 1) := Nat.le_succ_of_le HN.out
        have HP2 : Hid (ro.2.1 ≤ 64 * ((j + 1 : Nat) : Int)) := by have h := HP.out; unfold Hid; omega
        go_upto_region 7 with fail
        clear c0 c1 c2
        have hlr := KR.out.lt
        have hlm := World.ownsMap.lt KM.out
        have hbs := B.out.size
        have hbl := below_lit wr (.cells #[.int .u8 y.1, .int .u16 y.2.1, .int .u32 y.2.2] 28)
        replace KR := Lib.hid (KR.out.next hbl)
        replace KM := Lib.hid (KM.out.next hbl)
        replace B := Lib.hid (thn B.out hbl)
        clear hbl
        have KX : Hid (IdBlk (wr.alloc (.cells #[.int .u8 y.1, .int .u16 y.2.1, .int .u32 y.2.2] 28)) wr.heap.size y) := IdBlk.new wr y
        generalize wr.alloc (.cells #[.int .u8 y.1, .int .u16 y.2.1, .int .u32 y.2.2] 28) = w11 at *
        obtain ⟨gx, hgx⟩ : ∃ g, wr.heap.size = g := ⟨_, rfl⟩
        rw [hgx] at KX hlr hlm hbs ⊢
        have x1 : gr ≠ gx := Nat.ne_of_lt hlr
        have x2 : gx ≠ gr := x1.symm
        have x3 : gm ≠ gx := Nat.ne_of_lt hlm
        have x4 : gx ≠ gm := x3.symm
        have LX : Hid (w.heap.size ≤ gx) := hbs
        clear hgx hlr hlm hbs
        obtain ⟨pKR, qKR, rKR⟩ := KR.out.cells
        obtain ⟨pKX, qKX, rKX⟩ := KX.out.cells
        have fKX := KX.out.free
        go_upto_region 8 with fail
        clear pKR qKR rKR pKX qKX rKX fKX
        have hgw : w11.grownBy (w11.setCell ⟨gx, 0, none⟩ (.int .u8 0)) (some gx) := grown_set _ _ _ _
        replace KR := Lib.hid (KR.out.grown hgw (by assumption))
        replace KM := Lib.hid (KM.out.grown hgw (by assumption))
        replace KX := Lib.hid (KX.out.put0 0)
        replace B := Lib.hid (belowG B.out hgw B.out.size LX.out)
        clear hgw
        generalize w11.setCell ⟨gx, 0, none⟩ (.int .u8 0) = w12 at *
        obtain ⟨pKR, qKR, rKR⟩ := KR.out.cells
        obtain ⟨pKX, qKX, rKX⟩ := KX.out.cells
        go_wp2_with fail
        have hc := may_any ro (0, y.2.1, y.2.2) wd w12 HRR.out HXR.out
        rw [HMB.out] at hc
        refine hc.mono ?_
        clear hc
        clear pKR qKR rKR pKX qKX rKX
        rintro e w13 ⟨rfl, b5⟩
        replace KR := Lib.hid (KR.out.next b5)
        replace KM := Lib.hid (KM.out.next b5)
        replace KX := Lib.hid (KX.out.next b5)
        replace B := Lib.hid (thn B.out b5)
        clear b5
        obtain ⟨pKR, qKR, rKR⟩ := KR.out.cells
        obtain ⟨pKX, qKX, rKX⟩ := KX.out.cells
        go_wp2_with fail
        have hc := take_no ro (0, y.2.1, y.2.2) wd w13 HRR.out HXR.out HMB.out
        refine hc.mono ?_
        clear hc
        clear pKR qKR rKR pKX qKX rKX
        rintro e w14 ⟨rfl, b5⟩
        replace KR := Lib.hid (KR.out.next b5)
        replace KM := Lib.hid (KM.out.next b5)
        replace KX := Lib.hid (KX.out.next b5)
        replace B := Lib.hid (thn B.out b5)
        clear b5
        go_upto_region 10 with fail
        have hlr := KR.out.lt
        have hlm := World.ownsMap.lt KM.out
        have hlx := KX.out.lt
        have hbl := below_lit w14 (.cells #[.int .u16 ro.1, .int .u32 ro.2.1, .int .u64 ro.2.2] 26)
        replace KR := Lib.hid (KR.out.next hbl)
        replace KM := Lib.hid (KM.out.next hbl)
        replace KX := Lib.hid (KX.out.next hbl)
        replace B := Lib.hid (thn B.out hbl)
        clear hbl
        have KN : Hid (RowBlk (w14.alloc (.cells #[.int .u16 ro.1, .int .u32 ro.2.1, .int .u64 ro.2.2] 26)) w14.heap.size ro) := RowBlk.new w14 ro
        generalize w14.alloc (.cells #[.int .u16 ro.1, .int .u32 ro.2.1, .int .u64 ro.2.2] 26) = w15 at *
        obtain ⟨gn, hgn⟩ : ∃ g, w14.heap.size = g := ⟨_, rfl⟩
        rw [hgn] at KN hlr hlm hlx ⊢
        have m1 : gr ≠ gn := Nat.ne_of_lt hlr
        have m2 : gn ≠ gr := m1.symm
        have m3 : gm ≠ gn := Nat.ne_of_lt hlm
        have m4 : gn ≠ gm := m3.symm
        have m5 : gx ≠ gn := Nat.ne_of_lt hlx
        have m6 : gn ≠ gx := m5.symm
        clear hgn hlr hlm hlx
        obtain ⟨pKR, qKR, rKR⟩ := KR.out.cells
        obtain ⟨pKX, qKX, rKX⟩ := KX.out.cells
        obtain ⟨pKN, qKN, rKN⟩ := KN.out.cells
        go_wp2_with fail
        have hc := sright_any ro wd w15 HRR.out
        rw [HRI.out] at hc
        refine hc.mono ?_
        clear hc
        clear pKR qKR rKR pKX qKX rKX pKN qKN rKN
        rintro e w16 ⟨rfl, b5⟩
        replace KR := Lib.hid (KR.out.next b5)
        replace KM := Lib.hid (KM.out.next b5)
        replace KX := Lib.hid (KX.out.next b5)
        replace KN := Lib.hid (KN.out.next b5)
        replace B := Lib.hid (thn B.out b5)
        clear b5
        obtain ⟨pKR, qKR, rKR⟩ := KR.out.cells
        obtain ⟨pKX, qKX, rKX⟩ := KX.out.cells
        obtain ⟨pKN, qKN, rKN⟩ := KN.out.cells
        have fKR := KR.out.free
        go_upto_region 13 with fail
        clear pKR qKR rKR pKX qKX rKX pKN qKN rKN fKR
        have hgw : w16.grownBy (((w16.setCell ⟨gr, 0, none⟩ (.int .u16 ro.1)).setCell ⟨gr, 1, none⟩ (.int .u32 ro.2.1)).setCell ⟨gr, 2, none⟩ (.int .u64 ro.2.2)) (some gr) := grown_set3 _ _ _ _ _
        replace KM := Lib.hid (KM.out.grown hgw (by assumption))
        replace KX := Lib.hid (KX.out.grown hgw (by assumption))
        replace KN := Lib.hid (KN.out.grown hgw (by assumption))
        replace KR := Lib.hid (KR.out.store ro)
        replace B := Lib.hid (belowG B.out hgw B.out.size LR.out)
        clear hgw
        generalize ((w16.setCell ⟨gr, 0, none⟩ (.int .u16 ro.1)).setCell ⟨gr, 1, none⟩ (.int .u32 ro.2.1)).setCell ⟨gr, 2, none⟩ (.int .u64 ro.2.2) = w17 at *
        have HLQ := Lib.hid (fun q hq => OnceI.looks HO.out HW2.out HOK.out KM.out (by have h := HP2.out; first | omega | (simp only at h ⊢; omega)) q hq)
        have HLT : Hid (∀ q : Nat, (q : Int) ≤ ro.2.1 → (Instr.lookup MT (.map (some gm)) (.agg #[.int .u8 0, .int .u16 ro.1, .int .u32 ((q : Int) + 1)]) false).run Tryd.prog w17 = .ok (.int .i64 (if (q : Int) < ro.2.1 then 1 else 0)) w17) := fun q hq => HLQ.out q hq
        clear HLQ
        have HRn := Lib.hid (HO.out.row HW2.out)
        obtain ⟨s0, s1, s2, s3⟩ : 0 ≤ ro.1 ∧ ro.1 ≤ 65535 ∧ 0 ≤ ro.2.1 ∧ ro.2.1 ≤ 13000 := ⟨HRn.out.1.1, HRn.out.1.2, HRn.out.2.1.1, by have h := HP2.out; first | omega | (simp only at h ⊢; omega)⟩
        obtain ⟨pKR, qKR, rKR⟩ := KR.out.cells
        go_wp2
        clear pKR qKR rKR
        obtain ⟨wo, rfl⟩ : ∃ wo, wo = w17 := ⟨_, rfl⟩
        go_loopw [13] (fun nv wq => ∃ q : Nat, (q : Int) ≤ ro.2.1 ∧ nv = .int .u32 q ∧ wq = wo) (fun nv _ => (ro.2.1).toNat - (intOf nv).toNat)
        case atStart => exact ⟨0, by simpa using s2, rfl, rfl⟩
        case round =>
          obtain ⟨q, hq, rfl, rfl⟩ := hrel
          have hlk := HLT.out q hq
          have q0 : (0 : Int) ≤ (q : Int) := by omega
          have q1 : (q : Int) + 1 ≤ 13001 := by omega
          obtain ⟨pKR, qKR, rKR⟩ := KR.out.cells
          by_cases hql : (q : Int) < ro.2.1
          · rw [if_pos hql] at hlk
            go_wp2
            go_roundw
            case rel => exact ⟨q + 1, by omega, by go_num, by first | rfl | trivial⟩
            case measure => simp [intOf]; omega
          · rw [if_neg hql] at hlk
            have hqe : ro.2.1 = (q : Int) := by omega
            have hneq : (ro.2.1 == (q : Int)) = true := by simp only [beq_iff_eq]; exact hqe
            have HQE := Lib.hid hqe
            clear hqe hql
            by_cases hri : 0 < ro.1
            · skip
              go_wp2
              go_roundw
              case rel => exact ⟨j + 1, ro, N, by omega, by go_num, HO, HOK, HN2, HP2, KR, KM, B⟩
              case measure => simp [intOf]; omega
            · replace hri : ro.1 ≤ 0 := by omega
              go_wp2
              go_roundw
              case rel => exact ⟨j + 1, ro, N, by omega, by go_num, HO, HOK, HN2, HP2, KR, KM, B⟩
              case measure => simp [intOf]; omega
      | true =>
        have HMB := Lib.hid hmb
        obtain ⟨u1, u2, u3, u4, u5⟩ := HO.out.yes HWN.out HW1.out HW2.out HXR.out rfl hmb
        clear hmb
        have htk : takeI ro (0, y.2.1, y.2.2) = (y.2.1, (takeI ro (0, y.2.1, y.2.2)).2.1, (takeI ro (0, y.2.1, y.2.2)).2.2) := Prod.ext u4 rfl
        obtain ⟨tp, htp⟩ : ∃ tp, (takeI ro (0, y.2.1, y.2.2)).2.1 = tp := ⟨_, rfl⟩
        obtain ⟨tb, htb⟩ : ∃ tb, (takeI ro (0, y.2.1, y.2.2)).2.2 = tb := ⟨_, rfl⟩
        rw [htp, htb] at htk
        rw [htk] at u1
        rw [htp] at u5
        have HTK := Lib.hid htk
        have HO2 := Lib.hid u1
        have HNEW := Lib.hid u2
        have HOK2 := Lib.hid (okM_cons HOK.out HXR.out)
        have HN2 : Hid ((nM (0, y.2.1, y.2.2) :: N).length ≤ j + 1) := by have h := HN.out; unfold Hid; simp only [List.length_cons]; omega
        have HP2 : Hid (((y.2.1, tp, tb) : Row3).2.1 ≤ 64 * ((j + 1 : Nat) : Int)) := by have h := HP.out; unfold Hid; simp only; omega
        have HRN := Lib.hid (u1.row HW2.out)
        have HRIN := Lib.hid (u1.right HWN.out HW1.out HW2.out)
        have HTO1 := Lib.hid (u1.took HXR.out rfl wd rfl).1
        have HTO2 := Lib.hid (u1.took HXR.out rfl wd rfl).2
        have u6 : ro.1 ≤ y.2.1 := u3
        obtain ⟨_, ⟨v0, v1⟩, v2, v3⟩ := HRN.out
        simp only at v0 v1 v2 v3
        clear u1 u2 u3 u4 u5 htk htp htb
        go_upto_region 7 with fail
        clear c0 c1 c2
        have hlr := KR.out.lt
        have hlm := World.ownsMap.lt KM.out
        have hbs := B.out.size
        have hbl := below_lit wr (.cells #[.int .u8 y.1, .int .u16 y.2.1, .int .u32 y.2.2] 28)
        replace KR := Lib.hid (KR.out.next hbl)
        replace KM := Lib.hid (KM.out.next hbl)
        replace B := Lib.hid (thn B.out hbl)
        clear hbl
        have KX : Hid (IdBlk (wr.alloc (.cells #[.int .u8 y.1, .int .u16 y.2.1, .int .u32 y.2.2] 28)) wr.heap.size y) := IdBlk.new wr y
        generalize wr.alloc (.cells #[.int .u8 y.1, .int .u16 y.2.1, .int .u32 y.2.2] 28) = w11 at *
        obtain ⟨gx, hgx⟩ : ∃ g, wr.heap.size = g := ⟨_, rfl⟩
        rw [hgx] at KX hlr hlm hbs ⊢
        have x1 : gr ≠ gx := Nat.ne_of_lt hlr
        have x2 : gx ≠ gr := x1.symm
        have x3 : gm ≠ gx := Nat.ne_of_lt hlm
        have x4 : gx ≠ gm := x3.symm
        have LX : Hid (w.heap.size ≤ gx) := hbs
        clear hgx hlr hlm hbs
        obtain ⟨pKR, qKR, rKR⟩ := KR.out.cells
        obtain ⟨pKX, qKX, rKX⟩ := KX.out.cells
        have fKX := KX.out.free
        go_upto_region 8 with fail
        clear pKR qKR rKR pKX qKX rKX fKX
        have hgw : w11.grownBy (w11.setCell ⟨gx, 0, none⟩ (.int .u8 0)) (some gx) := grown_set _ _ _ _
        replace KR := Lib.hid (KR.out.grown hgw (by assumption))
        replace KM := Lib.hid (KM.out.grown hgw (by assumption))
        replace KX := Lib.hid (KX.out.put0 0)
        replace B := Lib.hid (belowG B.out hgw B.out.size LX.out)
        clear hgw
        generalize w11.setCell ⟨gx, 0, none⟩ (.int .u8 0) = w12 at *
        obtain ⟨pKR, qKR, rKR⟩ := KR.out.cells
        obtain ⟨pKX, qKX, rKX⟩ := KX.out.cells
        go_wp2_with fail
        have hc := may_any ro (0, y.2.1, y.2.2) wd w12 HRR.out HXR.out
        rw [HMB.out] at hc
        refine hc.mono ?_
        clear hc
        clear pKR qKR rKR pKX qKX rKX
        rintro e w13 ⟨rfl, b5⟩
        replace KR := Lib.hid (KR.out.next b5)
        replace KM := Lib.hid (KM.out.next b5)
        replace KX := Lib.hid (KX.out.next b5)
        replace B := Lib.hid (thn B.out b5)
        clear b5
        obtain ⟨pKR, qKR, rKR⟩ := KR.out.cells
        obtain ⟨pKX, qKX, rKX⟩ := KX.out.cells
        go_wp2_with fail
        have hc := take_yes ro (0, y.2.1, y.2.2) wd w13 HRR.out HXR.out HRI.out HMB.out (HT.out.next B.out)
        rw [HTK.out] at hc
        refine hc.mono ?_
        clear hc
        clear pKR qKR rKR pKX qKX rKX
        rintro e w14 ⟨rfl, b5⟩
        replace KR := Lib.hid (KR.out.next b5)
        replace KM := Lib.hid (KM.out.next b5)
        replace KX := Lib.hid (KX.out.next b5)
        replace B := Lib.hid (thn B.out b5)
        clear b5
        go_upto_region 10 with fail
        have hlr := KR.out.lt
        have hlm := World.ownsMap.lt KM.out
        have hlx := KX.out.lt
        have hbl := below_lit w14 (.cells #[.int .u16 y.2.1, .int .u32 tp, .int .u64 tb] 26)
        replace KR := Lib.hid (KR.out.next hbl)
        replace KM := Lib.hid (KM.out.next hbl)
        replace KX := Lib.hid (KX.out.next hbl)
        replace B := Lib.hid (thn B.out hbl)
        clear hbl
        have KN : Hid (RowBlk (w14.alloc (.cells #[.int .u16 y.2.1, .int .u32 tp, .int .u64 tb] 26)) w14.heap.size (y.2.1, tp, tb)) := RowBlk.new w14 (y.2.1, tp, tb)
        generalize w14.alloc (.cells #[.int .u16 y.2.1, .int .u32 tp, .int .u64 tb] 26) = w15 at *
        obtain ⟨gn, hgn⟩ : ∃ g, w14.heap.size = g := ⟨_, rfl⟩
        rw [hgn] at KN hlr hlm hlx ⊢
        have m1 : gr ≠ gn := Nat.ne_of_lt hlr
        have m2 : gn ≠ gr := m1.symm
        have m3 : gm ≠ gn := Nat.ne_of_lt hlm
        have m4 : gn ≠ gm := m3.symm
        have m5 : gx ≠ gn := Nat.ne_of_lt hlx
        have m6 : gn ≠ gx := m5.symm
        clear hgn hlr hlm hlx
        obtain ⟨pKR, qKR, rKR⟩ := KR.out.cells
        obtain ⟨pKX, qKX, rKX⟩ := KX.out.cells
        obtain ⟨pKN, qKN, rKN⟩ := KN.out.cells
        go_wp2_with fail
        have hc := sright_any (y.2.1, tp, tb) wd w15 HRN.out
        rw [HRIN.out] at hc
        refine hc.mono ?_
        clear hc
        clear pKR qKR rKR pKX qKX rKX pKN qKN rKN
        rintro e w16 ⟨rfl, b5⟩
        replace KR := Lib.hid (KR.out.next b5)
        replace KM := Lib.hid (KM.out.next b5)
        replace KX := Lib.hid (KX.out.next b5)
        replace KN := Lib.hid (KN.out.next b5)
        replace B := Lib.hid (thn B.out b5)
        clear b5
        obtain ⟨pKR, qKR, rKR⟩ := KR.out.cells
        obtain ⟨pKX, qKX, rKX⟩ := KX.out.cells
        obtain ⟨pKN, qKN, rKN⟩ := KN.out.cells
        have fKR := KR.out.free
        go_upto_region 13 with fail
        clear pKR qKR rKR pKX qKX rKX pKN qKN rKN fKR
        have hgw : w16.grownBy (((w16.setCell ⟨gr, 0, none⟩ (.int .u16 y.2.1)).setCell ⟨gr, 1, none⟩ (.int .u32 tp)).setCell ⟨gr, 2, none⟩ (.int .u64 tb)) (some gr) := grown_set3 _ _ _ _ _
        replace KM := Lib.hid (KM.out.grown hgw (by assumption))
        replace KX := Lib.hid (KX.out.grown hgw (by assumption))
        replace KN := Lib.hid (KN.out.grown hgw (by assumption))
        replace KR := Lib.hid (KR.out.store (y.2.1, tp, tb))
        replace B := Lib.hid (belowG B.out hgw B.out.size LR.out)
        clear hgw
        generalize ((w16.setCell ⟨gr, 0, none⟩ (.int .u16 y.2.1)).setCell ⟨gr, 1, none⟩ (.int .u32 tp)).setCell ⟨gr, 2, none⟩ (.int .u64 tb) = w17 at *
        obtain ⟨o0, o1, o2, st, hb0, BU⟩ := bump_states KM.out HOK.out HXR.out rfl HNEW.out (by have h := HN.out; unfold maxLen; omega)
        have HBU := Lib.hid BU
        have HB0 := Lib.hid hb0
        clear BU hb0
        have heg : Hid (gx ≠ gm) := x4
        go_wp2
        refine wp_region_typedR (R := BumpR gm o0 o1) 6 [(85, .val (.map (some gm))), (86, .val (.agg #[.int .u8 0, .int .u16 y.2.1, .int .u32 y.2.2])), (87, .val (.int .i64 0)), (88, .val (.int .i64 1)), (89, tySt gm o0 o1 st), (90, .val (.int .i64 (st : Int)))]
          [[], [], [85, 86], [87], [85, 86], [89]] (by kernel_rfl) (bump_lasts gm o0 o1) (by kernel_rfl) ?_ ?_
        · simp only [List.take_succ_cons, List.take_zero]
          refine ⟨?b0, ?b1, ?b2, ?b3, ?b4, ?b5, trivial⟩
          case b0 =>
            intro w9 hb
            refine overR_nil ?_
            go_wp2
            exact postR_of (by rfl) (by rfl) ((bump_lasts gm o0 o1).refl _) (by rfl)
          case b1 =>
            intro w9 hb
            refine overR_nil ?_
            obtain ⟨p0, q0, r0⟩ := (KX.out.grown hb.1 x4).cells
            go_wp2
            exact postR_of (by rfl) (by rfl) ((bump_lasts gm o0 o1).refl _) (by rfl)
          case b2 =>
            intro w9 hb
            refine overR_val rfl ?_
            refine overR_val rfl ?_
            refine overR_nil ?_
            have hk : (Instr.lookup MT (.map (some gm)) (.agg #[.int .u8 0, .int .u16 y.2.1, .int .u32 y.2.2]) false).run Tryd.prog w9 = .ok (.int .i64 0) w9 := (hb.2.1 HB0.out).elim (fun h => (HBU.out.at0 w9 h).1) (fun h => (HBU.out.at1 w9 h).1)
            go_wp2
            exact postR_of (by rfl) (by rfl) ((bump_lasts gm o0 o1).refl _) (by rfl)
          case b3 =>
            intro w9 hb
            refine overR_val rfl ?_
            refine overR_nil ?_
            go_wp2
            exact postR_of (by rfl) (by rfl) ((bump_lasts gm o0 o1).refl _) (by rfl)
          case b4 =>
            intro w9 hb
            refine overR_val rfl ?_
            refine overR_val rfl ?_
            refine overR_nil ?_
            rcases hb.2.1 HB0.out with h | h
            · obtain ⟨_, hk0, ho1, hgr⟩ := HBU.out.at0 w9 h
              have hk : (Instr.mapEntry MT (.map (some gm)) (.agg #[.int .u8 0, .int .u16 y.2.1, .int .u32 y.2.2])).run Tryd.prog w9 = .ok (.tuple #[.int .i64 0, .int .i64 (st : Int)]) (ChangeMaps.setBlock w9 gm o1) := hk0
              clear hk0
              have HO1 := Lib.hid ho1
              have HGR := Lib.hid hgr
              clear ho1 hgr h
              go_wp2
              exact postR_of (by rfl) (by rfl) ⟨HGR.out, fun _ => .inr HO1.out, fun _ => HO1.out⟩ (by exact ⟨rfl, HO1.out⟩)
            · obtain ⟨_, hk0, _⟩ := HBU.out.at1 w9 h
              have hk : (Instr.mapEntry MT (.map (some gm)) (.agg #[.int .u8 0, .int .u16 y.2.1, .int .u32 y.2.2])).run Tryd.prog w9 = .ok (.tuple #[.int .i64 0, .int .i64 (st : Int)]) w9 := hk0
              clear hk0
              have HH := Lib.hid h
              clear h
              go_wp2
              exact postR_of (by rfl) (by rfl) ((bump_lasts gm o0 o1).refl _) (by exact ⟨rfl, HH.out⟩)
          case b5 =>
            intro w9 hb
            refine overR_pred rfl ?_
            rintro _ ⟨rfl, h1⟩
            have HH := Lib.hid h1
            clear h1
            refine overR_nil ?_
            go_wp2
            exact postR_of (by rfl) (by rfl) ((bump_lasts gm o0 o1).refl _) (by rfl)
        · intro w9 hb
          refine overR_ds (ds := [85, 86, 87, 88, 89, 90]) (by kernel_rfl) ?_
          refine overR_val rfl ?_
          refine overR_val rfl ?_
          refine overR_val rfl ?_
          refine overR_val rfl ?_
          refine overR_pred rfl ?_
          rintro _ ⟨rfl, h1⟩
          refine overR_val rfl ?_
          refine overR_nil ?_
          simp only [put_lit, List.set_cons_succ, List.set_cons_zero, List.drop_succ_cons, List.drop_zero]
          obtain ⟨_, _, hst, hgr, hown⟩ := HBU.out.at1 w9 h1
          have HGB := Lib.hid (grown_trans hb.1 hgr)
          have HOW := Lib.hid hown
          clear h1 hgr hown hb HB0 HBU
          go_upto_region 15 with fail
          clear hst
          have LMs : Hid (w.heap.size ≤ w17.heap.size) := B.out.size
          replace KR := Lib.hid (KR.out.grown HGB.out n1)
          replace KX := Lib.hid (KX.out.grown HGB.out x4)
          replace KN := Lib.hid (KN.out.grown HGB.out m4)
          replace B := Lib.hid (belowG B.out HGB.out LMs.out LM.out)
          replace KM := HOW
          clear HGB HOW LMs
          generalize ChangeMaps.setBlock w9 gm o2 = w30 at *
          have hlk : (Instr.lookup MT (.map (some gm)) (.agg #[.int .u8 0, .int .u16 y.2.1, .int .u32 y.2.2]) false).run Tryd.prog w30 = .ok (.int .i64 1) w30 := by have h := KM.out.look HOK2.out HXR.out; rw [if_pos ⟨rfl, List.mem_cons_self⟩] at h; exact h
          obtain ⟨pKR, qKR, rKR⟩ := KR.out.cells
          obtain ⟨pKX, qKX, rKX⟩ := KX.out.cells
          obtain ⟨pKN, qKN, rKN⟩ := KN.out.cells
          go_wp2_with fail
          clear hlk
          have hc := shas_any (y.2.1, tp, tb) (0, y.2.1, y.2.2) w30 HRN.out HXR.out
          rw [HTO1.out] at hc
          refine hc.mono ?_
          clear hc
          clear pKR qKR rKR pKX qKX rKX pKN qKN rKN
          rintro e w31 ⟨rfl, b5⟩
          replace KR := Lib.hid (KR.out.next b5)
          replace KM := Lib.hid (KM.out.next b5)
          replace KX := Lib.hid (KX.out.next b5)
          replace KN := Lib.hid (KN.out.next b5)
          replace B := Lib.hid (thn B.out b5)
          clear b5
          obtain ⟨pKR, qKR, rKR⟩ := KR.out.cells
          obtain ⟨pKX, qKX, rKX⟩ := KX.out.cells
          obtain ⟨pKN, qKN, rKN⟩ := KN.out.cells
          go_wp2_with fail
          have hc := may_any (y.2.1, tp, tb) (0, y.2.1, y.2.2) wd w31 HRN.out HXR.out
          rw [HTO2.out] at hc
          refine hc.mono ?_
          clear hc
          clear pKR qKR rKR pKX qKX rKX pKN qKN rKN
          rintro e w32 ⟨rfl, b5⟩
          replace KR := Lib.hid (KR.out.next b5)
          replace KM := Lib.hid (KM.out.next b5)
          replace KX := Lib.hid (KX.out.next b5)
          replace KN := Lib.hid (KN.out.next b5)
          replace B := Lib.hid (thn B.out b5)
          clear b5
          have HLQ := Lib.hid (fun q hq => OnceI.looks HO2.out HW2.out HOK2.out KM.out (by have h := HP2.out; first | omega | (simp only at h ⊢; omega)) q hq)
          have HLT : Hid (∀ q : Nat, (q : Int) ≤ tp → (Instr.lookup MT (.map (some gm)) (.agg #[.int .u8 0, .int .u16 y.2.1, .int .u32 ((q : Int) + 1)]) false).run Tryd.prog w32 = .ok (.int .i64 (if (q : Int) < tp then 1 else 0)) w32) := fun q hq => HLQ.out q hq
          clear HLQ
          have HRn := Lib.hid (HO2.out.row HW2.out)
          obtain ⟨s0, s1, s2, s3⟩ : 0 ≤ y.2.1 ∧ y.2.1 ≤ 65535 ∧ 0 ≤ tp ∧ tp ≤ 13000 := ⟨HRn.out.1.1, HRn.out.1.2, HRn.out.2.1.1, by have h := HP2.out; first | omega | (simp only at h ⊢; omega)⟩
          obtain ⟨pKR, qKR, rKR⟩ := KR.out.cells
          go_wp2
          clear pKR qKR rKR
          obtain ⟨wo, rfl⟩ : ∃ wo, wo = w32 := ⟨_, rfl⟩
          go_loopw [13] (fun nv wq => ∃ q : Nat, (q : Int) ≤ tp ∧ nv = .int .u32 q ∧ wq = wo) (fun nv _ => (tp).toNat - (intOf nv).toNat)
          case atStart => exact ⟨0, by simpa using s2, rfl, rfl⟩
          case round =>
            obtain ⟨q, hq, rfl, rfl⟩ := hrel
            have hlk := HLT.out q hq
            have q0 : (0 : Int) ≤ (q : Int) := by omega
            have q1 : (q : Int) + 1 ≤ 13001 := by omega
            obtain ⟨pKR, qKR, rKR⟩ := KR.out.cells
            by_cases hql : (q : Int) < tp
            · rw [if_pos hql] at hlk
              go_wp2
              go_roundw
              case rel => exact ⟨q + 1, by omega, by go_num, by first | rfl | trivial⟩
              case measure => simp [intOf]; omega
            · rw [if_neg hql] at hlk
              have hqe : tp = (q : Int) := by omega
              have hneq : (tp == (q : Int)) = true := by simp only [beq_iff_eq]; exact hqe
              have HQE := Lib.hid hqe
              clear hqe hql
              by_cases hri : 0 < y.2.1
              · skip
                go_wp2
                go_roundw
                case rel => exact ⟨j + 1, (y.2.1, tp, tb), (nM (0, y.2.1, y.2.2) :: N), by omega, by go_num, HO2, HOK2, HN2, HP2, KR, KM, B⟩
                case measure => simp [intOf]; omega
              · replace hri : y.2.1 ≤ 0 := by omega
                go_wp2
                go_roundw
                case rel => exact ⟨j + 1, (y.2.1, tp, tb), (nM (0, y.2.1, y.2.2) :: N), by omega, by go_num, HO2, HOK2, HN2, HP2, KR, KM, B⟩
                case measure => simp [intOf]; omega
    · obtain rfl : j = m := by omega
      have hrl := KR.out.lt
      have hml := World.ownsMap.lt KM.out
      have hbs := B.out.size
      go_wp2_with (first
        | (at_range; refine wpList_range_own _ rfl _ 40 rfl 28 3 keyed mt IntE gm N.length (DM N) rfl KM.out ?_; intro w71 hrg0 hg0 hs0)
        | go_in)
      go_frame
      have KR2 := Lib.hid (KR.out.still hg0)
      have B2 := Lib.hid (B.out.grown hg0 hbs (by simp))
      obtain ⟨gt, hgt⟩ : ∃ g, wr.heap.size = g := ⟨_, rfl⟩
      rw [hgt] at hrg0 hrl hml hbs ⊢
      have t1 : gr ≠ gt := Nat.ne_of_lt hrl
      have t2 : gt ≠ gr := t1.symm
      have LT : Hid (w.heap.size ≤ gt) := hbs
      clear hg0 hs0 hgt hrl hml hbs KR B KM
      go_loopw [] (fun wq => ∃ (left : Lit → Bool) (cnt : Nat), wq.ranges Tryd.prog 28 IntE gm gt N.length (DM N) left cnt ∧ Hid (∀ k, left k = true → Go.Maps.has (DM N) k = true) ∧ Hid (RowBlk wq gr ro) ∧ Hid (Below w.heap.size w wq)) (fun wq => wq.rangeLeft gm gt)
      case atStart => exact ⟨_, _, hrg0, fun _ h => h, KR2, B2⟩
      case round =>
        clear KR2 B2
        obtain ⟨left, cnt, hrg, HLF, KR, B⟩ := hrel
        have HOLD := Lib.hid hrg.left_eq
        go_wp2_with (first
          | (at_next; refine wpList_next_ranges (α := Value) (β := Value) _ rfl _ rfl 28 keyed IntE id id (fun key kl _ => ⟨key, rfl⟩) (fun v y _ => ⟨v, rfl⟩) gm gt N.length (DM N) left cnt rfl hrg ?_ ?_)
          | go_in)
        · intro hc0 hl0
          clear hc0 hl0 hrg
          go_wp2_with fail
          refine (awake_any _ (HT.out.next B.out)).mono ?_
          rintro e w72 ⟨rfl, b5⟩
          have BB := Lib.hid (thn B.out b5)
          clear b5
          go_wp2
          go_ret
          exact ⟨rfl, BB.out⟩
        · intro key cv kk yv pv w73 cnt1 hkey hlk hRv hat hrg1 hlt hg1 hs1 hen
          obtain ⟨mm, hmm, rfl⟩ := DM_has HOK.out (HLF.out kk hlk)
          obtain rfl : key = (.agg #[.int .u8 0, .int .u16 (mm.1 : Int), .int .u32 (mm.2 : Int)]) := klaw.inj hkey (kl_key (idM_R (HOK.out mm hmm)))
          have hmr := HOK.out mm hmm
          have HX3 : Hid (idR (0, (mm.1 : Int), (mm.2 : Int))) := idM_R hmr
          have HHAS : Hid (hasI ro (0, (mm.1 : Int), (mm.2 : Int)) = decide ((mm.1 : Int) = ro.1)) := (HO.out.last hmm wd).1
          have HMAY : Hid (mayI ro (0, (mm.1 : Int), (mm.2 : Int)) wd = false) := (HO.out.last hmm wd).2
          have HG := Lib.hid (RG.mk hrg1)
          have HLT := Lib.hid hlt
          have HRR := Lib.hid (HO.out.row HW2.out)
          have HLF2 : Hid (∀ k, (left k && !k.sameKey (kl (idM mm))) = true → Go.Maps.has (DM N) k = true) := fun k hk => HLF.out k (by simp only [Bool.and_eq_true] at hk; exact hk.1)
          replace KR := Lib.hid (KR.out.grown hg1 t1)
          replace B := Lib.hid (B.out.grown hg1 B.out.size (fun q hq => by injection hq with hq; subst hq; exact LT.out))
      
          clear hkey hlk hRv hat hrg1 hlt hg1 hs1 hrg hmm hmr
          go_upto_region 26 with fail
          clear hen
          have hrl := KR.out.lt
          have hbl := below_lit w73 (.cells #[.int .u8 0, .int .u16 (mm.1 : Int), .int .u32 (mm.2 : Int)] 28)
          replace KR := Lib.hid (KR.out.next hbl)
          replace HG := Lib.hid (HG.out.next hbl)
          replace B := Lib.hid (thn B.out hbl)
          clear hbl
          have KX : Hid (IdBlk (w73.alloc (.cells #[.int .u8 0, .int .u16 (mm.1 : Int), .int .u32 (mm.2 : Int)] 28)) w73.heap.size (0, (mm.1 : Int), (mm.2 : Int))) := IdBlk.new w73 (0, (mm.1 : Int), (mm.2 : Int))
          generalize w73.alloc (.cells #[.int .u8 0, .int .u16 (mm.1 : Int), .int .u32 (mm.2 : Int)] 28) = w74 at *
          obtain ⟨gx, hgx⟩ : ∃ g, w73.heap.size = g := ⟨_, rfl⟩
          rw [hgx] at KX hrl ⊢
          have x1 : gr ≠ gx := Nat.ne_of_lt hrl
          have x2 : gx ≠ gr := x1.symm
          clear hgx hrl
          by_cases he : (mm.1 : Int) = ro.1
          · have HQ : Hid (decide ((mm.1 : Int) = ro.1) = true) := decide_eq_true he
            rw [HQ.out] at HHAS
            have heb : ((mm.1 : Int) == ro.1) = true := by simpa using he
            clear he HQ
            go_wp2
            refine wp_region_typed 15 [(133, .val (.agg #[.int .u16 ro.1, .int .u32 ro.2.1, .int .u64 ro.2.2])), (134, .val (.agg #[.int .u8 (0, (mm.1 : Int), (mm.2 : Int)).1, .int .u16 (0, (mm.1 : Int), (mm.2 : Int)).2.1, .int .u32 (0, (mm.1 : Int), (mm.2 : Int)).2.2])), (135, .val (.bool true)), (136, .val (.pointer (some ⟨gx, 1, none⟩))), (137, .val (.int .u16 (0, (mm.1 : Int), (mm.2 : Int)).2.1)), (138, .val (.pointer (some ⟨gr, 0, none⟩))), (139, .val (.int .u16 ro.1)), (140, .val (.bool true)), (141, .val (.bool false)), (142, .val (.bool false)), (143, .val (.agg #[.int .u16 ro.1, .int .u32 ro.2.1, .int .u64 ro.2.2])), (144, .val (.agg #[.int .u8 (0, (mm.1 : Int), (mm.2 : Int)).1, .int .u16 (0, (mm.1 : Int), (mm.2 : Int)).2.1, .int .u32 (0, (mm.1 : Int), (mm.2 : Int)).2.2])), (145, .val (.int .i64 wd)), (146, .val (.bool false)), (147, .val (.bool false))]
              [[], [], [133, 134], [], [136], [], [138], [137, 139], [135, 140], [141], [142], [142], [142], [142, 143, 144, 145], [142, 146]] (by kernel_rfl) (by kernel_rfl) ?_ ?_
            rotate_left
            · intro v76 hb
              simp only [List.take_succ_cons, List.take_zero, List.drop_succ_cons, List.drop_zero]
              refine over_ds (ds := [133, 134, 135, 136, 137, 138, 139, 140, 141, 142, 143, 144, 145, 146, 147]) (by kernel_rfl) ?_
              refine over_some (ds1 := [133, 134, 135, 136, 137, 138, 139, 140, 141, 142, 143, 144, 145, 146, 147]) (ds2 := []) [(.agg #[.int .u16 ro.1, .int .u32 ro.2.1, .int .u64 ro.2.2]), (.agg #[.int .u8 (0, (mm.1 : Int), (mm.2 : Int)).1, .int .u16 (0, (mm.1 : Int), (mm.2 : Int)).2.1, .int .u32 (0, (mm.1 : Int), (mm.2 : Int)).2.2]), (.bool true), (.pointer (some ⟨gx, 1, none⟩)), (.int .u16 (0, (mm.1 : Int), (mm.2 : Int)).2.1), (.pointer (some ⟨gr, 0, none⟩)), (.int .u16 ro.1), (.bool true), (.bool false), (.bool false), (.agg #[.int .u16 ro.1, .int .u32 ro.2.1, .int .u64 ro.2.2]), (.agg #[.int .u8 (0, (mm.1 : Int), (mm.2 : Int)).1, .int .u16 (0, (mm.1 : Int), (mm.2 : Int)).2.1, .int .u32 (0, (mm.1 : Int), (mm.2 : Int)).2.2]), (.int .i64 wd), (.bool false), (.bool false)] (by kernel_rfl) ?_
              refine over_nil ?_
              simp only [putAll, put_lit, List.set_cons_succ, List.set_cons_zero]
              replace KR := Lib.hid (KR.out.next hb)
              replace HG := Lib.hid (HG.out.next hb)
              replace KX := Lib.hid (KX.out.next hb)
              replace B := Lib.hid (thn B.out hb)
              clear hb
              go_wp2
              go_roundw
              case rel => exact ⟨_, cnt1, HG.out.rg, HLF2, KR, B⟩
              case measure => rw [HG.out.rg.left_eq, HOLD.out]; exact HLT.out
            simp only [List.take_succ_cons, List.take_zero]
            refine ⟨?r26g0, ?r26g1, ?r26g2, ?r26g3, ?r26g4, ?r26g5, ?r26g6, ?r26g7, ?r26g8, ?r26g9, ?r26g10, ?r26g11, ?r26g12, ?r26g13, ?r26g14, trivial⟩
            case r26g0 =>
              intro w9 hb
              refine over_nil ?_
              obtain ⟨p0, q0, r0⟩ := (KR.out.next hb).cells
              go_wp2
              first | exact post_of (by rfl) (by rfl) (Below.refl _ _) (by rfl) | exact rfl
            case r26g1 =>
              intro w9 hb
              refine over_nil ?_
              obtain ⟨p0, q0, r0⟩ := (KX.out.next hb).cells
              go_wp2
              first | exact post_of (by rfl) (by rfl) (Below.refl _ _) (by rfl) | exact rfl
            case r26g2 =>
              intro w9 hb
              refine over_some (ds1 := [133, 134]) (ds2 := []) [(.agg #[.int .u16 ro.1, .int .u32 ro.2.1, .int .u64 ro.2.2]), (.agg #[.int .u8 (0, (mm.1 : Int), (mm.2 : Int)).1, .int .u16 (0, (mm.1 : Int), (mm.2 : Int)).2.1, .int .u32 (0, (mm.1 : Int), (mm.2 : Int)).2.2])] (by kernel_rfl) ?_
              refine over_nil ?_
              simp only [putAll, put_lit, List.set_cons_succ, List.set_cons_zero]
              go_wp2_with fail
              have hc2 := shas_any ro (0, (mm.1 : Int), (mm.2 : Int)) w9 HRR.out HX3.out
              rw [HHAS.out] at hc2
              refine hc2.mono ?_
              clear hc2
              rintro e w8 ⟨rfl, b6⟩
              go_wp2
              exact post_of (by rfl) (by rfl) b6 (by rfl)
            case r26g3 =>
              intro w9 hb
              refine over_nil ?_
              go_wp2
              first | exact post_of (by rfl) (by rfl) (Below.refl _ _) (by rfl) | exact rfl
            case r26g4 =>
              intro w9 hb
              refine over_some (ds1 := [136]) (ds2 := []) [(.pointer (some ⟨gx, 1, none⟩))] (by kernel_rfl) ?_
              refine over_nil ?_
              simp only [putAll, put_lit, List.set_cons_succ, List.set_cons_zero]
              obtain ⟨p0, q0, r0⟩ := (KX.out.next hb).cells
              go_wp2
              first | exact post_of (by rfl) (by rfl) (Below.refl _ _) (by rfl) | exact rfl
            case r26g5 =>
              intro w9 hb
              refine over_nil ?_
              go_wp2
              first | exact post_of (by rfl) (by rfl) (Below.refl _ _) (by rfl) | exact rfl
            case r26g6 =>
              intro w9 hb
              refine over_some (ds1 := [138]) (ds2 := []) [(.pointer (some ⟨gr, 0, none⟩))] (by kernel_rfl) ?_
              refine over_nil ?_
              simp only [putAll, put_lit, List.set_cons_succ, List.set_cons_zero]
              obtain ⟨p0, q0, r0⟩ := (KR.out.next hb).cells
              go_wp2
              first | exact post_of (by rfl) (by rfl) (Below.refl _ _) (by rfl) | exact rfl
            case r26g7 =>
              intro w9 hb
              refine over_some (ds1 := [137, 139]) (ds2 := []) [(.int .u16 (0, (mm.1 : Int), (mm.2 : Int)).2.1), (.int .u16 ro.1)] (by kernel_rfl) ?_
              refine over_nil ?_
              simp only [putAll, put_lit, List.set_cons_succ, List.set_cons_zero]
              go_wp2
              exact post_of (by rfl) (by rfl) (Below.refl _ _) (by first | rfl | (show Value.bool _ = Value.bool _; rw [Value.bool.injEq]; first | exact decide_eq_true (by omega) | exact decide_eq_false (by omega) | assumption | (simp; omega)))
            case r26g8 =>
              intro w9 hb
              refine over_some (ds1 := [135, 140]) (ds2 := []) [(.bool true), (.bool true)] (by kernel_rfl) ?_
              refine over_nil ?_
              simp only [putAll, put_lit, List.set_cons_succ, List.set_cons_zero]
              go_wp2
              exact post_of (by rfl) (by rfl) (Below.refl _ _) (by first | rfl | (show Value.bool _ = Value.bool _; rw [Value.bool.injEq]; first | exact decide_eq_true (by omega) | exact decide_eq_false (by omega) | assumption | (simp; omega)))
            case r26g9 =>
              intro w9 hb
              refine over_some (ds1 := [141]) (ds2 := []) [(.bool false)] (by kernel_rfl) ?_
              refine over_nil ?_
              simp only [putAll, put_lit, List.set_cons_succ, List.set_cons_zero]
              go_wp2
              first | exact post_of (by rfl) (by rfl) (Below.refl _ _) (by rfl) | exact rfl
            case r26g10 =>
              intro w9 hb
              refine over_some (ds1 := [142]) (ds2 := []) [(.bool false)] (by kernel_rfl) ?_
              refine over_nil ?_
              simp only [putAll, put_lit, List.set_cons_succ, List.set_cons_zero]
              obtain ⟨p0, q0, r0⟩ := (KR.out.next hb).cells
              go_wp2
              first | exact post_of (by rfl) (by rfl) (Below.refl _ _) (by rfl) | exact rfl
            case r26g11 =>
              intro w9 hb
              refine over_some (ds1 := [142]) (ds2 := []) [(.bool false)] (by kernel_rfl) ?_
              refine over_nil ?_
              simp only [putAll, put_lit, List.set_cons_succ, List.set_cons_zero]
              obtain ⟨p0, q0, r0⟩ := (KX.out.next hb).cells
              go_wp2
              first | exact post_of (by rfl) (by rfl) (Below.refl _ _) (by rfl) | exact rfl
            case r26g12 =>
              intro w9 hb
              refine over_some (ds1 := [142]) (ds2 := []) [(.bool false)] (by kernel_rfl) ?_
              refine over_nil ?_
              simp only [putAll, put_lit, List.set_cons_succ, List.set_cons_zero]
              go_wp2
              first | exact post_of (by rfl) (by rfl) (Below.refl _ _) (by rfl) | exact rfl
            case r26g13 =>
              intro w9 hb
              refine over_some (ds1 := [142, 143, 144, 145]) (ds2 := []) [(.bool false), (.agg #[.int .u16 ro.1, .int .u32 ro.2.1, .int .u64 ro.2.2]), (.agg #[.int .u8 (0, (mm.1 : Int), (mm.2 : Int)).1, .int .u16 (0, (mm.1 : Int), (mm.2 : Int)).2.1, .int .u32 (0, (mm.1 : Int), (mm.2 : Int)).2.2]), (.int .i64 wd)] (by kernel_rfl) ?_
              refine over_nil ?_
              simp only [putAll, put_lit, List.set_cons_succ, List.set_cons_zero]
              go_wp2_with fail
              have hc2 := may_any ro (0, (mm.1 : Int), (mm.2 : Int)) wd w9 HRR.out HX3.out
              rw [HMAY.out] at hc2
              refine hc2.mono ?_
              clear hc2
              rintro e w8 ⟨rfl, b6⟩
              go_wp2
              exact post_of (by rfl) (by rfl) b6 (by rfl)
            case r26g14 =>
              intro w9 hb
              refine over_some (ds1 := [142, 146]) (ds2 := []) [(.bool false), (.bool false)] (by kernel_rfl) ?_
              refine over_nil ?_
              simp only [putAll, put_lit, List.set_cons_succ, List.set_cons_zero]
              go_wp2
              first | exact post_of (by rfl) (by rfl) (Below.refl _ _) (by rfl) | exact rfl
          · have HQ : Hid (decide ((mm.1 : Int) = ro.1) = false) := decide_eq_false he
            rw [HQ.out] at HHAS
            have heb : ((mm.1 : Int) == ro.1) = false := by simpa using he
            clear he HQ
            go_wp2
            refine wp_region_typed 15 [(133, .val (.agg #[.int .u16 ro.1, .int .u32 ro.2.1, .int .u64 ro.2.2])), (134, .val (.agg #[.int .u8 (0, (mm.1 : Int), (mm.2 : Int)).1, .int .u16 (0, (mm.1 : Int), (mm.2 : Int)).2.1, .int .u32 (0, (mm.1 : Int), (mm.2 : Int)).2.2])), (135, .val (.bool false)), (136, .val (.pointer (some ⟨gx, 1, none⟩))), (137, .val (.int .u16 (0, (mm.1 : Int), (mm.2 : Int)).2.1)), (138, .val (.pointer (some ⟨gr, 0, none⟩))), (139, .val (.int .u16 ro.1)), (140, .val (.bool false)), (141, .val (.bool false)), (142, .val (.bool false)), (143, .val (.agg #[.int .u16 ro.1, .int .u32 ro.2.1, .int .u64 ro.2.2])), (144, .val (.agg #[.int .u8 (0, (mm.1 : Int), (mm.2 : Int)).1, .int .u16 (0, (mm.1 : Int), (mm.2 : Int)).2.1, .int .u32 (0, (mm.1 : Int), (mm.2 : Int)).2.2])), (145, .val (.int .i64 wd)), (146, .val (.bool false)), (147, .val (.bool false))]
              [[], [], [133, 134], [], [136], [], [138], [137, 139], [135, 140], [141], [142], [142], [142], [142, 143, 144, 145], [142, 146]] (by kernel_rfl) (by kernel_rfl) ?_ ?_
            rotate_left
            · intro v76 hb
              simp only [List.take_succ_cons, List.take_zero, List.drop_succ_cons, List.drop_zero]
              refine over_ds (ds := [133, 134, 135, 136, 137, 138, 139, 140, 141, 142, 143, 144, 145, 146, 147]) (by kernel_rfl) ?_
              refine over_some (ds1 := [133, 134, 135, 136, 137, 138, 139, 140, 141, 142, 143, 144, 145, 146, 147]) (ds2 := []) [(.agg #[.int .u16 ro.1, .int .u32 ro.2.1, .int .u64 ro.2.2]), (.agg #[.int .u8 (0, (mm.1 : Int), (mm.2 : Int)).1, .int .u16 (0, (mm.1 : Int), (mm.2 : Int)).2.1, .int .u32 (0, (mm.1 : Int), (mm.2 : Int)).2.2]), (.bool false), (.pointer (some ⟨gx, 1, none⟩)), (.int .u16 (0, (mm.1 : Int), (mm.2 : Int)).2.1), (.pointer (some ⟨gr, 0, none⟩)), (.int .u16 ro.1), (.bool false), (.bool false), (.bool false), (.agg #[.int .u16 ro.1, .int .u32 ro.2.1, .int .u64 ro.2.2]), (.agg #[.int .u8 (0, (mm.1 : Int), (mm.2 : Int)).1, .int .u16 (0, (mm.1 : Int), (mm.2 : Int)).2.1, .int .u32 (0, (mm.1 : Int), (mm.2 : Int)).2.2]), (.int .i64 wd), (.bool false), (.bool false)] (by kernel_rfl) ?_
              refine over_nil ?_
              simp only [putAll, put_lit, List.set_cons_succ, List.set_cons_zero]
              replace KR := Lib.hid (KR.out.next hb)
              replace HG := Lib.hid (HG.out.next hb)
              replace KX := Lib.hid (KX.out.next hb)
              replace B := Lib.hid (thn B.out hb)
              clear hb
              go_wp2
              go_roundw
              case rel => exact ⟨_, cnt1, HG.out.rg, HLF2, KR, B⟩
              case measure => rw [HG.out.rg.left_eq, HOLD.out]; exact HLT.out
            simp only [List.take_succ_cons, List.take_zero]
            refine ⟨?r26g0, ?r26g1, ?r26g2, ?r26g3, ?r26g4, ?r26g5, ?r26g6, ?r26g7, ?r26g8, ?r26g9, ?r26g10, ?r26g11, ?r26g12, ?r26g13, ?r26g14, trivial⟩
            case r26g0 =>
              intro w9 hb
              refine over_nil ?_
              obtain ⟨p0, q0, r0⟩ := (KR.out.next hb).cells
              go_wp2
              first | exact post_of (by rfl) (by rfl) (Below.refl _ _) (by rfl) | exact rfl
            case r26g1 =>
              intro w9 hb
              refine over_nil ?_
              obtain ⟨p0, q0, r0⟩ := (KX.out.next hb).cells
              go_wp2
              first | exact post_of (by rfl) (by rfl) (Below.refl _ _) (by rfl) | exact rfl
            case r26g2 =>
              intro w9 hb
              refine over_some (ds1 := [133, 134]) (ds2 := []) [(.agg #[.int .u16 ro.1, .int .u32 ro.2.1, .int .u64 ro.2.2]), (.agg #[.int .u8 (0, (mm.1 : Int), (mm.2 : Int)).1, .int .u16 (0, (mm.1 : Int), (mm.2 : Int)).2.1, .int .u32 (0, (mm.1 : Int), (mm.2 : Int)).2.2])] (by kernel_rfl) ?_
              refine over_nil ?_
              simp only [putAll, put_lit, List.set_cons_succ, List.set_cons_zero]
              go_wp2_with fail
              have hc2 := shas_any ro (0, (mm.1 : Int), (mm.2 : Int)) w9 HRR.out HX3.out
              rw [HHAS.out] at hc2
              refine hc2.mono ?_
              clear hc2
              rintro e w8 ⟨rfl, b6⟩
              go_wp2
              exact post_of (by rfl) (by rfl) b6 (by rfl)
            case r26g3 =>
              intro w9 hb
              refine over_nil ?_
              go_wp2
              first | exact post_of (by rfl) (by rfl) (Below.refl _ _) (by rfl) | exact rfl
            case r26g4 =>
              intro w9 hb
              refine over_some (ds1 := [136]) (ds2 := []) [(.pointer (some ⟨gx, 1, none⟩))] (by kernel_rfl) ?_
              refine over_nil ?_
              simp only [putAll, put_lit, List.set_cons_succ, List.set_cons_zero]
              obtain ⟨p0, q0, r0⟩ := (KX.out.next hb).cells
              go_wp2
              first | exact post_of (by rfl) (by rfl) (Below.refl _ _) (by rfl) | exact rfl
            case r26g5 =>
              intro w9 hb
              refine over_nil ?_
              go_wp2
              first | exact post_of (by rfl) (by rfl) (Below.refl _ _) (by rfl) | exact rfl
            case r26g6 =>
              intro w9 hb
              refine over_some (ds1 := [138]) (ds2 := []) [(.pointer (some ⟨gr, 0, none⟩))] (by kernel_rfl) ?_
              refine over_nil ?_
              simp only [putAll, put_lit, List.set_cons_succ, List.set_cons_zero]
              obtain ⟨p0, q0, r0⟩ := (KR.out.next hb).cells
              go_wp2
              first | exact post_of (by rfl) (by rfl) (Below.refl _ _) (by rfl) | exact rfl
            case r26g7 =>
              intro w9 hb
              refine over_some (ds1 := [137, 139]) (ds2 := []) [(.int .u16 (0, (mm.1 : Int), (mm.2 : Int)).2.1), (.int .u16 ro.1)] (by kernel_rfl) ?_
              refine over_nil ?_
              simp only [putAll, put_lit, List.set_cons_succ, List.set_cons_zero]
              go_wp2
              exact post_of (by rfl) (by rfl) (Below.refl _ _) (by first | rfl | (show Value.bool _ = Value.bool _; rw [Value.bool.injEq]; first | exact decide_eq_true (by omega) | exact decide_eq_false (by omega) | assumption | (simp; omega)))
            case r26g8 =>
              intro w9 hb
              refine over_some (ds1 := [135, 140]) (ds2 := []) [(.bool false), (.bool false)] (by kernel_rfl) ?_
              refine over_nil ?_
              simp only [putAll, put_lit, List.set_cons_succ, List.set_cons_zero]
              go_wp2
              exact post_of (by rfl) (by rfl) (Below.refl _ _) (by first | rfl | (show Value.bool _ = Value.bool _; rw [Value.bool.injEq]; first | exact decide_eq_true (by omega) | exact decide_eq_false (by omega) | assumption | (simp; omega)))
            case r26g9 =>
              intro w9 hb
              refine over_some (ds1 := [141]) (ds2 := []) [(.bool false)] (by kernel_rfl) ?_
              refine over_nil ?_
              simp only [putAll, put_lit, List.set_cons_succ, List.set_cons_zero]
              go_wp2
              first | exact post_of (by rfl) (by rfl) (Below.refl _ _) (by rfl) | exact rfl
            case r26g10 =>
              intro w9 hb
              refine over_some (ds1 := [142]) (ds2 := []) [(.bool false)] (by kernel_rfl) ?_
              refine over_nil ?_
              simp only [putAll, put_lit, List.set_cons_succ, List.set_cons_zero]
              obtain ⟨p0, q0, r0⟩ := (KR.out.next hb).cells
              go_wp2
              first | exact post_of (by rfl) (by rfl) (Below.refl _ _) (by rfl) | exact rfl
            case r26g11 =>
              intro w9 hb
              refine over_some (ds1 := [142]) (ds2 := []) [(.bool false)] (by kernel_rfl) ?_
              refine over_nil ?_
              simp only [putAll, put_lit, List.set_cons_succ, List.set_cons_zero]
              obtain ⟨p0, q0, r0⟩ := (KX.out.next hb).cells
              go_wp2
              first | exact post_of (by rfl) (by rfl) (Below.refl _ _) (by rfl) | exact rfl
            case r26g12 =>
              intro w9 hb
              refine over_some (ds1 := [142]) (ds2 := []) [(.bool false)] (by kernel_rfl) ?_
              refine over_nil ?_
              simp only [putAll, put_lit, List.set_cons_succ, List.set_cons_zero]
              go_wp2
              first | exact post_of (by rfl) (by rfl) (Below.refl _ _) (by rfl) | exact rfl
            case r26g13 =>
              intro w9 hb
              refine over_some (ds1 := [142, 143, 144, 145]) (ds2 := []) [(.bool false), (.agg #[.int .u16 ro.1, .int .u32 ro.2.1, .int .u64 ro.2.2]), (.agg #[.int .u8 (0, (mm.1 : Int), (mm.2 : Int)).1, .int .u16 (0, (mm.1 : Int), (mm.2 : Int)).2.1, .int .u32 (0, (mm.1 : Int), (mm.2 : Int)).2.2]), (.int .i64 wd)] (by kernel_rfl) ?_
              refine over_nil ?_
              simp only [putAll, put_lit, List.set_cons_succ, List.set_cons_zero]
              go_wp2_with fail
              have hc2 := may_any ro (0, (mm.1 : Int), (mm.2 : Int)) wd w9 HRR.out HX3.out
              rw [HMAY.out] at hc2
              refine hc2.mono ?_
              clear hc2
              rintro e w8 ⟨rfl, b6⟩
              go_wp2
              exact post_of (by rfl) (by rfl) b6 (by rfl)
            case r26g14 =>
              intro w9 hb
              refine over_some (ds1 := [142, 146]) (ds2 := []) [(.bool false), (.bool false)] (by kernel_rfl) ?_
              refine over_nil ?_
              simp only [putAll, put_lit, List.set_cons_succ, List.set_cons_zero]
              go_wp2
              first | exact post_of (by rfl) (by rfl) (Below.refl _ _) (by rfl) | exact rfl
end Go.Proofs.YtkdlgejkgcojkaaDoor
