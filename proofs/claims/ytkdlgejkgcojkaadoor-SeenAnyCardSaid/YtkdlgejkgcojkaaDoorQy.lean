/- Layer 8: the closure of SeenAny. -/
import Derived.Test.YtkdlgejkgcojkaaDoorQa
namespace Go.Proofs.YtkdlgejkgcojkaaDoor
open Go.RowKit
set_option linter.unusedVariables false
theorem zeros2 (w : World) : Hid (RowBlk ((w.alloc (.cells #[.int .u16 0, .int .u32 0, .int .u64 0] 26)).alloc (.cells #[.int .u16 0, .int .u32 0, .int .u64 0] 26)) w.heap.size (0, 0, 0)) ∧ Hid (RowBlk ((w.alloc (.cells #[.int .u16 0, .int .u32 0, .int .u64 0] 26)).alloc (.cells #[.int .u16 0, .int .u32 0, .int .u64 0] 26)) (w.heap.size + 1) (0, 0, 0)) ∧ Hid (Below w.heap.size w ((w.alloc (.cells #[.int .u16 0, .int .u32 0, .int .u64 0] 26)).alloc (.cells #[.int .u16 0, .int .u32 0, .int .u64 0] 26))) := by
  unfold Hid
  refine ⟨(RowBlk.new w (0, 0, 0)).next (below_lit _ _), ?_, thn (below_lit _ _) (below_lit _ _)⟩
  have := RowBlk.new (w.alloc (.cells #[.int .u16 0, .int .u32 0, .int .u64 0] 26)) (0, 0, 0); simpa using this
set_option maxRecDepth 100000 in
set_option maxHeartbeats 8000000 in
theorem taken_any (inc wd : Int) (wn gi gw : Nat) (A : Option Addr) (n c : Nat) (M : List Nat) (w : World) (hi : 1 ≤ inc ∧ inc ≤ 65535) (hw1 : 1 ≤ wn) (hw : wn ≤ 64) (hwd : wd = (wn : Int))
    (hI : OneB w gi (.int .u16 inc) 22) (hW : OneB w gw (.int .i64 wd) 3) (hT : Tab w) (hF : Fine wn M) (h : Sm w w.heap.size A n c M) :
    Calls Tryd.prog 20 #[.slice A n c, .pointer (some ⟨gi, 0, none⟩), .pointer (some ⟨gw, 0, none⟩)] w fun e w' => e = .returned (.tuple #[(.agg #[.int .u16 (rowT inc M).1, .int .u32 (rowT inc M).2.1, .int .u64 (rowT inc M).2.2]), .bool true]) ∧ Below w.heap.size w w' := by
  have HL : Hid (n = M.length) := sm_len h
  have hm := h.max
  have hc := h.cap
  unfold maxLen at hm
  have HS := Lib.hid h
  have HI := Lib.hid hI
  have HW := Lib.hid hW
  have HT := Lib.hid hT
  have HF := Lib.hid hF
  have HA := Lib.hid hi
  have HB1 := Lib.hid hw1
  have HB2 := Lib.hid hw
  have HB3 := Lib.hid hwd
  obtain ⟨KA, KR, B⟩ := zeros2 w
  clear h hI hW hT hF hi hw1 hw hwd
  go_enter Tryd.func20, Tryd.ntmps20
  go_upto_region 2 with fail
  generalize (w.alloc (.cells #[.int .u16 0, .int .u32 0, .int .u64 0] 26)).alloc (.cells #[.int .u16 0, .int .u32 0, .int .u64 0] 26) = w1 at *
  obtain ⟨ga, hga⟩ : ∃ g, w.heap.size = g := ⟨_, rfl⟩
  rw [hga] at KA KR ⊢
  obtain ⟨gr, hgr⟩ : ∃ g, ga + 1 = g := ⟨_, rfl⟩
  rw [hgr] at KR ⊢
  have n1 : ga ≠ gr := by omega
  have n2 : gr ≠ ga := n1.symm
  have HGA := Lib.hid hga
  have LR : Hid (w.heap.size ≤ gr) := by unfold Hid; omega
  have LA : Hid (w.heap.size ≤ ga) := by unfold Hid; omega
  clear hga hgr
  go_wp2
  go_loopw [7, 15] (fun a i wr => ∃ j : Nat, j ≤ n ∧ a = .bool true ∧ i = .int .i64 j ∧ Hid (RowBlk wr gr (rowT inc (M.take j))) ∧ Hid (RowBlk wr ga (0, 0, 0)) ∧ Hid (Below w.heap.size w wr)) (fun _ i _ => n - (intOf i).toNat)
  case atStart => exact ⟨0, Nat.zero_le _, rfl, rfl, KR, KA, B⟩
  case round =>
    clear KR KA B
    obtain ⟨j, hj, rfl, rfl, KR, KA, B⟩ := hrel
    have i0 : (0 : Int) ≤ (j : Int) := by omega
    by_cases hlt : j < n
    · have i1 : (j : Int) < (n : Int) := by omega
      obtain ⟨b, off, x, rfl, hb, hx, e0⟩ := sm_at (HS.out.next B.out) hlt
      obtain ⟨t1, t2, t3, t4, t5⟩ := taken_step (inc := inc) (j := j) HB2.out HB3.out HB1.out HA.out HF.out hx
      obtain ⟨ro, HRO⟩ : ∃ r, Hid (rowT inc (M.take j) = r) := ⟨_, rfl⟩
      obtain ⟨rn, HRN⟩ : ∃ r, Hid (rowT inc (M.take (j + 1)) = r) := ⟨_, rfl⟩
      rw [HRO.out] at t1 t3 t4 t5 KR
      rw [HRN.out] at t5
      have hcall := take_yes ro (0, inc, (x : Int)) wd wr t1 t2 t3 t4 (HT.out.next B.out)
      rw [t5] at hcall
      have ci := (HI.out.next B.out).cell
      have cw := (HW.out.next B.out).cell
      clear t1 t2 t3 t4 t5 hx hb
      obtain ⟨pKR, qKR, rKR⟩ := KR.out.cells
      go_wp2_with fail
      refine hcall.mono ?_
      clear hcall
      clear pKR qKR rKR
      clear ci cw e0
      rintro e w51 ⟨rfl, b5⟩
      replace KR := Lib.hid (KR.out.next b5)
      replace KA := Lib.hid (KA.out.next b5)
      replace B := Lib.hid (thn B.out b5)
      clear b5
      go_upto_region 6 with fail
      have hlr := KR.out.lt
      have hla := KA.out.lt
      have hbl := below_lit w51 (.cells #[.int .u16 rn.1, .int .u32 rn.2.1, .int .u64 rn.2.2] 26)
      replace KR := Lib.hid (KR.out.next hbl)
      replace KA := Lib.hid (KA.out.next hbl)
      replace B := Lib.hid (thn B.out hbl)
      clear hbl
      have KN : Hid (RowBlk (w51.alloc (.cells #[.int .u16 rn.1, .int .u32 rn.2.1, .int .u64 rn.2.2] 26)) w51.heap.size rn) := RowBlk.new w51 rn
      generalize w51.alloc (.cells #[.int .u16 rn.1, .int .u32 rn.2.1, .int .u64 rn.2.2] 26) = w52 at *
      obtain ⟨gn, hgn⟩ : ∃ g, w51.heap.size = g := ⟨_, rfl⟩
      rw [hgn] at KN hlr hla ⊢
      clear hgn
      have n3 : gr ≠ gn := Nat.ne_of_lt hlr
      have n4 : gn ≠ gr := n3.symm
      clear hlr hla
      obtain ⟨pKR, qKR, rKR⟩ := KR.out.cells
      obtain ⟨pKN, qKN, rKN⟩ := KN.out.cells
      have fKR := KR.out.free
      go_wp2
      have hgw := grown_set3 w52 gr (.int .u16 rn.1) (.int .u32 rn.2.1) (.int .u64 rn.2.2)
      have KR2 := KR.out.store rn
      have HRN2 := HRN.out
      go_roundw
      case rel => exact ⟨j + 1, by omega, rfl, by go_num, by rw [HRN2]; exact KR2, KA.out.grown hgw n1, belowG B.out hgw B.out.size LR.out⟩
      case measure => simp [intOf]; omega
    · obtain rfl : j = n := by omega
      rw [List.take_of_length_le (by rw [← HL.out]; exact Nat.le_refl _)] at KR
      obtain ⟨ro, HRO⟩ : ∃ r, Hid (rowT inc M = r) := ⟨_, rfl⟩
      rw [HRO.out] at KR
      obtain ⟨pKR, qKR, rKR⟩ := KR.out.cells
      obtain ⟨pKA, qKA, rKA⟩ := KA.out.cells
      have fKA := KA.out.free
      go_wp2
      have KE := KA.out.store ro
      obtain ⟨e0, e1, e2⟩ := KE.cells
      exact bodyPost_ret (v := .tuple #[(.agg #[.int .u16 ro.1, .int .u32 ro.2.1, .int .u64 ro.2.2]), .bool true]) (by simp [results, Tryd.results20, go_sem, e0, e1, e2]) rfl ⟨by rw [HRO.out], belowG B.out (grown_set3 _ _ _ _ _) B.out.size LA.out⟩
end Go.Proofs.YtkdlgejkgcojkaaDoor
