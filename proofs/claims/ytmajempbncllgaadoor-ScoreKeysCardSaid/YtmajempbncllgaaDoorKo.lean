/- Layer 6: score.Overlap and its closure. -/
import Derived.Test.YtmajempbncllgaaDoorKr
import Derived.Test.YtmajempbncllgaaDoorMt
import Derived.Test.YtmajempbncllgaaDoorWi
namespace Go.Proofs.YtmajempbncllgaaDoor
open Go.RowKit
set_option linter.unusedVariables false
theorem thz {n : Nat} {w w1 w2 : World} (h : Below n w w1) (hn : n ≤ w.heap.size) (h2 : Below w1.heap.size w1 w2) : Below n w w2 := h.trans (h2.mono (Nat.le_trans hn h.size))
theorem times_any {w : World} {B : Nat} {k n m : Int} (hb : Boxed w B 48 (.int .u64 k)) (hk0 : 0 ≤ k) (hk1 : k ≤ 4294967295) (hn0 : 0 ≤ n) (hn1 : n ≤ 4294967295) (em : k * n = m) (hm0 : 0 ≤ m) (hm1 : m ≤ 18446744065119617025) :
    Calls Tryd.prog 25 #[.int .u32 n, .pointer (some ⟨B, 0, none⟩)] w fun e w' => e = .returned (.tuple #[]) ∧ w' = w.setCell ⟨B, 0, none⟩ (.int .u64 (min m 4294967295)) := by
  have c1 := hb.cell
  have f1 := hb.frozen
  clear hb
  by_cases hc : 4294967295 < m
  · have HR : Hid (min m 4294967295 = 4294967295) := by unfold Hid; omega
    rw [HR.out]
    go_enter Tryd.func25, Tryd.ntmps25
    go_wp2
    exact bodyPost_end (v := .tuple #[]) (by simp [results, Tryd.results25, go_sem]) rfl ⟨rfl, rfl⟩
  · have hc' : m ≤ 4294967295 := by omega
    have HR : Hid (min m 4294967295 = m) := by unfold Hid; omega
    rw [HR.out]
    go_enter Tryd.func25, Tryd.ntmps25
    go_wp2
    exact bodyPost_end (v := .tuple #[]) (by simp [results, Tryd.results25, go_sem]) rfl ⟨rfl, rfl⟩
set_option maxHeartbeats 2000000 in
theorem over_any (A : Option Addr) (n c : Nat) (es : List (Int × Int)) (A' : Option Addr) (n' c' : Nat) (bs : List (Int × Int)) (w : World) (hT : Tab w) (hr : ∀ p ∈ es, inR p) (hs : ∀ p ∈ bs, inR p) (h : Sp w w.heap.size A n c es) (h' : Sp w w.heap.size A' n' c' bs) (hn8 : n ≤ 1000000) :
    Calls Tryd.prog 10 #[.slice A n c, .slice A' n' c'] w fun e w' => e = .returned (.int .u32 (overF es bs)) ∧ Below w.heap.size w w' := by
  have hc := meetF_any A n c es A' n' c' bs w hT hr hs h h' hn8
  have HM := Lib.hid (meet_some (es := es) (bs := bs))
  have HI := Lib.hid (meetF_in' hr hs)
  have HO : Hid (overF es bs = if meetF es bs = [] then 0 else satF 1 (meetF es bs)) := rfl
  have HT := Lib.hid hT
  generalize meetF es bs = ms at *
  generalize overF es bs = o at *
  clear h h' hr hs hT
  have HC := Lib.hid hc
  clear hc
  go_enter Tryd.func10, Tryd.ntmps10
  go_wp2_with fail
  refine HC.out.mono ?_
  rintro e w1 ⟨A1, c1, rfl, s1, b1⟩
  have S1 := Lib.hid s1
  have B1 := Lib.hid b1
  replace HT := Lib.hid (HT.out.next b1)
  clear s1 b1 HC
  generalize hN : ms.length = N at *
  have HN := Lib.hid hN
  clear hN
  have hcx := S1.out.cap
  have hmx := S1.out.max
  unfold maxLen at hmx
  by_cases h0 : N = 0
  · have hms : ms = [] := List.eq_nil_of_length_eq_zero (HN.out.trans h0)
    have HO' : Hid (o = 0) := HO.out.trans (if_pos hms)
    subst h0
    go_wp2
    go_ret
    exact ⟨by rw [HO'.out]; rfl, B1.out⟩
  · have h0' : ((N : Int) == 0) = false := by simpa using h0
    have HO' : Hid (o = satF 1 (ms.take N)) := by
      refine HO.out.trans ?_
      rw [if_neg (fun e => h0 (by rw [← HN.out, e]; rfl)), ← HN.out, List.take_length]
    have KB := Lib.hid (Boxed.new w1 48 (.int .u64 1))
    have BB := Lib.hid (below_lit w1 (.cells #[.int .u64 1] 48))
    go_wp2
    generalize w1.alloc (.cells #[.int .u64 1] 48) = W0 at *
    obtain ⟨z, hz⟩ : ∃ z, w1.heap.size = z := ⟨_, rfl⟩
    rw [hz] at KB BB ⊢
    go_loopw [19] (fun i wr => ∃ (j : Nat) (k : Int), j ≤ N ∧ i = .int .i64 j ∧ Hid (Boxed wr z 48 (.int .u64 k)) ∧ Hid (k = satF 1 (ms.take j)) ∧ Below z w1 wr) (fun i _ => N - (intOf i).toNat)
    case atStart => exact ⟨0, 1, Nat.zero_le _, rfl, KB, rfl, BB.out⟩
    case round =>
      obtain ⟨j, k, hj, rfl, KB', HK, b2⟩ := hrel
      obtain ⟨hk0, hk1⟩ := satF_take HM.out j
      rw [← HK.out] at hk0 hk1
      have i0 : (0 : Int) ≤ (j : Int) := by omega
      by_cases hlt : j < N
      · obtain ⟨b, off, p, rfl, hp, HX⟩ := sp_cells (S1.out.next (by rw [hz]; exact b2)) hlt
        have i1 : (j : Int) < (N : Int) := by omega
        have hpm := List.mem_of_getElem? hp
        have Hp := Lib.hid (HI.out p hpm)
        have hl0 := lenP_nonneg p
        have hl1 := lenP_le p
        have HS := Lib.hid (satF_step hp)
        rw [← HK.out] at HS
        obtain ⟨l, HL⟩ : ∃ l, Hid (lenP p = l) := ⟨_, rfl⟩
        rw [HL.out] at hl0 hl1 HS
        obtain ⟨hm0, hm1⟩ := mul_bounds hk0 hk1 hl0 hl1
        obtain ⟨m, em⟩ : ∃ m, k * l = m := ⟨_, rfl⟩
        rw [em] at hm0 hm1 HS
        have Em := Lib.hid em
        have Hm0 := Lib.hid hm0
        have Hm1 := Lib.hid hm1
        have B2 := Lib.hid b2
        clear b2 hp hpm em hm0 hm1
        obtain ⟨u0, u1⟩ := HX.out wr (Below.refl _ _)
        go_wp2_with fail
        clear u0 u1
        have KB2 := Lib.hid (KB'.out.alloc (.cells #[.int .i32 p.1, .int .i32 p.2] 36))
        have B3 := Lib.hid (thz B2.out (Nat.le_of_eq hz.symm) (below_lit wr (.cells #[.int .i32 p.1, .int .i32 p.2] 36)))
        have hb4 : Below wr.heap.size wr (wr.alloc (.cells #[.int .i32 p.1, .int .i32 p.2] 36)) := below_lit _ _
        have HT2 := Lib.hid ((HT.out.next (by rw [hz]; exact B2.out)).next hb4)
        clear hb4
        have hcl := len_any p _ HT2.out Hp.out
        rw [HL.out] at hcl
        refine hcl.mono ?_
        clear hcl
        rintro e w3 ⟨rfl, b3⟩
        have KB3 := Lib.hid (boxed_next KB2.out b3)
        have B4 := Lib.hid (thz B3.out (Nat.le_of_eq hz.symm) b3)
        clear b3
        go_wp2_with fail
        refine (times_any KB3.out (by omega) hk1 hl0 hl1 Em.out Hm0.out Hm1.out).mono ?_
        rintro e _ ⟨rfl, rfl⟩
        have KB5 := Lib.hid (KB3.out.set (.int .u64 (min m 4294967295)))
        have B5 := Lib.hid (B4.out.setCell (p := ⟨z, 0, none⟩) (Nat.le_refl _) (.int .u64 (min m 4294967295)))
        generalize min m 4294967295 = mm at *
        go_wp2
        go_roundw
        case rel => exact ⟨j + 1, mm, by omega, by go_num, KB5, HS.out.symm, B5.out⟩
        case measure => simp [intOf]; omega
      · obtain rfl : j = N := by omega
        have i1 : ¬ (j : Int) < (j : Int) := by omega
        have c1 := KB'.out.cell
        go_wp2
        go_ret
        exact ⟨by rw [HO'.out, ← HK.out]; rfl, thn B1.out (by rw [hz]; exact b2)⟩
end Go.Proofs.YtmajempbncllgaaDoor
