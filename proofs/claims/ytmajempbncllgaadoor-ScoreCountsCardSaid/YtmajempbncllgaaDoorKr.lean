/- Layer 6: the reference's Overlap. -/
import Derived.Test.YtmajempbncllgaaDoorKq
import Derived.Test.YtmajempbncllgaaDoorFl3
namespace Go.Proofs.YtmajempbncllgaaDoor
open Go.RowKit
set_option linter.unusedVariables false
theorem refLen_any (p : Int × Int) (w : World) (hp : inR p) : Calls Tryd.prog 28 #[(.agg #[.int .i32 p.1, .int .i32 p.2])] w fun e w' => e = .returned (.int .u32 (lenP p)) ∧ Below w.heap.size w w' := by
  obtain ⟨⟨hp0, hp1⟩, hp2, hp3⟩ := hp
  rcases Int.lt_or_le p.2 p.1 with h | h
  · rw [show lenP p = 0 from if_pos h]
    go_enter Tryd.func28, Tryd.ntmps28
    go_wp2
    go_ret
    exact ⟨rfl, below_lit _ _⟩
  · rcases Int.lt_or_le 4294967295 (p.2 - p.1 + 1) with h4 | h4
    · have HL : Hid (lenP p = 4294967295) := by unfold Hid lenP; rw [if_neg (by omega), Int.min_def]; split <;> omega
      go_enter Tryd.func28, Tryd.ntmps28
      go_wp2
      go_ret
      exact ⟨by rw [HL.out]; rfl, below_lit _ _⟩
    · have HL : Hid (lenP p = p.2 - p.1 + 1) := by unfold Hid lenP; rw [if_neg (by omega), Int.min_def]; split <;> omega
      go_enter Tryd.func28, Tryd.ntmps28
      go_wp2
      go_ret
      exact ⟨by rw [HL.out]; rfl, below_lit _ _⟩
/-- One step of a product that never leaves its bound. -/
theorem satF_step {ms : List (Int × Int)} {j : Nat} {p : Int × Int} (hp : ms[j]? = some p) : satF 1 (ms.take (j + 1)) = min (satF 1 (ms.take j) * lenP p) 4294967295 := by
  rw [List.take_add_one, hp]; exact satF_snoc 1 _ p
theorem satF_take {ms : List (Int × Int)} (h : ∀ p ∈ ms, p.1 ≤ p.2) (j : Nat) : 1 ≤ satF 1 (ms.take j) ∧ satF 1 (ms.take j) ≤ 4294967295 :=
  satF_bounds _ 1 (fun p hp => h p (List.mem_of_mem_take hp)) (by decide) (by decide)
theorem mul_bounds {a b : Int} (ha0 : 1 ≤ a) (ha1 : a ≤ 4294967295) (hb0 : 0 ≤ b) (hb1 : b ≤ 4294967295) : 0 ≤ a * b ∧ a * b ≤ 18446744065119617025 := by
  have h1 : 0 ≤ a * b := Int.mul_nonneg (by omega) hb0
  have h2 : a * b ≤ 4294967295 * 4294967295 := Int.mul_le_mul ha1 hb1 hb0 (by decide)
  exact ⟨h1, by omega⟩
set_option maxHeartbeats 2000000 in
theorem refOver_any (A : Option Addr) (n c : Nat) (es : List (Int × Int)) (A' : Option Addr) (n' c' : Nat) (bs : List (Int × Int)) (w : World) (hr : ∀ p ∈ es, inR p) (hs : ∀ p ∈ bs, inR p) (h : Sp w w.heap.size A n c es) (h' : Sp w w.heap.size A' n' c' bs) (hn8 : n ≤ 1000000) :
    Calls Tryd.prog 11 #[.slice A n c, .slice A' n' c'] w fun e w' => e = .returned (.int .u32 (overF es bs)) ∧ Below w.heap.size w w' := by
  have hc := refMeetF_any A n c es A' n' c' bs w h h' hn8
  have HM := Lib.hid (meet_some (es := es) (bs := bs))
  have HI := Lib.hid (meetF_in' hr hs)
  have HO : Hid (overF es bs = if meetF es bs = [] then 0 else satF 1 (meetF es bs)) := rfl
  generalize meetF es bs = ms at *
  generalize overF es bs = o at *
  clear h h' hr hs
  have HC := Lib.hid hc
  clear hc
  go_enter Tryd.func11, Tryd.ntmps11
  go_wp2_with fail
  refine HC.out.mono ?_
  rintro e w1 ⟨A1, c1, rfl, s1, b1⟩
  have S1 := Lib.hid s1
  have B1 := Lib.hid b1
  clear s1 b1 HC
  generalize hN : ms.length = N at *
  have HN := Lib.hid hN
  clear hN
  have hcx := S1.out.cap
  have hmx := S1.out.max
  unfold maxLen at hmx
  by_cases h0 : N = 0
  · have hms : ms = [] := List.eq_nil_of_length_eq_zero (HN.out.trans h0)
    have HO' : Hid (o = 0) := HO.out.trans (if_pos hms)
    subst h0
    go_wp2
    go_ret
    exact ⟨by rw [HO'.out]; rfl, B1.out⟩
  · have h0' : ((N : Int) == 0) = false := by simpa using h0
    have HO' : Hid (o = satF 1 (ms.take N)) := by
      refine HO.out.trans ?_
      rw [if_neg (fun e => h0 (by rw [← HN.out, e]; rfl)), ← HN.out, List.take_length]
    go_wp2
    go_loopw [6, 7] (fun v i wr => ∃ (j : Nat) (k : Int), j ≤ N ∧ i = .int .i64 j ∧ v = .int .u64 k ∧ Hid (k = satF 1 (ms.take j)) ∧ Below w1.heap.size w1 wr) (fun _ i _ => N - (intOf i).toNat)
    case atStart => exact ⟨0, 1, Nat.zero_le _, rfl, rfl, rfl, Below.refl _ _⟩
    case round =>
      obtain ⟨j, k, hj, rfl, rfl, HK, b2⟩ := hrel
      obtain ⟨hk0, hk1⟩ := satF_take HM.out j
      rw [← HK.out] at hk0 hk1
      have i0 : (0 : Int) ≤ (j : Int) := by omega
      by_cases hlt : j < N
      · obtain ⟨b, off, p, rfl, hp, HX⟩ := sp_cells (S1.out.next b2) hlt
        have i1 : (j : Int) < (N : Int) := by omega
        have hpm := List.mem_of_getElem? hp
        have Hp := Lib.hid (HI.out p hpm)
        have hl0 := lenP_nonneg p
        have hl1 := lenP_le p
        have HS := Lib.hid (satF_step hp)
        rw [← HK.out] at HS
        obtain ⟨l, HL⟩ : ∃ l, Hid (lenP p = l) := ⟨_, rfl⟩
        rw [HL.out] at hl0 hl1 HS
        obtain ⟨hm0, hm1⟩ := mul_bounds hk0 hk1 hl0 hl1
        obtain ⟨m, em⟩ : ∃ m, k * l = m := ⟨_, rfl⟩
        rw [em] at hm0 hm1 HS
        have B2 := Lib.hid b2
        clear b2 hp hpm
        obtain ⟨u0, u1⟩ := HX.out wr (Below.refl _ _)
        go_wp2_with fail
        have hcl := refLen_any p wr Hp.out
        rw [HL.out] at hcl
        refine hcl.mono ?_
        clear hcl u0 u1
        rintro e w3 ⟨rfl, b3⟩
        have B3 := Lib.hid (thn B2.out b3)
        clear b3
        by_cases hbig : 4294967295 < m
        · have HS' : Hid (4294967295 = satF 1 (ms.take (j + 1))) := by unfold Hid; rw [HS.out]; omega
          go_wp2
          go_roundw
          case rel => exact ⟨j + 1, 4294967295, by omega, by go_num, rfl, HS', B3.out⟩
          case measure => simp [intOf]; omega
        · have hbig' : m ≤ 4294967295 := by omega
          have HS' : Hid (m = satF 1 (ms.take (j + 1))) := by unfold Hid; rw [HS.out]; omega
          go_wp2
          go_roundw
          case rel => exact ⟨j + 1, m, by omega, by go_num, rfl, HS', B3.out⟩
          case measure => simp [intOf]; omega
      · obtain rfl : j = N := by omega
        have i1 : ¬ (j : Int) < (j : Int) := by omega
        go_wp2
        go_ret
        exact ⟨by rw [HO'.out, ← HK.out]; rfl, thn B1.out b2⟩
end Go.Proofs.YtmajempbncllgaaDoor
