/- Layer 8: Right, Has; the references' loops. -/
import Derived.Test.YtkdlgejkgcojkaaDoorQb
import Derived.Lib.Hide
namespace Go.Proofs.YtkdlgejkgcojkaaDoor
open Go.RowKit
set_option linter.unusedVariables false
theorem shr_end (b k : Int) (h0 : 0 ≤ b) (h1 : b ≤ 18446744073709551615) (hk : 0 ≤ k) : ∃ y : Int, b / 2 ^ min k.toNat 64 = y ∧ (y == 0) = decide (b.toNat / 2 ^ k.toNat = 0) := by
  refine ⟨_, rfl, ?_⟩
  have e : b / 2 ^ min k.toNat 64 = ((b.toNat / 2 ^ k.toNat : Nat) : Int) := by
    rw [← shr_min _ _ (by omega : b.toNat < 2 ^ 64)]
    have : b = (b.toNat : Int) := by omega
    conv => lhs; rw [this]
    simp
  rw [e]
  by_cases h : b.toNat / 2 ^ k.toNat = 0
  · rw [h]; rfl
  · rw [decide_eq_false h]; simp only [beq_eq_false_iff_ne]; omega
theorem even_asked (b : Int) (h0 : 0 ≤ b) (h1 : b ≤ 18446744073709551615) : ∃ z : Int, bits .and .u64 b 1 = z ∧ (z == 0) = decide (b.toNat % 2 = 0) := by
  refine ⟨_, rfl, ?_⟩
  have e : bits .and .u64 b 1 = ((b.toNat % 2 : Nat) : Int) := by
    have := and_one b.toNat (by omega)
    rw [Int.toNat_of_nonneg h0] at this
    exact this
  rw [e]
  by_cases h : b.toNat % 2 = 0
  · rw [h]; rfl
  · rw [decide_eq_false h]; simp only [beq_eq_false_iff_ne]; omega
theorem zero_eq (r : Row3) : decide (r = (0, 0, 0)) = decide (r.1 = 0 ∧ r.2.1 = 0 ∧ r.2.2 = 0) := by
  rw [decide_eq_decide]
  exact ⟨fun h => by rw [h]; exact ⟨rfl, rfl, rfl⟩, fun ⟨h1, h2, h3⟩ => id3_ext h1 h2 h3⟩
theorem sright_any (r : Row3) (n : Int) (w : World) (hr : rowR r) : Calls Tryd.prog 8 #[(.agg #[.int .u16 r.1, .int .u32 r.2.1, .int .u64 r.2.2]), .int .i64 n] w fun e w' => e = .returned (.bool (rightI r n)) ∧ Below w.heap.size w w' := by
  obtain ⟨⟨i0, i1⟩, ⟨p0, p1⟩, b0, b1⟩ := hr
  have hc := fits_any n (w.alloc (.cells #[.int .u16 r.1, .int .u32 r.2.1, .int .u64 r.2.2] 26))
  by_cases hf : 1 ≤ n ∧ n ≤ 64
  · have HF : Hid (rightI r n = if r.1 = 0 then decide (r.2.1 = 0 ∧ r.2.2 = 0) else rightD n.toNat r.2.1.toNat r.2.2.toNat) := by
      unfold Hid rightI; rw [decide_eq_true hf]; rfl
    rw [decide_eq_true hf] at hc
    rw [HF.out]
    obtain ⟨f0, f1⟩ := hf
    by_cases h0 : r.1 = 0
    · have heq := fun w' => roweql r (0, 0, 0) w'
      rw [if_pos h0]
      rw [zero_eq, h0] at heq
      have e0 : decide ((0 : Int) = 0 ∧ r.2.1 = 0 ∧ r.2.2 = 0) = decide (r.2.1 = 0 ∧ r.2.2 = 0) := by simp
      rw [e0] at heq
      obtain ⟨q, hq⟩ : ∃ q, Hid (decide (r.2.1 = 0 ∧ r.2.2 = 0) = q) := ⟨_, rfl⟩
      rw [hq.out] at heq ⊢
      clear HF
      obtain ⟨i, p, b⟩ := r
      simp only at h0 heq i0 i1 p0 p1 b0 b1 hc ⊢
      subst h0
      go_enter Tryd.func8, Tryd.ntmps8
      go_wp2_with fail
      refine hc.mono ?_
      rintro e _ ⟨rfl, rfl⟩
      go_wp2
      go_ret
      exact ⟨rfl, below_lit w _⟩
    · rw [if_neg h0]
      unfold rightD
      have hb0 : (r.1 == 0) = false := by simpa using h0
      obtain ⟨z, hz, hz1⟩ := even_asked r.2.2 b0 b1
      have s0 : 0 ≤ 4294967295 - r.2.1 := by omega
      have s1 : 4294967295 - r.2.1 ≤ 4294967295 := by omega
      by_cases hlt : n ≤ 4294967295 - r.2.1
      · skip
        have em : min n.toNat (4294967295 - r.2.1.toNat) = n.toNat := by omega
        obtain ⟨y, hy, hy1⟩ := shr_end r.2.2 n b0 b1 (by omega)
        have e64 : min n.toNat 64 = n.toNat := by omega
        rw [e64] at hy
        rw [em, ← hz1, ← hy1]
        clear HF hz1 hy1 em h0 e64
        go_enter Tryd.func8, Tryd.ntmps8
        go_wp2_with fail
        refine hc.mono ?_
        rintro e _ ⟨rfl, rfl⟩
        go_wp2
        all_goals
          go_ret
          refine ⟨ret_bool ?_, below_lit w _⟩
          simp_all
      · replace hlt : 4294967295 - r.2.1 < n := by omega
        have em : min n.toNat (4294967295 - r.2.1.toNat) = (4294967295 - r.2.1).toNat := by omega
        obtain ⟨y, hy, hy1⟩ := shr_end r.2.2 (4294967295 - r.2.1) b0 b1 (by omega)
        have e64 : min (4294967295 - r.2.1).toNat 64 = (4294967295 - r.2.1).toNat := by omega
        rw [e64] at hy
        rw [em, ← hz1, ← hy1]
        clear HF hz1 hy1 em h0 e64
        go_enter Tryd.func8, Tryd.ntmps8
        go_wp2_with fail
        refine hc.mono ?_
        rintro e _ ⟨rfl, rfl⟩
        go_wp2
        all_goals
          go_ret
          refine ⟨ret_bool ?_, below_lit w _⟩
          simp_all
  · have HF : Hid (rightI r n = false) := by unfold Hid rightI; rw [decide_eq_false hf]; rfl
    rw [decide_eq_false hf] at hc
    rw [HF.out]
    clear hf HF
    go_enter Tryd.func8, Tryd.ntmps8
    go_wp2_with fail
    refine hc.mono ?_
    rintro e _ ⟨rfl, rfl⟩
    go_wp2
    go_ret
    exact ⟨rfl, below_lit w _⟩
theorem on_any (b i : Int) (w : World) (h0 : 0 ≤ b) (h1 : b ≤ 18446744073709551615) (hi : 0 ≤ i) (hi1 : i < 64) : Calls Tryd.prog 22 #[.int .u64 b, .int .i64 i] w fun e w' => e = .returned (.bool (b.toNat.testBit i.toNat)) ∧ w = w' := by
  have HB : Hid (∀ k : Nat, k = i.toNat → b.toNat.testBit k = (b / 2 ^ k % 2 == 1)) := fun k _ => by
    rw [Nat.testBit_eq_decide_div_mod_eq]
    have e : b / 2 ^ k = ((b.toNat / 2 ^ k : Nat) : Int) := by
      have : b = (b.toNat : Int) := by omega
      conv => lhs; rw [this]
      simp
    rw [e]
    by_cases h : b.toNat / 2 ^ k % 2 = 1
    · rw [decide_eq_true h]; symm; simp only [beq_iff_eq]; omega
    · rw [decide_eq_false h]; symm; simp only [beq_eq_false_iff_ne]; omega
  go_enter Tryd.func22, Tryd.ntmps22
  go_wp2
  go_loopw [0, 5] (fun x j wr => ∃ k : Nat, (k : Int) ≤ i ∧ j = .int .i64 k ∧ (∃ c : Int, x = .int .u64 c ∧ 0 ≤ c ∧ c ≤ 18446744073709551615 ∧ Hid (c = b / 2 ^ k)) ∧ wr = w) (fun _ j _ => i.toNat - (intOf j).toNat)
  case atStart => exact ⟨0, hi, rfl, ⟨b, rfl, h0, h1, by simp [Hid]⟩, rfl⟩
  case round =>
    obtain ⟨k, hk, rfl, ⟨c, rfl, c0, c1, HC⟩, rfl⟩ := hrel
    have k0 : (0 : Int) ≤ (k : Int) := by omega
    by_cases hlt : (k : Int) < i
    · have HN : Hid (c / 2 = b / 2 ^ (k + 1)) := by
        unfold Hid
        rw [HC.out, Int.pow_succ, Int.ediv_ediv_of_nonneg (Int.le_of_lt (Int.pow_pos (by decide)))]
      have d0 : 0 ≤ c / 2 := by omega
      have d1 : c / 2 ≤ 18446744073709551615 := by omega
      go_wp2
      go_roundw
      case rel => exact ⟨k + 1, by omega, by go_num, ⟨c / 2, rfl, d0, d1, HN⟩, trivial⟩
      case measure => simp [intOf]; omega
    · have e : (k : Int) = i := by omega
      have hd := HB.out k (by omega)
      rw [← HC.out] at hd
      have e2 : i.toNat = k := by omega
      rw [← e2] at hd
      have HD := Lib.hid hd
      clear hd HC HB e2
      go_wp2
      go_ret
      exact ⟨ret_bool HD.out.symm, rfl⟩
theorem power_any (i : Int) (w : World) (hi : 0 ≤ i) (hi1 : i < 64) : Calls Tryd.prog 25 #[.int .i64 i] w fun e w' => e = .returned (.int .u64 (2 ^ i.toNat)) ∧ w = w' := by
  have HB : Hid (∀ k : Nat, (k : Int) < i → (0 : Int) < 2 ^ k ∧ (2 : Int) ^ k * 2 ≤ 18446744073709551615) := fun k hk => by
    refine ⟨Int.pow_pos (by decide), ?_⟩
    have h1 : (2 : Nat) ^ (k + 1) ≤ 2 ^ 63 := Nat.pow_le_pow_right (by decide) (by omega)
    have h2 : (2 : Int) ^ k * 2 = ((2 ^ (k + 1) : Nat) : Int) := by simp [Int.pow_succ]
    omega
  go_enter Tryd.func25, Tryd.ntmps25
  go_wp2
  go_loopw [3, 4] (fun x j wr => ∃ k : Nat, (k : Int) ≤ i ∧ j = .int .i64 k ∧ (∃ c : Int, x = .int .u64 c ∧ Hid (c = 2 ^ k)) ∧ wr = w) (fun _ j _ => i.toNat - (intOf j).toNat)
  case atStart => exact ⟨0, hi, rfl, ⟨1, rfl, by simp [Hid]⟩, rfl⟩
  case round =>
    obtain ⟨k, hk, rfl, ⟨c, rfl, HC⟩, rfl⟩ := hrel
    have k0 : (0 : Int) ≤ (k : Int) := by omega
    by_cases hlt : (k : Int) < i
    · obtain ⟨c0, c1⟩ := HB.out k hlt
      rw [← HC.out] at c0 c1
      have HN : Hid (c * 2 = 2 ^ (k + 1)) := by
        unfold Hid
        rw [HC.out, Int.pow_succ]
      go_wp2
      go_roundw
      case rel => exact ⟨k + 1, by omega, by go_num, ⟨c * 2, rfl, HN⟩, trivial⟩
      case measure => simp [intOf]; omega
    · have e2 : i.toNat = k := by omega
      rw [← e2] at HC
      clear HB e2
      go_wp2
      go_ret
      exact ⟨by rw [HC.out]; rfl, rfl⟩
theorem refseen_any (r : Row3) (n : Int) (w : World) (hr : rowR r) (hn : 0 ≤ n ∧ n ≤ 4294967295) : Calls Tryd.prog 28 #[(.agg #[.int .u16 r.1, .int .u32 r.2.1, .int .u64 r.2.2]), .int .u32 n] w fun e w' => e = .returned (.bool (seenI r n)) ∧ Below w.heap.size w w' := by
  obtain ⟨n0, n1⟩ := hn
  obtain ⟨_, ⟨p0, p1⟩, b0, b1⟩ := hr
  rcases Int.lt_or_le n 1 with h | h
  · obtain rfl : n = 0 := by omega
    rw [seenI_zero]
    go_enter Tryd.func28, Tryd.ntmps28
    go_wp2
    go_ret
    exact ⟨rfl, below_lit w _⟩
  · have hn0 : (n == 0) = false := by simp; omega
    rcases Int.lt_or_le r.2.1 n with h2 | h2
    · rw [seenI_high p0 h2]
      have h1 : 0 ≤ n - r.2.1 := by omega
      obtain ⟨k, hk⟩ : ∃ k, n - r.2.1 - 1 = k := ⟨_, rfl⟩
      have hk0 : 0 ≤ k := by omega
      have hk1 : k ≤ 4294967295 := by omega
      rw [hk]
      by_cases h64 : k < 64
      · have hc := on_any r.2.2 k (w.alloc (.cells #[.int .u16 r.1, .int .u32 r.2.1, .int .u64 r.2.2] 26)) b0 b1 hk0 h64
        obtain ⟨q, hq⟩ : ∃ q, Hid (r.2.2.toNat.testBit k.toNat = q) := ⟨_, rfl⟩
        rw [hq.out] at hc ⊢
        go_enter Tryd.func28, Tryd.ntmps28
        go_wp2_with fail
        refine hc.mono ?_
        rintro e _ ⟨rfl, rfl⟩
        go_wp2
        go_ret
        exact ⟨rfl, below_lit w _⟩
      · have e : r.2.2.toNat.testBit k.toNat = false := Nat.testBit_lt_two_pow (Nat.lt_of_lt_of_le (by omega : r.2.2.toNat < 2 ^ 64) (Nat.pow_le_pow_right (by decide) (by omega)))
        rw [e]
        go_enter Tryd.func28, Tryd.ntmps28
        go_wp2
        go_ret
        exact ⟨rfl, below_lit w _⟩
    · rw [seenI_low h h2]
      go_enter Tryd.func28, Tryd.ntmps28
      go_wp2
      go_ret
      exact ⟨rfl, below_lit w _⟩
end Go.Proofs.YtkdlgejkgcojkaaDoor
