import Derived.Test.YthakiojcjkkonaaT11
import Derived.Test.YthakiojcjkkonaaOrd
import Derived.BigQuiet
import Derived.Deep.RegionWith
namespace Go.Proofs.Ythakiojcjkkonaa
open Go.RowKit
set_option linter.unusedVariables false

theorem signed_high (s X : Int) (h0 : -2147483648 ≤ s) (h1 : s ≤ 2147483647) : IntKind.u64.wrap (s + 2147483648 + IntKind.u64.wrap (X * 4294967296)) % 4294967296 - 2147483648 = s := by
  rw [IntKind.wrap_u64, IntKind.wrap_u64]; omega
theorem eq_cast (X Y : Nat) : decide (X = Y) = ((X : Int) == (Y : Int)) := by
  rw [Bool.eq_iff_iff]; simp; omega
set_option maxHeartbeats 1000000 in
theorem order_s (x y r : Nat) (u s t : Int) (w : World) (hx : (x : Int) ≤ 18446744073709551615) (hy : (y : Int) ≤ 18446744073709551615) (hs : -2147483648 ≤ s ∧ s ≤ 2147483647) (ht : -2147483648 ≤ t ∧ t ≤ 2147483647) (hu : 0 ≤ u ∧ u ≤ 255) (hk : u % 8 = r) (hr : r < 7) :
    Calls Try.prog 5 #[.int .u64 x, .int .u64 y, .int .u8 u, .int .i32 s, .int .i32 t] w fun e w' => e = .returned (.bool true) ∧ Below w.heap.size w w' := by
  have hB := Below.refl w.heap.size w
  have r7 : r ≤ 7 := by omega
  have r7' : (r : Int) ≤ 7 := by omega
  have u0 := hu.1
  have u1 := hu.2
  have s0 := hs.1
  have s1 := hs.2
  have t0 := ht.1
  have t1 := ht.2
  clear hu hs ht
  have hwx : (x : Int) % IntKind.u64.wrap (2 ^ (8 * (1 + r))) = ((x % 256 ^ (1 + r) : Nat) : Int) := want_eq x r hr
  have hwy : (y : Int) % IntKind.u64.wrap (2 ^ (8 * (1 + r))) = ((y % 256 ^ (1 + r) : Nat) : Int) := want_eq y r hr
  have hz : ¬ IntKind.u64.wrap (2 ^ (8 * (1 + r))) = 0 := want_ne r hr
  have X0 : x % 256 ^ (1 + r) < 256 ^ (1 + r) := Nat.mod_lt _ (Nat.pow_pos (by decide))
  have Y0 : y % 256 ^ (1 + r) < 256 ^ (1 + r) := Nat.mod_lt _ (Nat.pow_pos (by decide))
  have X1 : x % 256 ^ (1 + r) ≤ 18446744073709551615 := Nat.le_trans (Nat.mod_le _ _) (by omega)
  have Y1 : y % 256 ^ (1 + r) ≤ 18446744073709551615 := Nat.le_trans (Nat.mod_le _ _) (by omega)
  generalize x % 256 ^ (1 + r) = X at *
  generalize y % 256 ^ (1 + r) = Y at *
  have HL : Hid (Op.bytesLess (be X (1 + r)) (be Y (1 + r)) = decide (X < Y)) := less_be X Y _ X0 Y0
  have HE : Hid ((be X (1 + r) == be Y (1 + r)) = decide (X = Y)) := eq_be X Y _ X0 Y0
  clear X0 Y0
  go_enter Try.func5, Try.ntmps5
  go_wp2_with fail
  go_quiet (fail)
  replace hB := dN hB nq
  generalize w.drewN nq = w0 at *
  go_wp2_with fail

  go_region_with (first
    | (go_at_call_of 14 (X : Int); go_must (refine (put_nil X r _ (by omega) (by omega)).mono ?_); rintro e w1 ⟨A1, c1, rfl, o1, b1⟩; have q1 := run_str (P := Try.prog) 22 9 5 Try.underlying22 Try.underlying5 Try.underlying9 o1.sv)
    | (go_at_call_of 14 (Y : Int); go_must (refine (put_nil Y r _ (by omega) (by omega)).mono ?_); rintro e w2 ⟨A2, c2, rfl, o2, b2⟩; have q2 := run_str (P := Try.prog) 22 9 5 Try.underlying22 Try.underlying5 Try.underlying9 o2.sv; have q3 := run_str (P := Try.prog) 22 9 5 Try.underlying22 Try.underlying5 Try.underlying9 (o1.sv.next b2)))
  all_goals
    have hB2 := thn (dN hB 1) (thn b1 b2)
    clear q1 q2 q3 o1 o2 b1 b2 hB
    have f1 := HL.out
    have f2 := HE.out
    rw [eq_cast] at f2
    have f3 : (((be X (1 + r)).length : Int) != 1 + (r : Int)) = false := by rw [be_length]; simp
    have f4 := signed_high s X s0 s1
    go_wp2_with (first
      | (go_at_call 18; go_must (refine (unsigned_any _ _ (by omega) (by omega)).mono ?_); rintro e w1 ⟨rfl, rfl⟩)
      | (go_at_call 20; go_must (refine (signed_any _ _ (by first | omega | (rw [IntKind.wrap_u64]; omega)) (by first | omega | (rw [IntKind.wrap_u64]; omega))).mono ?_); rintro e w1 ⟨rfl, rfl⟩)
      | (go_at_call 8; go_must (refine (awake_any _).mono ?_); rintro e w1 ⟨rfl, b1⟩; replace hB2 := thn hB2 b1; clear b1))
    go_ret
    exact ⟨rfl, hB2⟩

set_option maxHeartbeats 1000000 in
theorem order_f (x y r : Nat) (u s t : Int) (w : World) (hx : (x : Int) ≤ 18446744073709551615) (hy : (y : Int) ≤ 18446744073709551615) (hs : -2147483648 ≤ s ∧ s ≤ 2147483647) (ht : -2147483648 ≤ t ∧ t ≤ 2147483647) (hu : 0 ≤ u ∧ u ≤ 255) (hk : u % 8 = r) (hr : 7 ≤ r) :
    Calls Try.prog 5 #[.int .u64 x, .int .u64 y, .int .u8 u, .int .i32 s, .int .i32 t] w fun e w' => e = .returned (.bool true) ∧ Below w.heap.size w w' := by
  have hB := Below.refl w.heap.size w
  have r7 : r ≤ 7 := by omega
  have r7' : (r : Int) ≤ 7 := by omega
  have u0 := hu.1
  have u1 := hu.2
  have s0 := hs.1
  have s1 := hs.2
  have t0 := ht.1
  have t1 := ht.2
  clear hu hs ht
  have e8 : 256 ^ (1 + r) = 18446744073709551616 := by rw [show 1 + r = 8 from by omega]
  have HL : Hid (Op.bytesLess (be x (1 + r)) (be y (1 + r)) = decide (x < y)) := less_be x y _ (by omega) (by omega)
  have HE : Hid ((be x (1 + r) == be y (1 + r)) = decide (x = y)) := eq_be x y _ (by omega) (by omega)
  have X1 : x ≤ 18446744073709551615 := by omega
  have Y1 : y ≤ 18446744073709551615 := by omega
  clear e8
  obtain ⟨X, rfl⟩ : ∃ X, X = x := ⟨_, rfl⟩
  obtain ⟨Y, rfl⟩ : ∃ Y, Y = y := ⟨_, rfl⟩
  go_enter Try.func5, Try.ntmps5
  go_wp2_with fail

  go_region_with (first
    | (go_at_call_of 14 (X : Int); go_must (refine (put_nil X r _ (by omega) (by omega)).mono ?_); rintro e w1 ⟨A1, c1, rfl, o1, b1⟩; have q1 := run_str (P := Try.prog) 22 9 5 Try.underlying22 Try.underlying5 Try.underlying9 o1.sv)
    | (go_at_call_of 14 (Y : Int); go_must (refine (put_nil Y r _ (by omega) (by omega)).mono ?_); rintro e w2 ⟨A2, c2, rfl, o2, b2⟩; have q2 := run_str (P := Try.prog) 22 9 5 Try.underlying22 Try.underlying5 Try.underlying9 o2.sv; have q3 := run_str (P := Try.prog) 22 9 5 Try.underlying22 Try.underlying5 Try.underlying9 (o1.sv.next b2)))
  all_goals
    have hB2 := thn (dN hB 1) (thn b1 b2)
    clear q1 q2 q3 o1 o2 b1 b2 hB
    have f1 := HL.out
    have f2 := HE.out
    rw [eq_cast] at f2
    have f3 : (((be X (1 + r)).length : Int) != 1 + (r : Int)) = false := by rw [be_length]; simp
    have f4 := signed_high s X s0 s1
    go_wp2_with (first
      | (go_at_call 18; go_must (refine (unsigned_any _ _ (by omega) (by omega)).mono ?_); rintro e w1 ⟨rfl, rfl⟩)
      | (go_at_call 20; go_must (refine (signed_any _ _ (by first | omega | (rw [IntKind.wrap_u64]; omega)) (by first | omega | (rw [IntKind.wrap_u64]; omega))).mono ?_); rintro e w1 ⟨rfl, rfl⟩)
      | (go_at_call 8; go_must (refine (awake_any _).mono ?_); rintro e w1 ⟨rfl, b1⟩; replace hB2 := thn hB2 b1; clear b1))
    go_ret
    exact ⟨rfl, hB2⟩

theorem order_any (x y u s t : Int) (w : World) (hx : 0 ≤ x ∧ x ≤ 18446744073709551615) (hy : 0 ≤ y ∧ y ≤ 18446744073709551615) (hs : -2147483648 ≤ s ∧ s ≤ 2147483647) (ht : -2147483648 ≤ t ∧ t ≤ 2147483647) (hu : 0 ≤ u ∧ u ≤ 255) :
    Calls Try.prog 5 #[.int .u64 x, .int .u64 y, .int .u8 u, .int .i32 s, .int .i32 t] w fun e w' => e = .returned (.bool true) ∧ Below w.heap.size w w' := by
  obtain ⟨x, rfl⟩ := Int.eq_ofNat_of_zero_le hx.1
  obtain ⟨y, rfl⟩ := Int.eq_ofNat_of_zero_le hy.1
  obtain ⟨r, hr⟩ := Int.eq_ofNat_of_zero_le (show 0 ≤ u % 8 by omega)
  by_cases h : r < 7
  · exact order_s x y r u s t w hx.2 hy.2 hs ht hu hr h
  · exact order_f x y r u s t w hx.2 hy.2 hs ht hu hr (by omega)
end Go.Proofs.Ythakiojcjkkonaa
