import Derived.Test.YthakiojcjkkonaaT7
namespace Go.Proofs.Ythakiojcjkkonaa
open Go.RowKit
set_option linter.unusedVariables false

set_option maxHeartbeats 400000 in
theorem tells_any (A : Option Addr) (n c : Nat) (l : List UInt8) (x m : Int) (A' : Option Addr) (n' c' : Nat) (t : List UInt8) (most s : Int) (w : World) (h : Sl w w.heap.size A n c l) (h' : Sl w w.heap.size A' n' c' t)
    (hx : 0 ≤ x ∧ x ≤ 18446744073709551615) (hs : -2147483648 ≤ s ∧ s ≤ 2147483647) (hn : (n : Int) ≤ 200) (hn' : (n' : Int) ≤ 200) :
    Calls Try.prog 3 #[.slice A n c, .int .u64 x, .int .i64 m, .slice A' n' c', .int .i64 most, .int .i32 s] w fun e w' => e = .returned (.bool true) ∧ Below w.heap.size w w' := by
  obtain ⟨x, rfl⟩ := Int.eq_ofNat_of_zero_le hx.1
  have hx1 : (x : Int) ≤ 18446744073709551615 := hx.2
  have s0 := hs.1
  have s1 := hs.2
  have E : Env w [(A', n', c', t.map Bv), (A, n, c, l.map Bv)] := ((Env.nil w).add h).add h'
  have hB := Below.refl w.heap.size w
  clear h h' hx hs
  go_enter Try.func3, Try.ntmps3
  go_wp2_with (first
    | (go_at_call 9; go_must (refine (take_any _ _ _ _ l _ _ (by exact E.tl.hd) (Nat.le_refl _) (by omega)).mono ?_); rintro e w1 ⟨A1, c1, rfl, o1, b1⟩; replace E := (E.next b1).add o1.sv; replace hB := thn hB b1; clear b1 o1)
    | (go_at_call 10; go_must (refine (refTake_any _ _ _ l _ _ (by exact E.tl.tl.hd) (by omega)).mono ?_); rintro e w1 ⟨A1, c1, rfl, o1, b1⟩; replace E := (E.next b1).add o1.sv; replace hB := thn hB b1; clear b1 o1)
    | (go_at_call 11; go_must (refine (text_any _ _ _ l _ _ (by exact E.tl.tl.tl.hd) (by omega)).mono ?_); rintro e w1 ⟨A1, c1, A2, c2, rfl, o1, o2, _, b1⟩; replace E := ((E.next b1).add o1.sv).add o2.sv; replace hB := thn hB b1; clear b1 o1 o2)
    | (go_at_call 12; go_must (refine (refText_any _ _ _ l _ _ (by exact E.tl.tl.tl.tl.tl.hd) (by omega)).mono ?_); rintro e w1 ⟨A1, c1, A2, c2, rfl, o1, o2, _, b1⟩; replace E := ((E.next b1).add o1.sv).add o2.sv; replace hB := thn hB b1; clear b1 o1 o2)
    | (go_at_call 14; go_must (refine (put_made _ _ _ _ l _ _ _ (by first | exact E.hd | exact E.tl.hd | exact E.tl.tl.hd | exact E.tl.tl.tl.hd | exact E.tl.tl.tl.tl.hd | exact E.tl.tl.tl.tl.tl.hd | exact E.tl.tl.tl.tl.tl.tl.hd | exact E.tl.tl.tl.tl.tl.tl.tl.hd | exact E.tl.tl.tl.tl.tl.tl.tl.tl.hd | exact E.tl.tl.tl.tl.tl.tl.tl.tl.tl.hd | exact E.tl.tl.tl.tl.tl.tl.tl.tl.tl.tl.hd | exact E.tl.tl.tl.tl.tl.tl.tl.tl.tl.tl.tl.hd) (Nat.le_refl _) (by omega) (by omega)).mono ?_); rintro e w1 ⟨A1, c1, rfl, o1, b1⟩; replace E := (E.next b1).add o1.sv; replace hB := thn hB b1; clear b1 o1)
    | (go_at_call 15; go_must (refine (refPut_made _ _ _ _ l _ _ _ (by first | exact E.hd | exact E.tl.hd | exact E.tl.tl.hd | exact E.tl.tl.tl.hd | exact E.tl.tl.tl.tl.hd | exact E.tl.tl.tl.tl.tl.hd | exact E.tl.tl.tl.tl.tl.tl.hd | exact E.tl.tl.tl.tl.tl.tl.tl.hd | exact E.tl.tl.tl.tl.tl.tl.tl.tl.hd | exact E.tl.tl.tl.tl.tl.tl.tl.tl.tl.hd | exact E.tl.tl.tl.tl.tl.tl.tl.tl.tl.tl.hd | exact E.tl.tl.tl.tl.tl.tl.tl.tl.tl.tl.tl.hd) (Nat.le_refl _) (by omega) (by omega)).mono ?_); rintro e w1 ⟨A1, c1, rfl, o1, b1⟩; replace E := (E.next b1).add o1.sv; replace hB := thn hB b1; clear b1 o1)
    | (go_at_call 16; go_must (refine (putText_made _ _ _ l _ _ _ t _ (by first | exact E.hd | exact E.tl.hd | exact E.tl.tl.hd | exact E.tl.tl.tl.hd | exact E.tl.tl.tl.tl.hd | exact E.tl.tl.tl.tl.tl.hd | exact E.tl.tl.tl.tl.tl.tl.hd | exact E.tl.tl.tl.tl.tl.tl.tl.hd | exact E.tl.tl.tl.tl.tl.tl.tl.tl.hd | exact E.tl.tl.tl.tl.tl.tl.tl.tl.tl.hd | exact E.tl.tl.tl.tl.tl.tl.tl.tl.tl.tl.hd | exact E.tl.tl.tl.tl.tl.tl.tl.tl.tl.tl.tl.hd) (by first | exact E.hd | exact E.tl.hd | exact E.tl.tl.hd | exact E.tl.tl.tl.hd | exact E.tl.tl.tl.tl.hd | exact E.tl.tl.tl.tl.tl.hd | exact E.tl.tl.tl.tl.tl.tl.hd | exact E.tl.tl.tl.tl.tl.tl.tl.hd | exact E.tl.tl.tl.tl.tl.tl.tl.tl.hd | exact E.tl.tl.tl.tl.tl.tl.tl.tl.tl.hd | exact E.tl.tl.tl.tl.tl.tl.tl.tl.tl.tl.hd | exact E.tl.tl.tl.tl.tl.tl.tl.tl.tl.tl.tl.hd) (by omega) (by omega)).mono ?_); rintro e w1 ⟨A1, c1, rfl, o1, b1⟩; replace E := (E.next b1).add o1.sv; replace hB := thn hB b1; clear b1 o1)
    | (go_at_call 17; go_must (refine (refPutText_made _ _ _ l _ _ _ t _ (by first | exact E.hd | exact E.tl.hd | exact E.tl.tl.hd | exact E.tl.tl.tl.hd | exact E.tl.tl.tl.tl.hd | exact E.tl.tl.tl.tl.tl.hd | exact E.tl.tl.tl.tl.tl.tl.hd | exact E.tl.tl.tl.tl.tl.tl.tl.hd | exact E.tl.tl.tl.tl.tl.tl.tl.tl.hd | exact E.tl.tl.tl.tl.tl.tl.tl.tl.tl.hd | exact E.tl.tl.tl.tl.tl.tl.tl.tl.tl.tl.hd | exact E.tl.tl.tl.tl.tl.tl.tl.tl.tl.tl.tl.hd) (by first | exact E.hd | exact E.tl.hd | exact E.tl.tl.hd | exact E.tl.tl.tl.hd | exact E.tl.tl.tl.tl.hd | exact E.tl.tl.tl.tl.tl.hd | exact E.tl.tl.tl.tl.tl.tl.hd | exact E.tl.tl.tl.tl.tl.tl.tl.hd | exact E.tl.tl.tl.tl.tl.tl.tl.tl.hd | exact E.tl.tl.tl.tl.tl.tl.tl.tl.tl.hd | exact E.tl.tl.tl.tl.tl.tl.tl.tl.tl.tl.hd | exact E.tl.tl.tl.tl.tl.tl.tl.tl.tl.tl.tl.hd) (by omega) (by omega)).mono ?_); rintro e w1 ⟨A1, c1, rfl, o1, b1⟩; replace E := (E.next b1).add o1.sv; replace hB := thn hB b1; clear b1 o1)
    | (go_at_call 13; go_must (refine (same_any _ _ _ _ _ _ _ _ _ _ _ (by first | exact E.hd | exact E.tl.hd | exact E.tl.tl.hd | exact E.tl.tl.tl.hd | exact E.tl.tl.tl.tl.hd | exact E.tl.tl.tl.tl.tl.hd | exact E.tl.tl.tl.tl.tl.tl.hd | exact E.tl.tl.tl.tl.tl.tl.tl.hd | exact E.tl.tl.tl.tl.tl.tl.tl.tl.hd | exact E.tl.tl.tl.tl.tl.tl.tl.tl.tl.hd | exact E.tl.tl.tl.tl.tl.tl.tl.tl.tl.tl.hd | exact E.tl.tl.tl.tl.tl.tl.tl.tl.tl.tl.tl.hd) (by first | exact E.hd | exact E.tl.hd | exact E.tl.tl.hd | exact E.tl.tl.tl.hd | exact E.tl.tl.tl.tl.hd | exact E.tl.tl.tl.tl.tl.hd | exact E.tl.tl.tl.tl.tl.tl.hd | exact E.tl.tl.tl.tl.tl.tl.tl.hd | exact E.tl.tl.tl.tl.tl.tl.tl.tl.hd | exact E.tl.tl.tl.tl.tl.tl.tl.tl.tl.hd | exact E.tl.tl.tl.tl.tl.tl.tl.tl.tl.tl.hd | exact E.tl.tl.tl.tl.tl.tl.tl.tl.tl.tl.tl.hd)).mono ?_); rintro e w1 ⟨rfl, rfl⟩)
    | (go_at_call 18; go_must (refine (unsigned_any _ _ (by omega) (by omega)).mono ?_); rintro e w1 ⟨rfl, rfl⟩)
    | (go_at_call 19; go_must (refine (refUnsigned_any _ _ (by omega) (by omega)).mono ?_); rintro e w1 ⟨rfl, rfl⟩)
    | (go_at_call 20; go_must (refine (signed_any _ _ (by omega) (by omega)).mono ?_); rintro e w1 ⟨rfl, rfl⟩)
    | (go_at_call 21; go_must (refine (refSigned_any _ _ (by omega) (by omega)).mono ?_); rintro e w1 ⟨rfl, rfl⟩)
    | (go_at_call 8; go_must (refine (awake_any _).mono ?_); rintro e w1 ⟨rfl, b1⟩; replace hB := thn hB b1; clear b1))
  go_ret
  exact ⟨rfl, hB⟩
end Go.Proofs.Ythakiojcjkkonaa
