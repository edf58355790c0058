import Derived.Test.YthakiojcjkkonaaT9
import Derived.BigQuiet
namespace Go.Proofs.Ythakiojcjkkonaa
open Go.RowKit
set_option linter.unusedVariables false

theorem or_byte64 (x y : Nat) (hx : x < 256) (hy : y < 256) : bits .or .i64 ((x : Int) * 256) (y : Int) = ((x * 256 + y : Nat) : Int) := by
  have e : (x : Int) * 256 = ((x * 256 : Nat) : Int) := by omega
  have h1 : ∀ a : Nat, a < 65536 → (BitVec.ofInt 64 (a : Int)).toNat = a := fun a ha => by
    rw [BitVec.ofInt_natCast, BitVec.toNat_ofNat]; exact Nat.mod_eq_of_lt (by omega)
  have h2 := Nat.shiftLeft_add_eq_or_of_lt (i := 8) (b := y) (by omega) x
  rw [Nat.shiftLeft_eq, show x * 2 ^ 8 = x * 256 from rfl] at h2
  rw [e]
  show IntKind.i64.wrap ((BitVec.ofInt 64 ((x * 256 : Nat) : Int) ||| BitVec.ofInt 64 (y : Int)).toNat : Int) = _
  rw [BitVec.toNat_or, h1 _ (by omega), h1 _ (by omega), ← h2, IntKind.wrap_i64]
  omega

theorem short_great (A : Option Addr) (n c : Nat) (m most : Int) (w : World) (hn : 200 < (n : Int)) :
    Calls Try.prog 6 #[.slice A n c, .int .i64 m, .int .i64 most] w fun e w' => e = .returned (.bool true) ∧ Below w.heap.size w w' := by
  go_enter Try.func6, Try.ntmps6
  go_wp2_with (go_at_call 8; go_must (refine (awake_any _).mono ?_); rintro e w1 ⟨rfl, b1⟩)
  go_ret
  exact ⟨rfl, b1⟩

set_option maxHeartbeats 400000 in
theorem short_ok_yes (A : Option Addr) (n c : Nat) (l : List UInt8) (m most : Int) (N : Nat) (w : World) (h : Sl w w.heap.size A n c l) (hn : (n : Int) ≤ 200) (hm : 1 ≤ m ∧ m ≤ 8 ∧ m ≤ (n : Int)) (hN : num (l.take 2) = N) (ht : 2 ≤ n ∧ (N : Int) ≤ most ∧ N ≤ n - 2) :
    Calls Try.prog 6 #[.slice A n c, .int .i64 m, .int .i64 most] w fun e w' => e = .returned (.bool true) ∧ Below w.heap.size w w' := by
  have HT : Hid (2 ≤ n ∧ (N : Int) ≤ most ∧ N ≤ n - 2) := ht
  have HN : Hid (num (l.take 2) = N) := hN
  have HM : Hid (1 ≤ m ∧ m ≤ 8 ∧ m ≤ (n : Int)) := hm
  obtain ⟨m, rfl⟩ := Int.eq_ofNat_of_zero_le (show 0 ≤ m by omega)
  have m1 : (1 : Int) ≤ m := hm.1
  have m2 : (m : Int) ≤ 8 := hm.2.1
  have m3 : (m : Int) ≤ n := hm.2.2
  have q1 : ((n - m : Nat) : Int) = n - m := by omega
  have t1 : (2 : Int) ≤ n := by omega
  have t2 : (N : Int) ≤ most := ht.2.1
  have t3 : (N : Int) ≤ n - 2 := by omega
  obtain ⟨A9, hrun, hf⟩ := h.mid (lo := 2) (hi := 2 + N) (by omega) (by omega) 22 5 Try.underlying22 elem22 size5 .i64 .i64 2 (2 + (N : Int)) rfl (by omega)
  rw [← List.map_take, ← List.map_drop, List.drop_take, show 2 + N - 2 = N from by omega] at hf
  simp only [show 2 + N - 2 = N from by omega] at hrun
  have hc := h.cap
  clear hm ht hN
  have E : Env w [(A, n, c, l.map Bv), (A9, N, c - 2, ((l.drop 2).take N).map Bv)] := ((Env.nil w).add hf).add h
  have hB := Below.refl w.heap.size w
  clear h hf
  go_enter Try.func6, Try.ntmps6
  go_wp2_with (first
    | (go_at_call 9; go_must (refine (take_yes_at _ _ _ l _ _ (by first | exact E.hd | exact E.tl.hd | exact E.tl.tl.hd | exact E.tl.tl.tl.hd | exact E.tl.tl.tl.tl.hd | exact E.tl.tl.tl.tl.tl.hd | exact E.tl.tl.tl.tl.tl.tl.hd | exact E.tl.tl.tl.tl.tl.tl.tl.hd | exact E.tl.tl.tl.tl.tl.tl.tl.tl.hd | exact E.tl.tl.tl.tl.tl.tl.tl.tl.tl.hd | exact E.tl.tl.tl.tl.tl.tl.tl.tl.tl.tl.hd | exact E.tl.tl.tl.tl.tl.tl.tl.tl.tl.tl.tl.hd) (by omega) HM.out).mono ?_); rintro e w1 ⟨A1, c1, rfl, o1, b1⟩; replace E := (E.next b1).add o1.sv; replace hB := thn hB b1; clear b1 o1)
    | (go_at_call 11; go_must (refine (text_yes_at _ _ _ l _ N _ (by first | exact E.hd | exact E.tl.hd | exact E.tl.tl.hd | exact E.tl.tl.tl.hd | exact E.tl.tl.tl.tl.hd | exact E.tl.tl.tl.tl.tl.hd | exact E.tl.tl.tl.tl.tl.tl.hd | exact E.tl.tl.tl.tl.tl.tl.tl.hd | exact E.tl.tl.tl.tl.tl.tl.tl.tl.hd | exact E.tl.tl.tl.tl.tl.tl.tl.tl.tl.hd | exact E.tl.tl.tl.tl.tl.tl.tl.tl.tl.tl.hd | exact E.tl.tl.tl.tl.tl.tl.tl.tl.tl.tl.tl.hd) (by omega) HN.out HT.out).mono ?_); rintro e w1 ⟨A1, c1, A2, c2, rfl, o1, o2, _, b1⟩; replace E := ((E.next b1).add o1.sv).add o2.sv; replace hB := thn hB b1; clear b1 o1 o2)
    | (go_at_call 13; go_must (refine (same_any _ _ _ _ _ _ _ _ _ _ _ (by first | exact E.hd | exact E.tl.hd | exact E.tl.tl.hd | exact E.tl.tl.tl.hd | exact E.tl.tl.tl.tl.hd | exact E.tl.tl.tl.tl.tl.hd | exact E.tl.tl.tl.tl.tl.tl.hd | exact E.tl.tl.tl.tl.tl.tl.tl.hd | exact E.tl.tl.tl.tl.tl.tl.tl.tl.hd | exact E.tl.tl.tl.tl.tl.tl.tl.tl.tl.hd | exact E.tl.tl.tl.tl.tl.tl.tl.tl.tl.tl.hd | exact E.tl.tl.tl.tl.tl.tl.tl.tl.tl.tl.tl.hd) (by first | exact E.hd | exact E.tl.hd | exact E.tl.tl.hd | exact E.tl.tl.tl.hd | exact E.tl.tl.tl.tl.hd | exact E.tl.tl.tl.tl.tl.hd | exact E.tl.tl.tl.tl.tl.tl.hd | exact E.tl.tl.tl.tl.tl.tl.tl.hd | exact E.tl.tl.tl.tl.tl.tl.tl.tl.hd | exact E.tl.tl.tl.tl.tl.tl.tl.tl.tl.hd | exact E.tl.tl.tl.tl.tl.tl.tl.tl.tl.tl.hd | exact E.tl.tl.tl.tl.tl.tl.tl.tl.tl.tl.tl.hd)).mono ?_); rintro e w1 ⟨rfl, rfl⟩)
    | (go_at_call 8; go_must (refine (awake_any _).mono ?_); rintro e w1 ⟨rfl, b1⟩; replace hB := thn hB b1; clear b1))
  go_ret
  exact ⟨rfl, hB⟩

set_option maxHeartbeats 400000 in
theorem short_ok_lo (A : Option Addr) (n c : Nat) (l : List UInt8) (m most : Int) (N : Nat) (w : World) (h : Sl w w.heap.size A n c l) (hn : (n : Int) ≤ 200) (hm : 1 ≤ m ∧ m ≤ 8 ∧ m ≤ (n : Int)) (hN : num (l.take 2) = N) (ht : (n : Int) < 2) :
    Calls Try.prog 6 #[.slice A n c, .int .i64 m, .int .i64 most] w fun e w' => e = .returned (.bool true) ∧ Below w.heap.size w w' := by
  have HT : Hid (¬ (2 ≤ n ∧ (N : Int) ≤ most ∧ N ≤ n - 2)) := by unfold Hid; omega
  have HN : Hid (num (l.take 2) = N) := hN
  have HM : Hid (1 ≤ m ∧ m ≤ 8 ∧ m ≤ (n : Int)) := hm
  obtain ⟨m, rfl⟩ := Int.eq_ofNat_of_zero_le (show 0 ≤ m by omega)
  have m1 : (1 : Int) ≤ m := hm.1
  have m2 : (m : Int) ≤ 8 := hm.2.1
  have m3 : (m : Int) ≤ n := hm.2.2
  have q1 : ((n - m : Nat) : Int) = n - m := by omega
  clear hm
  clear hN
  have E : Env w [(A, n, c, l.map Bv)] := (Env.nil w).add h
  have hB := Below.refl w.heap.size w
  clear h
  go_enter Try.func6, Try.ntmps6
  go_wp2_with (first
    | (go_at_call 9; go_must (refine (take_yes_at _ _ _ l _ _ (by first | exact E.hd | exact E.tl.hd | exact E.tl.tl.hd | exact E.tl.tl.tl.hd | exact E.tl.tl.tl.tl.hd | exact E.tl.tl.tl.tl.tl.hd | exact E.tl.tl.tl.tl.tl.tl.hd | exact E.tl.tl.tl.tl.tl.tl.tl.hd | exact E.tl.tl.tl.tl.tl.tl.tl.tl.hd | exact E.tl.tl.tl.tl.tl.tl.tl.tl.tl.hd | exact E.tl.tl.tl.tl.tl.tl.tl.tl.tl.tl.hd | exact E.tl.tl.tl.tl.tl.tl.tl.tl.tl.tl.tl.hd) (by omega) HM.out).mono ?_); rintro e w1 ⟨A1, c1, rfl, o1, b1⟩; replace E := (E.next b1).add o1.sv; replace hB := thn hB b1; clear b1 o1)
    | (go_at_call 11; go_must (refine (text_no_at _ _ _ l _ N _ (by first | exact E.hd | exact E.tl.hd | exact E.tl.tl.hd | exact E.tl.tl.tl.hd | exact E.tl.tl.tl.tl.hd | exact E.tl.tl.tl.tl.tl.hd | exact E.tl.tl.tl.tl.tl.tl.hd | exact E.tl.tl.tl.tl.tl.tl.tl.hd | exact E.tl.tl.tl.tl.tl.tl.tl.tl.hd | exact E.tl.tl.tl.tl.tl.tl.tl.tl.tl.hd | exact E.tl.tl.tl.tl.tl.tl.tl.tl.tl.tl.hd | exact E.tl.tl.tl.tl.tl.tl.tl.tl.tl.tl.tl.hd) (by omega) HN.out HT.out).mono ?_); rintro e w1 ⟨A1, c1, A2, c2, rfl, o1, o2, b1⟩; replace E := ((E.next b1).add o1.sv).add o2.sv; replace hB := thn hB b1; clear b1 o1 o2)
    | (go_at_call 13; go_must (refine (same_any _ _ _ _ _ _ _ _ _ _ _ (by first | exact E.hd | exact E.tl.hd | exact E.tl.tl.hd | exact E.tl.tl.tl.hd | exact E.tl.tl.tl.tl.hd | exact E.tl.tl.tl.tl.tl.hd | exact E.tl.tl.tl.tl.tl.tl.hd | exact E.tl.tl.tl.tl.tl.tl.tl.hd | exact E.tl.tl.tl.tl.tl.tl.tl.tl.hd | exact E.tl.tl.tl.tl.tl.tl.tl.tl.tl.hd | exact E.tl.tl.tl.tl.tl.tl.tl.tl.tl.tl.hd | exact E.tl.tl.tl.tl.tl.tl.tl.tl.tl.tl.tl.hd) (by first | exact E.hd | exact E.tl.hd | exact E.tl.tl.hd | exact E.tl.tl.tl.hd | exact E.tl.tl.tl.tl.hd | exact E.tl.tl.tl.tl.tl.hd | exact E.tl.tl.tl.tl.tl.tl.hd | exact E.tl.tl.tl.tl.tl.tl.tl.hd | exact E.tl.tl.tl.tl.tl.tl.tl.tl.hd | exact E.tl.tl.tl.tl.tl.tl.tl.tl.tl.hd | exact E.tl.tl.tl.tl.tl.tl.tl.tl.tl.tl.hd | exact E.tl.tl.tl.tl.tl.tl.tl.tl.tl.tl.tl.hd)).mono ?_); rintro e w1 ⟨rfl, rfl⟩)
    | (go_at_call 8; go_must (refine (awake_any _).mono ?_); rintro e w1 ⟨rfl, b1⟩; replace hB := thn hB b1; clear b1))
  go_ret
  exact ⟨rfl, hB⟩

set_option maxHeartbeats 400000 in
theorem short_ok_most (A : Option Addr) (n c : Nat) (l : List UInt8) (m most : Int) (N : Nat) (w : World) (h : Sl w w.heap.size A n c l) (hn : (n : Int) ≤ 200) (hm : 1 ≤ m ∧ m ≤ 8 ∧ m ≤ (n : Int)) (hN : num (l.take 2) = N) (ht : most < (N : Int) ∧ 2 ≤ n) :
    Calls Try.prog 6 #[.slice A n c, .int .i64 m, .int .i64 most] w fun e w' => e = .returned (.bool true) ∧ Below w.heap.size w w' := by
  have HT : Hid (¬ (2 ≤ n ∧ (N : Int) ≤ most ∧ N ≤ n - 2)) := by unfold Hid; omega
  have HN : Hid (num (l.take 2) = N) := hN
  have HM : Hid (1 ≤ m ∧ m ≤ 8 ∧ m ≤ (n : Int)) := hm
  obtain ⟨m, rfl⟩ := Int.eq_ofNat_of_zero_le (show 0 ≤ m by omega)
  have m1 : (1 : Int) ≤ m := hm.1
  have m2 : (m : Int) ≤ 8 := hm.2.1
  have m3 : (m : Int) ≤ n := hm.2.2
  have q1 : ((n - m : Nat) : Int) = n - m := by omega
  clear hm
  obtain ⟨b, off, rfl, hb, hc⟩ := h.at_ (by omega)
  have hl := sl_len h
  have c0 : w.cell? ⟨b, off, none⟩ = some (.int .u8 ((l[0]'(by omega)).toNat : Nat)) := by have := hc 0 (Bv (l[0]'(by omega))) (by simp [List.getElem?_eq_getElem (show 0 < l.length by omega)]); simpa [Bv] using this
  have c1 : w.cell? ⟨b, off + 1, none⟩ = some (.int .u8 ((l[1]'(by omega)).toNat : Nat)) := hc 1 (Bv (l[1]'(by omega))) (by simp [List.getElem?_eq_getElem (show 1 < l.length by omega)])
  have h2 := two_bytes l (by omega)
  clear hc
  have u0 := (l[0]'(by omega)).toNat_lt
  have u1 := (l[1]'(by omega)).toNat_lt
  generalize (l[0]'(by omega)).toNat = x at *
  generalize (l[1]'(by omega)).toNat = y at *
  have HE : Hid (N = x * 256 + y) := by rw [← hN]; exact h2
  have hO := or_byte64 x y u0 u1
  rw [← HE.out] at hO
  have f0 : (0 : Int) < n := by omega
  have f1 : (1 : Int) < n := by omega
  clear h2 hl hN
  have t1 := ht.1
  clear ht
  have E : Env w [(some ⟨b, off, none⟩, n, c, l.map Bv)] := (Env.nil w).add h
  have hB := Below.refl w.heap.size w
  clear h
  have C0 : Hid (w.cell? ⟨b, off, none⟩ = some (.int .u8 (x : Nat))) := c0
  have C1 : Hid (w.cell? ⟨b, off + 1, none⟩ = some (.int .u8 (y : Nat))) := c1
  clear c0 c1
  go_enter Try.func6, Try.ntmps6
  go_wp2_with (first
    | (go_at_call 9; go_must (refine (take_yes_at _ _ _ l _ _ (by first | exact E.hd | exact E.tl.hd | exact E.tl.tl.hd | exact E.tl.tl.tl.hd | exact E.tl.tl.tl.tl.hd | exact E.tl.tl.tl.tl.tl.hd | exact E.tl.tl.tl.tl.tl.tl.hd | exact E.tl.tl.tl.tl.tl.tl.tl.hd | exact E.tl.tl.tl.tl.tl.tl.tl.tl.hd | exact E.tl.tl.tl.tl.tl.tl.tl.tl.tl.hd | exact E.tl.tl.tl.tl.tl.tl.tl.tl.tl.tl.hd | exact E.tl.tl.tl.tl.tl.tl.tl.tl.tl.tl.tl.hd) (by omega) HM.out).mono ?_); rintro e w1 ⟨A1, c1, rfl, o1, b1⟩; replace E := (E.next b1).add o1.sv; replace hB := thn hB b1; clear b1 o1)
    | (go_at_call 11; go_must (refine (text_no_at _ _ _ l _ N _ (by first | exact E.hd | exact E.tl.hd | exact E.tl.tl.hd | exact E.tl.tl.tl.hd | exact E.tl.tl.tl.tl.hd | exact E.tl.tl.tl.tl.tl.hd | exact E.tl.tl.tl.tl.tl.tl.hd | exact E.tl.tl.tl.tl.tl.tl.tl.hd | exact E.tl.tl.tl.tl.tl.tl.tl.tl.hd | exact E.tl.tl.tl.tl.tl.tl.tl.tl.tl.hd | exact E.tl.tl.tl.tl.tl.tl.tl.tl.tl.tl.hd | exact E.tl.tl.tl.tl.tl.tl.tl.tl.tl.tl.tl.hd) (by omega) HN.out HT.out).mono ?_); rintro e w1 ⟨A1, c1, A2, c2, rfl, o1, o2, b1⟩; replace E := ((E.next b1).add o1.sv).add o2.sv; replace hB := thn hB b1; clear b1 o1 o2))
  have d0 : w1.cell? ⟨b, off, none⟩ = some (.int .u8 (x : Nat)) := by rw [hB.cell (p := ⟨b, off, none⟩) hb]; exact C0.out
  have d1 : w1.cell? ⟨b, off + 1, none⟩ = some (.int .u8 (y : Nat)) := by rw [hB.cell (p := ⟨b, off + 1, none⟩) hb]; exact C1.out
  go_quiet (fail)
  replace hB := dN hB nq
  clear d0 d1
  generalize w1.drewN nq = w2 at *
  go_wp2_with (first
    | (go_at_call 13; go_must (refine (same_any _ _ _ _ _ _ _ _ _ _ _ (by first | exact E.hd | exact E.tl.hd | exact E.tl.tl.hd | exact E.tl.tl.tl.hd | exact E.tl.tl.tl.tl.hd | exact E.tl.tl.tl.tl.tl.hd | exact E.tl.tl.tl.tl.tl.tl.hd | exact E.tl.tl.tl.tl.tl.tl.tl.hd | exact E.tl.tl.tl.tl.tl.tl.tl.tl.hd | exact E.tl.tl.tl.tl.tl.tl.tl.tl.tl.hd | exact E.tl.tl.tl.tl.tl.tl.tl.tl.tl.tl.hd | exact E.tl.tl.tl.tl.tl.tl.tl.tl.tl.tl.tl.hd) (by first | exact E.hd | exact E.tl.hd | exact E.tl.tl.hd | exact E.tl.tl.tl.hd | exact E.tl.tl.tl.tl.hd | exact E.tl.tl.tl.tl.tl.hd | exact E.tl.tl.tl.tl.tl.tl.hd | exact E.tl.tl.tl.tl.tl.tl.tl.hd | exact E.tl.tl.tl.tl.tl.tl.tl.tl.hd | exact E.tl.tl.tl.tl.tl.tl.tl.tl.tl.hd | exact E.tl.tl.tl.tl.tl.tl.tl.tl.tl.tl.hd | exact E.tl.tl.tl.tl.tl.tl.tl.tl.tl.tl.tl.hd)).mono ?_); rintro e w1 ⟨rfl, rfl⟩)
    | (go_at_call 8; go_must (refine (awake_any _).mono ?_); rintro e w1 ⟨rfl, b1⟩; replace hB := thn hB b1; clear b1))
  go_ret
  exact ⟨rfl, hB⟩

set_option maxHeartbeats 400000 in
theorem short_ok_end (A : Option Addr) (n c : Nat) (l : List UInt8) (m most : Int) (N : Nat) (w : World) (h : Sl w w.heap.size A n c l) (hn : (n : Int) ≤ 200) (hm : 1 ≤ m ∧ m ≤ 8 ∧ m ≤ (n : Int)) (hN : num (l.take 2) = N) (ht : (n : Int) - 2 < N ∧ (N : Int) ≤ most ∧ 2 ≤ n) :
    Calls Try.prog 6 #[.slice A n c, .int .i64 m, .int .i64 most] w fun e w' => e = .returned (.bool true) ∧ Below w.heap.size w w' := by
  have HT : Hid (¬ (2 ≤ n ∧ (N : Int) ≤ most ∧ N ≤ n - 2)) := by unfold Hid; omega
  have HN : Hid (num (l.take 2) = N) := hN
  have HM : Hid (1 ≤ m ∧ m ≤ 8 ∧ m ≤ (n : Int)) := hm
  obtain ⟨m, rfl⟩ := Int.eq_ofNat_of_zero_le (show 0 ≤ m by omega)
  have m1 : (1 : Int) ≤ m := hm.1
  have m2 : (m : Int) ≤ 8 := hm.2.1
  have m3 : (m : Int) ≤ n := hm.2.2
  have q1 : ((n - m : Nat) : Int) = n - m := by omega
  clear hm
  obtain ⟨b, off, rfl, hb, hc⟩ := h.at_ (by omega)
  have hl := sl_len h
  have c0 : w.cell? ⟨b, off, none⟩ = some (.int .u8 ((l[0]'(by omega)).toNat : Nat)) := by have := hc 0 (Bv (l[0]'(by omega))) (by simp [List.getElem?_eq_getElem (show 0 < l.length by omega)]); simpa [Bv] using this
  have c1 : w.cell? ⟨b, off + 1, none⟩ = some (.int .u8 ((l[1]'(by omega)).toNat : Nat)) := hc 1 (Bv (l[1]'(by omega))) (by simp [List.getElem?_eq_getElem (show 1 < l.length by omega)])
  have h2 := two_bytes l (by omega)
  clear hc
  have u0 := (l[0]'(by omega)).toNat_lt
  have u1 := (l[1]'(by omega)).toNat_lt
  generalize (l[0]'(by omega)).toNat = x at *
  generalize (l[1]'(by omega)).toNat = y at *
  have HE : Hid (N = x * 256 + y) := by rw [← hN]; exact h2
  have hO := or_byte64 x y u0 u1
  rw [← HE.out] at hO
  have f0 : (0 : Int) < n := by omega
  have f1 : (1 : Int) < n := by omega
  clear h2 hl hN
  have t1 := ht.1
  have t2 := ht.2.1
  clear ht
  have E : Env w [(some ⟨b, off, none⟩, n, c, l.map Bv)] := (Env.nil w).add h
  have hB := Below.refl w.heap.size w
  clear h
  have C0 : Hid (w.cell? ⟨b, off, none⟩ = some (.int .u8 (x : Nat))) := c0
  have C1 : Hid (w.cell? ⟨b, off + 1, none⟩ = some (.int .u8 (y : Nat))) := c1
  clear c0 c1
  go_enter Try.func6, Try.ntmps6
  go_wp2_with (first
    | (go_at_call 9; go_must (refine (take_yes_at _ _ _ l _ _ (by first | exact E.hd | exact E.tl.hd | exact E.tl.tl.hd | exact E.tl.tl.tl.hd | exact E.tl.tl.tl.tl.hd | exact E.tl.tl.tl.tl.tl.hd | exact E.tl.tl.tl.tl.tl.tl.hd | exact E.tl.tl.tl.tl.tl.tl.tl.hd | exact E.tl.tl.tl.tl.tl.tl.tl.tl.hd | exact E.tl.tl.tl.tl.tl.tl.tl.tl.tl.hd | exact E.tl.tl.tl.tl.tl.tl.tl.tl.tl.tl.hd | exact E.tl.tl.tl.tl.tl.tl.tl.tl.tl.tl.tl.hd) (by omega) HM.out).mono ?_); rintro e w1 ⟨A1, c1, rfl, o1, b1⟩; replace E := (E.next b1).add o1.sv; replace hB := thn hB b1; clear b1 o1)
    | (go_at_call 11; go_must (refine (text_no_at _ _ _ l _ N _ (by first | exact E.hd | exact E.tl.hd | exact E.tl.tl.hd | exact E.tl.tl.tl.hd | exact E.tl.tl.tl.tl.hd | exact E.tl.tl.tl.tl.tl.hd | exact E.tl.tl.tl.tl.tl.tl.hd | exact E.tl.tl.tl.tl.tl.tl.tl.hd | exact E.tl.tl.tl.tl.tl.tl.tl.tl.hd | exact E.tl.tl.tl.tl.tl.tl.tl.tl.tl.hd | exact E.tl.tl.tl.tl.tl.tl.tl.tl.tl.tl.hd | exact E.tl.tl.tl.tl.tl.tl.tl.tl.tl.tl.tl.hd) (by omega) HN.out HT.out).mono ?_); rintro e w1 ⟨A1, c1, A2, c2, rfl, o1, o2, b1⟩; replace E := ((E.next b1).add o1.sv).add o2.sv; replace hB := thn hB b1; clear b1 o1 o2))
  have d0 : w1.cell? ⟨b, off, none⟩ = some (.int .u8 (x : Nat)) := by rw [hB.cell (p := ⟨b, off, none⟩) hb]; exact C0.out
  have d1 : w1.cell? ⟨b, off + 1, none⟩ = some (.int .u8 (y : Nat)) := by rw [hB.cell (p := ⟨b, off + 1, none⟩) hb]; exact C1.out
  go_quiet (fail)
  replace hB := dN hB nq
  clear d0 d1
  generalize w1.drewN nq = w2 at *
  go_wp2_with (first
    | (go_at_call 13; go_must (refine (same_any _ _ _ _ _ _ _ _ _ _ _ (by first | exact E.hd | exact E.tl.hd | exact E.tl.tl.hd | exact E.tl.tl.tl.hd | exact E.tl.tl.tl.tl.hd | exact E.tl.tl.tl.tl.tl.hd | exact E.tl.tl.tl.tl.tl.tl.hd | exact E.tl.tl.tl.tl.tl.tl.tl.hd | exact E.tl.tl.tl.tl.tl.tl.tl.tl.hd | exact E.tl.tl.tl.tl.tl.tl.tl.tl.tl.hd | exact E.tl.tl.tl.tl.tl.tl.tl.tl.tl.tl.hd | exact E.tl.tl.tl.tl.tl.tl.tl.tl.tl.tl.tl.hd) (by first | exact E.hd | exact E.tl.hd | exact E.tl.tl.hd | exact E.tl.tl.tl.hd | exact E.tl.tl.tl.tl.hd | exact E.tl.tl.tl.tl.tl.hd | exact E.tl.tl.tl.tl.tl.tl.hd | exact E.tl.tl.tl.tl.tl.tl.tl.hd | exact E.tl.tl.tl.tl.tl.tl.tl.tl.hd | exact E.tl.tl.tl.tl.tl.tl.tl.tl.tl.hd | exact E.tl.tl.tl.tl.tl.tl.tl.tl.tl.tl.hd | exact E.tl.tl.tl.tl.tl.tl.tl.tl.tl.tl.tl.hd)).mono ?_); rintro e w1 ⟨rfl, rfl⟩)
    | (go_at_call 8; go_must (refine (awake_any _).mono ?_); rintro e w1 ⟨rfl, b1⟩; replace hB := thn hB b1; clear b1))
  go_ret
  exact ⟨rfl, hB⟩

set_option maxHeartbeats 400000 in
theorem short_lo_yes (A : Option Addr) (n c : Nat) (l : List UInt8) (m most : Int) (N : Nat) (w : World) (h : Sl w w.heap.size A n c l) (hn : (n : Int) ≤ 200) (hm : m < 1) (hN : num (l.take 2) = N) (ht : 2 ≤ n ∧ (N : Int) ≤ most ∧ N ≤ n - 2) :
    Calls Try.prog 6 #[.slice A n c, .int .i64 m, .int .i64 most] w fun e w' => e = .returned (.bool true) ∧ Below w.heap.size w w' := by
  have HT : Hid (2 ≤ n ∧ (N : Int) ≤ most ∧ N ≤ n - 2) := ht
  have HN : Hid (num (l.take 2) = N) := hN
  have HM : Hid (¬ (1 ≤ m ∧ m ≤ 8 ∧ m ≤ (n : Int))) := by unfold Hid; omega
  have t1 : (2 : Int) ≤ n := by omega
  have t2 : (N : Int) ≤ most := ht.2.1
  have t3 : (N : Int) ≤ n - 2 := by omega
  obtain ⟨A9, hrun, hf⟩ := h.mid (lo := 2) (hi := 2 + N) (by omega) (by omega) 22 5 Try.underlying22 elem22 size5 .i64 .i64 2 (2 + (N : Int)) rfl (by omega)
  rw [← List.map_take, ← List.map_drop, List.drop_take, show 2 + N - 2 = N from by omega] at hf
  simp only [show 2 + N - 2 = N from by omega] at hrun
  have hc := h.cap
  clear ht hN
  have E : Env w [(A, n, c, l.map Bv), (A9, N, c - 2, ((l.drop 2).take N).map Bv)] := ((Env.nil w).add hf).add h
  have hB := Below.refl w.heap.size w
  clear h hf
  go_enter Try.func6, Try.ntmps6
  go_wp2_with (first
    | (go_at_call 9; go_must (refine (take_no_at _ _ _ l _ _ (by first | exact E.hd | exact E.tl.hd | exact E.tl.tl.hd | exact E.tl.tl.tl.hd | exact E.tl.tl.tl.tl.hd | exact E.tl.tl.tl.tl.tl.hd | exact E.tl.tl.tl.tl.tl.tl.hd | exact E.tl.tl.tl.tl.tl.tl.tl.hd | exact E.tl.tl.tl.tl.tl.tl.tl.tl.hd | exact E.tl.tl.tl.tl.tl.tl.tl.tl.tl.hd | exact E.tl.tl.tl.tl.tl.tl.tl.tl.tl.tl.hd | exact E.tl.tl.tl.tl.tl.tl.tl.tl.tl.tl.tl.hd) (by omega) HM.out).mono ?_); rintro e w1 ⟨A1, c1, rfl, o1, b1⟩; replace E := (E.next b1).add o1.sv; replace hB := thn hB b1; clear b1 o1)
    | (go_at_call 11; go_must (refine (text_yes_at _ _ _ l _ N _ (by first | exact E.hd | exact E.tl.hd | exact E.tl.tl.hd | exact E.tl.tl.tl.hd | exact E.tl.tl.tl.tl.hd | exact E.tl.tl.tl.tl.tl.hd | exact E.tl.tl.tl.tl.tl.tl.hd | exact E.tl.tl.tl.tl.tl.tl.tl.hd | exact E.tl.tl.tl.tl.tl.tl.tl.tl.hd | exact E.tl.tl.tl.tl.tl.tl.tl.tl.tl.hd | exact E.tl.tl.tl.tl.tl.tl.tl.tl.tl.tl.hd | exact E.tl.tl.tl.tl.tl.tl.tl.tl.tl.tl.tl.hd) (by omega) HN.out HT.out).mono ?_); rintro e w1 ⟨A1, c1, A2, c2, rfl, o1, o2, _, b1⟩; replace E := ((E.next b1).add o1.sv).add o2.sv; replace hB := thn hB b1; clear b1 o1 o2)
    | (go_at_call 13; go_must (refine (same_any _ _ _ _ _ _ _ _ _ _ _ (by first | exact E.hd | exact E.tl.hd | exact E.tl.tl.hd | exact E.tl.tl.tl.hd | exact E.tl.tl.tl.tl.hd | exact E.tl.tl.tl.tl.tl.hd | exact E.tl.tl.tl.tl.tl.tl.hd | exact E.tl.tl.tl.tl.tl.tl.tl.hd | exact E.tl.tl.tl.tl.tl.tl.tl.tl.hd | exact E.tl.tl.tl.tl.tl.tl.tl.tl.tl.hd | exact E.tl.tl.tl.tl.tl.tl.tl.tl.tl.tl.hd | exact E.tl.tl.tl.tl.tl.tl.tl.tl.tl.tl.tl.hd) (by first | exact E.hd | exact E.tl.hd | exact E.tl.tl.hd | exact E.tl.tl.tl.hd | exact E.tl.tl.tl.tl.hd | exact E.tl.tl.tl.tl.tl.hd | exact E.tl.tl.tl.tl.tl.tl.hd | exact E.tl.tl.tl.tl.tl.tl.tl.hd | exact E.tl.tl.tl.tl.tl.tl.tl.tl.hd | exact E.tl.tl.tl.tl.tl.tl.tl.tl.tl.hd | exact E.tl.tl.tl.tl.tl.tl.tl.tl.tl.tl.hd | exact E.tl.tl.tl.tl.tl.tl.tl.tl.tl.tl.tl.hd)).mono ?_); rintro e w1 ⟨rfl, rfl⟩)
    | (go_at_call 8; go_must (refine (awake_any _).mono ?_); rintro e w1 ⟨rfl, b1⟩; replace hB := thn hB b1; clear b1))
  go_ret
  exact ⟨rfl, hB⟩

set_option maxHeartbeats 400000 in
theorem short_lo_lo (A : Option Addr) (n c : Nat) (l : List UInt8) (m most : Int) (N : Nat) (w : World) (h : Sl w w.heap.size A n c l) (hn : (n : Int) ≤ 200) (hm : m < 1) (hN : num (l.take 2) = N) (ht : (n : Int) < 2) :
    Calls Try.prog 6 #[.slice A n c, .int .i64 m, .int .i64 most] w fun e w' => e = .returned (.bool true) ∧ Below w.heap.size w w' := by
  have HT : Hid (¬ (2 ≤ n ∧ (N : Int) ≤ most ∧ N ≤ n - 2)) := by unfold Hid; omega
  have HN : Hid (num (l.take 2) = N) := hN
  have HM : Hid (¬ (1 ≤ m ∧ m ≤ 8 ∧ m ≤ (n : Int))) := by unfold Hid; omega

  clear hN
  have E : Env w [(A, n, c, l.map Bv)] := (Env.nil w).add h
  have hB := Below.refl w.heap.size w
  clear h
  go_enter Try.func6, Try.ntmps6
  go_wp2_with (first
    | (go_at_call 9; go_must (refine (take_no_at _ _ _ l _ _ (by first | exact E.hd | exact E.tl.hd | exact E.tl.tl.hd | exact E.tl.tl.tl.hd | exact E.tl.tl.tl.tl.hd | exact E.tl.tl.tl.tl.tl.hd | exact E.tl.tl.tl.tl.tl.tl.hd | exact E.tl.tl.tl.tl.tl.tl.tl.hd | exact E.tl.tl.tl.tl.tl.tl.tl.tl.hd | exact E.tl.tl.tl.tl.tl.tl.tl.tl.tl.hd | exact E.tl.tl.tl.tl.tl.tl.tl.tl.tl.tl.hd | exact E.tl.tl.tl.tl.tl.tl.tl.tl.tl.tl.tl.hd) (by omega) HM.out).mono ?_); rintro e w1 ⟨A1, c1, rfl, o1, b1⟩; replace E := (E.next b1).add o1.sv; replace hB := thn hB b1; clear b1 o1)
    | (go_at_call 11; go_must (refine (text_no_at _ _ _ l _ N _ (by first | exact E.hd | exact E.tl.hd | exact E.tl.tl.hd | exact E.tl.tl.tl.hd | exact E.tl.tl.tl.tl.hd | exact E.tl.tl.tl.tl.tl.hd | exact E.tl.tl.tl.tl.tl.tl.hd | exact E.tl.tl.tl.tl.tl.tl.tl.hd | exact E.tl.tl.tl.tl.tl.tl.tl.tl.hd | exact E.tl.tl.tl.tl.tl.tl.tl.tl.tl.hd | exact E.tl.tl.tl.tl.tl.tl.tl.tl.tl.tl.hd | exact E.tl.tl.tl.tl.tl.tl.tl.tl.tl.tl.tl.hd) (by omega) HN.out HT.out).mono ?_); rintro e w1 ⟨A1, c1, A2, c2, rfl, o1, o2, b1⟩; replace E := ((E.next b1).add o1.sv).add o2.sv; replace hB := thn hB b1; clear b1 o1 o2)
    | (go_at_call 13; go_must (refine (same_any _ _ _ _ _ _ _ _ _ _ _ (by first | exact E.hd | exact E.tl.hd | exact E.tl.tl.hd | exact E.tl.tl.tl.hd | exact E.tl.tl.tl.tl.hd | exact E.tl.tl.tl.tl.tl.hd | exact E.tl.tl.tl.tl.tl.tl.hd | exact E.tl.tl.tl.tl.tl.tl.tl.hd | exact E.tl.tl.tl.tl.tl.tl.tl.tl.hd | exact E.tl.tl.tl.tl.tl.tl.tl.tl.tl.hd | exact E.tl.tl.tl.tl.tl.tl.tl.tl.tl.tl.hd | exact E.tl.tl.tl.tl.tl.tl.tl.tl.tl.tl.tl.hd) (by first | exact E.hd | exact E.tl.hd | exact E.tl.tl.hd | exact E.tl.tl.tl.hd | exact E.tl.tl.tl.tl.hd | exact E.tl.tl.tl.tl.tl.hd | exact E.tl.tl.tl.tl.tl.tl.hd | exact E.tl.tl.tl.tl.tl.tl.tl.hd | exact E.tl.tl.tl.tl.tl.tl.tl.tl.hd | exact E.tl.tl.tl.tl.tl.tl.tl.tl.tl.hd | exact E.tl.tl.tl.tl.tl.tl.tl.tl.tl.tl.hd | exact E.tl.tl.tl.tl.tl.tl.tl.tl.tl.tl.tl.hd)).mono ?_); rintro e w1 ⟨rfl, rfl⟩)
    | (go_at_call 8; go_must (refine (awake_any _).mono ?_); rintro e w1 ⟨rfl, b1⟩; replace hB := thn hB b1; clear b1))
  go_ret
  exact ⟨rfl, hB⟩

set_option maxHeartbeats 400000 in
theorem short_lo_most (A : Option Addr) (n c : Nat) (l : List UInt8) (m most : Int) (N : Nat) (w : World) (h : Sl w w.heap.size A n c l) (hn : (n : Int) ≤ 200) (hm : m < 1) (hN : num (l.take 2) = N) (ht : most < (N : Int) ∧ 2 ≤ n) :
    Calls Try.prog 6 #[.slice A n c, .int .i64 m, .int .i64 most] w fun e w' => e = .returned (.bool true) ∧ Below w.heap.size w w' := by
  have HT : Hid (¬ (2 ≤ n ∧ (N : Int) ≤ most ∧ N ≤ n - 2)) := by unfold Hid; omega
  have HN : Hid (num (l.take 2) = N) := hN
  have HM : Hid (¬ (1 ≤ m ∧ m ≤ 8 ∧ m ≤ (n : Int))) := by unfold Hid; omega

  obtain ⟨b, off, rfl, hb, hc⟩ := h.at_ (by omega)
  have hl := sl_len h
  have c0 : w.cell? ⟨b, off, none⟩ = some (.int .u8 ((l[0]'(by omega)).toNat : Nat)) := by have := hc 0 (Bv (l[0]'(by omega))) (by simp [List.getElem?_eq_getElem (show 0 < l.length by omega)]); simpa [Bv] using this
  have c1 : w.cell? ⟨b, off + 1, none⟩ = some (.int .u8 ((l[1]'(by omega)).toNat : Nat)) := hc 1 (Bv (l[1]'(by omega))) (by simp [List.getElem?_eq_getElem (show 1 < l.length by omega)])
  have h2 := two_bytes l (by omega)
  clear hc
  have u0 := (l[0]'(by omega)).toNat_lt
  have u1 := (l[1]'(by omega)).toNat_lt
  generalize (l[0]'(by omega)).toNat = x at *
  generalize (l[1]'(by omega)).toNat = y at *
  have HE : Hid (N = x * 256 + y) := by rw [← hN]; exact h2
  have hO := or_byte64 x y u0 u1
  rw [← HE.out] at hO
  have f0 : (0 : Int) < n := by omega
  have f1 : (1 : Int) < n := by omega
  clear h2 hl hN
  have t1 := ht.1
  clear ht
  have E : Env w [(some ⟨b, off, none⟩, n, c, l.map Bv)] := (Env.nil w).add h
  have hB := Below.refl w.heap.size w
  clear h
  have C0 : Hid (w.cell? ⟨b, off, none⟩ = some (.int .u8 (x : Nat))) := c0
  have C1 : Hid (w.cell? ⟨b, off + 1, none⟩ = some (.int .u8 (y : Nat))) := c1
  clear c0 c1
  go_enter Try.func6, Try.ntmps6
  go_wp2_with (first
    | (go_at_call 9; go_must (refine (take_no_at _ _ _ l _ _ (by first | exact E.hd | exact E.tl.hd | exact E.tl.tl.hd | exact E.tl.tl.tl.hd | exact E.tl.tl.tl.tl.hd | exact E.tl.tl.tl.tl.tl.hd | exact E.tl.tl.tl.tl.tl.tl.hd | exact E.tl.tl.tl.tl.tl.tl.tl.hd | exact E.tl.tl.tl.tl.tl.tl.tl.tl.hd | exact E.tl.tl.tl.tl.tl.tl.tl.tl.tl.hd | exact E.tl.tl.tl.tl.tl.tl.tl.tl.tl.tl.hd | exact E.tl.tl.tl.tl.tl.tl.tl.tl.tl.tl.tl.hd) (by omega) HM.out).mono ?_); rintro e w1 ⟨A1, c1, rfl, o1, b1⟩; replace E := (E.next b1).add o1.sv; replace hB := thn hB b1; clear b1 o1)
    | (go_at_call 11; go_must (refine (text_no_at _ _ _ l _ N _ (by first | exact E.hd | exact E.tl.hd | exact E.tl.tl.hd | exact E.tl.tl.tl.hd | exact E.tl.tl.tl.tl.hd | exact E.tl.tl.tl.tl.tl.hd | exact E.tl.tl.tl.tl.tl.tl.hd | exact E.tl.tl.tl.tl.tl.tl.tl.hd | exact E.tl.tl.tl.tl.tl.tl.tl.tl.hd | exact E.tl.tl.tl.tl.tl.tl.tl.tl.tl.hd | exact E.tl.tl.tl.tl.tl.tl.tl.tl.tl.tl.hd | exact E.tl.tl.tl.tl.tl.tl.tl.tl.tl.tl.tl.hd) (by omega) HN.out HT.out).mono ?_); rintro e w1 ⟨A1, c1, A2, c2, rfl, o1, o2, b1⟩; replace E := ((E.next b1).add o1.sv).add o2.sv; replace hB := thn hB b1; clear b1 o1 o2))
  have d0 : w1.cell? ⟨b, off, none⟩ = some (.int .u8 (x : Nat)) := by rw [hB.cell (p := ⟨b, off, none⟩) hb]; exact C0.out
  have d1 : w1.cell? ⟨b, off + 1, none⟩ = some (.int .u8 (y : Nat)) := by rw [hB.cell (p := ⟨b, off + 1, none⟩) hb]; exact C1.out
  go_quiet (fail)
  replace hB := dN hB nq
  clear d0 d1
  generalize w1.drewN nq = w2 at *
  go_wp2_with (first
    | (go_at_call 13; go_must (refine (same_any _ _ _ _ _ _ _ _ _ _ _ (by first | exact E.hd | exact E.tl.hd | exact E.tl.tl.hd | exact E.tl.tl.tl.hd | exact E.tl.tl.tl.tl.hd | exact E.tl.tl.tl.tl.tl.hd | exact E.tl.tl.tl.tl.tl.tl.hd | exact E.tl.tl.tl.tl.tl.tl.tl.hd | exact E.tl.tl.tl.tl.tl.tl.tl.tl.hd | exact E.tl.tl.tl.tl.tl.tl.tl.tl.tl.hd | exact E.tl.tl.tl.tl.tl.tl.tl.tl.tl.tl.hd | exact E.tl.tl.tl.tl.tl.tl.tl.tl.tl.tl.tl.hd) (by first | exact E.hd | exact E.tl.hd | exact E.tl.tl.hd | exact E.tl.tl.tl.hd | exact E.tl.tl.tl.tl.hd | exact E.tl.tl.tl.tl.tl.hd | exact E.tl.tl.tl.tl.tl.tl.hd | exact E.tl.tl.tl.tl.tl.tl.tl.hd | exact E.tl.tl.tl.tl.tl.tl.tl.tl.hd | exact E.tl.tl.tl.tl.tl.tl.tl.tl.tl.hd | exact E.tl.tl.tl.tl.tl.tl.tl.tl.tl.tl.hd | exact E.tl.tl.tl.tl.tl.tl.tl.tl.tl.tl.tl.hd)).mono ?_); rintro e w1 ⟨rfl, rfl⟩)
    | (go_at_call 8; go_must (refine (awake_any _).mono ?_); rintro e w1 ⟨rfl, b1⟩; replace hB := thn hB b1; clear b1))
  go_ret
  exact ⟨rfl, hB⟩

set_option maxHeartbeats 400000 in
theorem short_lo_end (A : Option Addr) (n c : Nat) (l : List UInt8) (m most : Int) (N : Nat) (w : World) (h : Sl w w.heap.size A n c l) (hn : (n : Int) ≤ 200) (hm : m < 1) (hN : num (l.take 2) = N) (ht : (n : Int) - 2 < N ∧ (N : Int) ≤ most ∧ 2 ≤ n) :
    Calls Try.prog 6 #[.slice A n c, .int .i64 m, .int .i64 most] w fun e w' => e = .returned (.bool true) ∧ Below w.heap.size w w' := by
  have HT : Hid (¬ (2 ≤ n ∧ (N : Int) ≤ most ∧ N ≤ n - 2)) := by unfold Hid; omega
  have HN : Hid (num (l.take 2) = N) := hN
  have HM : Hid (¬ (1 ≤ m ∧ m ≤ 8 ∧ m ≤ (n : Int))) := by unfold Hid; omega

  obtain ⟨b, off, rfl, hb, hc⟩ := h.at_ (by omega)
  have hl := sl_len h
  have c0 : w.cell? ⟨b, off, none⟩ = some (.int .u8 ((l[0]'(by omega)).toNat : Nat)) := by have := hc 0 (Bv (l[0]'(by omega))) (by simp [List.getElem?_eq_getElem (show 0 < l.length by omega)]); simpa [Bv] using this
  have c1 : w.cell? ⟨b, off + 1, none⟩ = some (.int .u8 ((l[1]'(by omega)).toNat : Nat)) := hc 1 (Bv (l[1]'(by omega))) (by simp [List.getElem?_eq_getElem (show 1 < l.length by omega)])
  have h2 := two_bytes l (by omega)
  clear hc
  have u0 := (l[0]'(by omega)).toNat_lt
  have u1 := (l[1]'(by omega)).toNat_lt
  generalize (l[0]'(by omega)).toNat = x at *
  generalize (l[1]'(by omega)).toNat = y at *
  have HE : Hid (N = x * 256 + y) := by rw [← hN]; exact h2
  have hO := or_byte64 x y u0 u1
  rw [← HE.out] at hO
  have f0 : (0 : Int) < n := by omega
  have f1 : (1 : Int) < n := by omega
  clear h2 hl hN
  have t1 := ht.1
  have t2 := ht.2.1
  clear ht
  have E : Env w [(some ⟨b, off, none⟩, n, c, l.map Bv)] := (Env.nil w).add h
  have hB := Below.refl w.heap.size w
  clear h
  have C0 : Hid (w.cell? ⟨b, off, none⟩ = some (.int .u8 (x : Nat))) := c0
  have C1 : Hid (w.cell? ⟨b, off + 1, none⟩ = some (.int .u8 (y : Nat))) := c1
  clear c0 c1
  go_enter Try.func6, Try.ntmps6
  go_wp2_with (first
    | (go_at_call 9; go_must (refine (take_no_at _ _ _ l _ _ (by first | exact E.hd | exact E.tl.hd | exact E.tl.tl.hd | exact E.tl.tl.tl.hd | exact E.tl.tl.tl.tl.hd | exact E.tl.tl.tl.tl.tl.hd | exact E.tl.tl.tl.tl.tl.tl.hd | exact E.tl.tl.tl.tl.tl.tl.tl.hd | exact E.tl.tl.tl.tl.tl.tl.tl.tl.hd | exact E.tl.tl.tl.tl.tl.tl.tl.tl.tl.hd | exact E.tl.tl.tl.tl.tl.tl.tl.tl.tl.tl.hd | exact E.tl.tl.tl.tl.tl.tl.tl.tl.tl.tl.tl.hd) (by omega) HM.out).mono ?_); rintro e w1 ⟨A1, c1, rfl, o1, b1⟩; replace E := (E.next b1).add o1.sv; replace hB := thn hB b1; clear b1 o1)
    | (go_at_call 11; go_must (refine (text_no_at _ _ _ l _ N _ (by first | exact E.hd | exact E.tl.hd | exact E.tl.tl.hd | exact E.tl.tl.tl.hd | exact E.tl.tl.tl.tl.hd | exact E.tl.tl.tl.tl.tl.hd | exact E.tl.tl.tl.tl.tl.tl.hd | exact E.tl.tl.tl.tl.tl.tl.tl.hd | exact E.tl.tl.tl.tl.tl.tl.tl.tl.hd | exact E.tl.tl.tl.tl.tl.tl.tl.tl.tl.hd | exact E.tl.tl.tl.tl.tl.tl.tl.tl.tl.tl.hd | exact E.tl.tl.tl.tl.tl.tl.tl.tl.tl.tl.tl.hd) (by omega) HN.out HT.out).mono ?_); rintro e w1 ⟨A1, c1, A2, c2, rfl, o1, o2, b1⟩; replace E := ((E.next b1).add o1.sv).add o2.sv; replace hB := thn hB b1; clear b1 o1 o2))
  have d0 : w1.cell? ⟨b, off, none⟩ = some (.int .u8 (x : Nat)) := by rw [hB.cell (p := ⟨b, off, none⟩) hb]; exact C0.out
  have d1 : w1.cell? ⟨b, off + 1, none⟩ = some (.int .u8 (y : Nat)) := by rw [hB.cell (p := ⟨b, off + 1, none⟩) hb]; exact C1.out
  go_quiet (fail)
  replace hB := dN hB nq
  clear d0 d1
  generalize w1.drewN nq = w2 at *
  go_wp2_with (first
    | (go_at_call 13; go_must (refine (same_any _ _ _ _ _ _ _ _ _ _ _ (by first | exact E.hd | exact E.tl.hd | exact E.tl.tl.hd | exact E.tl.tl.tl.hd | exact E.tl.tl.tl.tl.hd | exact E.tl.tl.tl.tl.tl.hd | exact E.tl.tl.tl.tl.tl.tl.hd | exact E.tl.tl.tl.tl.tl.tl.tl.hd | exact E.tl.tl.tl.tl.tl.tl.tl.tl.hd | exact E.tl.tl.tl.tl.tl.tl.tl.tl.tl.hd | exact E.tl.tl.tl.tl.tl.tl.tl.tl.tl.tl.hd | exact E.tl.tl.tl.tl.tl.tl.tl.tl.tl.tl.tl.hd) (by first | exact E.hd | exact E.tl.hd | exact E.tl.tl.hd | exact E.tl.tl.tl.hd | exact E.tl.tl.tl.tl.hd | exact E.tl.tl.tl.tl.tl.hd | exact E.tl.tl.tl.tl.tl.tl.hd | exact E.tl.tl.tl.tl.tl.tl.tl.hd | exact E.tl.tl.tl.tl.tl.tl.tl.tl.hd | exact E.tl.tl.tl.tl.tl.tl.tl.tl.tl.hd | exact E.tl.tl.tl.tl.tl.tl.tl.tl.tl.tl.hd | exact E.tl.tl.tl.tl.tl.tl.tl.tl.tl.tl.tl.hd)).mono ?_); rintro e w1 ⟨rfl, rfl⟩)
    | (go_at_call 8; go_must (refine (awake_any _).mono ?_); rintro e w1 ⟨rfl, b1⟩; replace hB := thn hB b1; clear b1))
  go_ret
  exact ⟨rfl, hB⟩

set_option maxHeartbeats 400000 in
theorem short_hi_yes (A : Option Addr) (n c : Nat) (l : List UInt8) (m most : Int) (N : Nat) (w : World) (h : Sl w w.heap.size A n c l) (hn : (n : Int) ≤ 200) (hm : 8 < m) (hN : num (l.take 2) = N) (ht : 2 ≤ n ∧ (N : Int) ≤ most ∧ N ≤ n - 2) :
    Calls Try.prog 6 #[.slice A n c, .int .i64 m, .int .i64 most] w fun e w' => e = .returned (.bool true) ∧ Below w.heap.size w w' := by
  have HT : Hid (2 ≤ n ∧ (N : Int) ≤ most ∧ N ≤ n - 2) := ht
  have HN : Hid (num (l.take 2) = N) := hN
  have HM : Hid (¬ (1 ≤ m ∧ m ≤ 8 ∧ m ≤ (n : Int))) := by unfold Hid; omega
  have t1 : (2 : Int) ≤ n := by omega
  have t2 : (N : Int) ≤ most := ht.2.1
  have t3 : (N : Int) ≤ n - 2 := by omega
  obtain ⟨A9, hrun, hf⟩ := h.mid (lo := 2) (hi := 2 + N) (by omega) (by omega) 22 5 Try.underlying22 elem22 size5 .i64 .i64 2 (2 + (N : Int)) rfl (by omega)
  rw [← List.map_take, ← List.map_drop, List.drop_take, show 2 + N - 2 = N from by omega] at hf
  simp only [show 2 + N - 2 = N from by omega] at hrun
  have hc := h.cap
  clear ht hN
  have E : Env w [(A, n, c, l.map Bv), (A9, N, c - 2, ((l.drop 2).take N).map Bv)] := ((Env.nil w).add hf).add h
  have hB := Below.refl w.heap.size w
  clear h hf
  go_enter Try.func6, Try.ntmps6
  go_wp2_with (first
    | (go_at_call 9; go_must (refine (take_no_at _ _ _ l _ _ (by first | exact E.hd | exact E.tl.hd | exact E.tl.tl.hd | exact E.tl.tl.tl.hd | exact E.tl.tl.tl.tl.hd | exact E.tl.tl.tl.tl.tl.hd | exact E.tl.tl.tl.tl.tl.tl.hd | exact E.tl.tl.tl.tl.tl.tl.tl.hd | exact E.tl.tl.tl.tl.tl.tl.tl.tl.hd | exact E.tl.tl.tl.tl.tl.tl.tl.tl.tl.hd | exact E.tl.tl.tl.tl.tl.tl.tl.tl.tl.tl.hd | exact E.tl.tl.tl.tl.tl.tl.tl.tl.tl.tl.tl.hd) (by omega) HM.out).mono ?_); rintro e w1 ⟨A1, c1, rfl, o1, b1⟩; replace E := (E.next b1).add o1.sv; replace hB := thn hB b1; clear b1 o1)
    | (go_at_call 11; go_must (refine (text_yes_at _ _ _ l _ N _ (by first | exact E.hd | exact E.tl.hd | exact E.tl.tl.hd | exact E.tl.tl.tl.hd | exact E.tl.tl.tl.tl.hd | exact E.tl.tl.tl.tl.tl.hd | exact E.tl.tl.tl.tl.tl.tl.hd | exact E.tl.tl.tl.tl.tl.tl.tl.hd | exact E.tl.tl.tl.tl.tl.tl.tl.tl.hd | exact E.tl.tl.tl.tl.tl.tl.tl.tl.tl.hd | exact E.tl.tl.tl.tl.tl.tl.tl.tl.tl.tl.hd | exact E.tl.tl.tl.tl.tl.tl.tl.tl.tl.tl.tl.hd) (by omega) HN.out HT.out).mono ?_); rintro e w1 ⟨A1, c1, A2, c2, rfl, o1, o2, _, b1⟩; replace E := ((E.next b1).add o1.sv).add o2.sv; replace hB := thn hB b1; clear b1 o1 o2)
    | (go_at_call 13; go_must (refine (same_any _ _ _ _ _ _ _ _ _ _ _ (by first | exact E.hd | exact E.tl.hd | exact E.tl.tl.hd | exact E.tl.tl.tl.hd | exact E.tl.tl.tl.tl.hd | exact E.tl.tl.tl.tl.tl.hd | exact E.tl.tl.tl.tl.tl.tl.hd | exact E.tl.tl.tl.tl.tl.tl.tl.hd | exact E.tl.tl.tl.tl.tl.tl.tl.tl.hd | exact E.tl.tl.tl.tl.tl.tl.tl.tl.tl.hd | exact E.tl.tl.tl.tl.tl.tl.tl.tl.tl.tl.hd | exact E.tl.tl.tl.tl.tl.tl.tl.tl.tl.tl.tl.hd) (by first | exact E.hd | exact E.tl.hd | exact E.tl.tl.hd | exact E.tl.tl.tl.hd | exact E.tl.tl.tl.tl.hd | exact E.tl.tl.tl.tl.tl.hd | exact E.tl.tl.tl.tl.tl.tl.hd | exact E.tl.tl.tl.tl.tl.tl.tl.hd | exact E.tl.tl.tl.tl.tl.tl.tl.tl.hd | exact E.tl.tl.tl.tl.tl.tl.tl.tl.tl.hd | exact E.tl.tl.tl.tl.tl.tl.tl.tl.tl.tl.hd | exact E.tl.tl.tl.tl.tl.tl.tl.tl.tl.tl.tl.hd)).mono ?_); rintro e w1 ⟨rfl, rfl⟩)
    | (go_at_call 8; go_must (refine (awake_any _).mono ?_); rintro e w1 ⟨rfl, b1⟩; replace hB := thn hB b1; clear b1))
  go_ret
  exact ⟨rfl, hB⟩

set_option maxHeartbeats 400000 in
theorem short_hi_lo (A : Option Addr) (n c : Nat) (l : List UInt8) (m most : Int) (N : Nat) (w : World) (h : Sl w w.heap.size A n c l) (hn : (n : Int) ≤ 200) (hm : 8 < m) (hN : num (l.take 2) = N) (ht : (n : Int) < 2) :
    Calls Try.prog 6 #[.slice A n c, .int .i64 m, .int .i64 most] w fun e w' => e = .returned (.bool true) ∧ Below w.heap.size w w' := by
  have HT : Hid (¬ (2 ≤ n ∧ (N : Int) ≤ most ∧ N ≤ n - 2)) := by unfold Hid; omega
  have HN : Hid (num (l.take 2) = N) := hN
  have HM : Hid (¬ (1 ≤ m ∧ m ≤ 8 ∧ m ≤ (n : Int))) := by unfold Hid; omega

  clear hN
  have E : Env w [(A, n, c, l.map Bv)] := (Env.nil w).add h
  have hB := Below.refl w.heap.size w
  clear h
  go_enter Try.func6, Try.ntmps6
  go_wp2_with (first
    | (go_at_call 9; go_must (refine (take_no_at _ _ _ l _ _ (by first | exact E.hd | exact E.tl.hd | exact E.tl.tl.hd | exact E.tl.tl.tl.hd | exact E.tl.tl.tl.tl.hd | exact E.tl.tl.tl.tl.tl.hd | exact E.tl.tl.tl.tl.tl.tl.hd | exact E.tl.tl.tl.tl.tl.tl.tl.hd | exact E.tl.tl.tl.tl.tl.tl.tl.tl.hd | exact E.tl.tl.tl.tl.tl.tl.tl.tl.tl.hd | exact E.tl.tl.tl.tl.tl.tl.tl.tl.tl.tl.hd | exact E.tl.tl.tl.tl.tl.tl.tl.tl.tl.tl.tl.hd) (by omega) HM.out).mono ?_); rintro e w1 ⟨A1, c1, rfl, o1, b1⟩; replace E := (E.next b1).add o1.sv; replace hB := thn hB b1; clear b1 o1)
    | (go_at_call 11; go_must (refine (text_no_at _ _ _ l _ N _ (by first | exact E.hd | exact E.tl.hd | exact E.tl.tl.hd | exact E.tl.tl.tl.hd | exact E.tl.tl.tl.tl.hd | exact E.tl.tl.tl.tl.tl.hd | exact E.tl.tl.tl.tl.tl.tl.hd | exact E.tl.tl.tl.tl.tl.tl.tl.hd | exact E.tl.tl.tl.tl.tl.tl.tl.tl.hd | exact E.tl.tl.tl.tl.tl.tl.tl.tl.tl.hd | exact E.tl.tl.tl.tl.tl.tl.tl.tl.tl.tl.hd | exact E.tl.tl.tl.tl.tl.tl.tl.tl.tl.tl.tl.hd) (by omega) HN.out HT.out).mono ?_); rintro e w1 ⟨A1, c1, A2, c2, rfl, o1, o2, b1⟩; replace E := ((E.next b1).add o1.sv).add o2.sv; replace hB := thn hB b1; clear b1 o1 o2)
    | (go_at_call 13; go_must (refine (same_any _ _ _ _ _ _ _ _ _ _ _ (by first | exact E.hd | exact E.tl.hd | exact E.tl.tl.hd | exact E.tl.tl.tl.hd | exact E.tl.tl.tl.tl.hd | exact E.tl.tl.tl.tl.tl.hd | exact E.tl.tl.tl.tl.tl.tl.hd | exact E.tl.tl.tl.tl.tl.tl.tl.hd | exact E.tl.tl.tl.tl.tl.tl.tl.tl.hd | exact E.tl.tl.tl.tl.tl.tl.tl.tl.tl.hd | exact E.tl.tl.tl.tl.tl.tl.tl.tl.tl.tl.hd | exact E.tl.tl.tl.tl.tl.tl.tl.tl.tl.tl.tl.hd) (by first | exact E.hd | exact E.tl.hd | exact E.tl.tl.hd | exact E.tl.tl.tl.hd | exact E.tl.tl.tl.tl.hd | exact E.tl.tl.tl.tl.tl.hd | exact E.tl.tl.tl.tl.tl.tl.hd | exact E.tl.tl.tl.tl.tl.tl.tl.hd | exact E.tl.tl.tl.tl.tl.tl.tl.tl.hd | exact E.tl.tl.tl.tl.tl.tl.tl.tl.tl.hd | exact E.tl.tl.tl.tl.tl.tl.tl.tl.tl.tl.hd | exact E.tl.tl.tl.tl.tl.tl.tl.tl.tl.tl.tl.hd)).mono ?_); rintro e w1 ⟨rfl, rfl⟩)
    | (go_at_call 8; go_must (refine (awake_any _).mono ?_); rintro e w1 ⟨rfl, b1⟩; replace hB := thn hB b1; clear b1))
  go_ret
  exact ⟨rfl, hB⟩

set_option maxHeartbeats 400000 in
theorem short_hi_most (A : Option Addr) (n c : Nat) (l : List UInt8) (m most : Int) (N : Nat) (w : World) (h : Sl w w.heap.size A n c l) (hn : (n : Int) ≤ 200) (hm : 8 < m) (hN : num (l.take 2) = N) (ht : most < (N : Int) ∧ 2 ≤ n) :
    Calls Try.prog 6 #[.slice A n c, .int .i64 m, .int .i64 most] w fun e w' => e = .returned (.bool true) ∧ Below w.heap.size w w' := by
  have HT : Hid (¬ (2 ≤ n ∧ (N : Int) ≤ most ∧ N ≤ n - 2)) := by unfold Hid; omega
  have HN : Hid (num (l.take 2) = N) := hN
  have HM : Hid (¬ (1 ≤ m ∧ m ≤ 8 ∧ m ≤ (n : Int))) := by unfold Hid; omega

  obtain ⟨b, off, rfl, hb, hc⟩ := h.at_ (by omega)
  have hl := sl_len h
  have c0 : w.cell? ⟨b, off, none⟩ = some (.int .u8 ((l[0]'(by omega)).toNat : Nat)) := by have := hc 0 (Bv (l[0]'(by omega))) (by simp [List.getElem?_eq_getElem (show 0 < l.length by omega)]); simpa [Bv] using this
  have c1 : w.cell? ⟨b, off + 1, none⟩ = some (.int .u8 ((l[1]'(by omega)).toNat : Nat)) := hc 1 (Bv (l[1]'(by omega))) (by simp [List.getElem?_eq_getElem (show 1 < l.length by omega)])
  have h2 := two_bytes l (by omega)
  clear hc
  have u0 := (l[0]'(by omega)).toNat_lt
  have u1 := (l[1]'(by omega)).toNat_lt
  generalize (l[0]'(by omega)).toNat = x at *
  generalize (l[1]'(by omega)).toNat = y at *
  have HE : Hid (N = x * 256 + y) := by rw [← hN]; exact h2
  have hO := or_byte64 x y u0 u1
  rw [← HE.out] at hO
  have f0 : (0 : Int) < n := by omega
  have f1 : (1 : Int) < n := by omega
  clear h2 hl hN
  have t1 := ht.1
  clear ht
  have E : Env w [(some ⟨b, off, none⟩, n, c, l.map Bv)] := (Env.nil w).add h
  have hB := Below.refl w.heap.size w
  clear h
  have C0 : Hid (w.cell? ⟨b, off, none⟩ = some (.int .u8 (x : Nat))) := c0
  have C1 : Hid (w.cell? ⟨b, off + 1, none⟩ = some (.int .u8 (y : Nat))) := c1
  clear c0 c1
  go_enter Try.func6, Try.ntmps6
  go_wp2_with (first
    | (go_at_call 9; go_must (refine (take_no_at _ _ _ l _ _ (by first | exact E.hd | exact E.tl.hd | exact E.tl.tl.hd | exact E.tl.tl.tl.hd | exact E.tl.tl.tl.tl.hd | exact E.tl.tl.tl.tl.tl.hd | exact E.tl.tl.tl.tl.tl.tl.hd | exact E.tl.tl.tl.tl.tl.tl.tl.hd | exact E.tl.tl.tl.tl.tl.tl.tl.tl.hd | exact E.tl.tl.tl.tl.tl.tl.tl.tl.tl.hd | exact E.tl.tl.tl.tl.tl.tl.tl.tl.tl.tl.hd | exact E.tl.tl.tl.tl.tl.tl.tl.tl.tl.tl.tl.hd) (by omega) HM.out).mono ?_); rintro e w1 ⟨A1, c1, rfl, o1, b1⟩; replace E := (E.next b1).add o1.sv; replace hB := thn hB b1; clear b1 o1)
    | (go_at_call 11; go_must (refine (text_no_at _ _ _ l _ N _ (by first | exact E.hd | exact E.tl.hd | exact E.tl.tl.hd | exact E.tl.tl.tl.hd | exact E.tl.tl.tl.tl.hd | exact E.tl.tl.tl.tl.tl.hd | exact E.tl.tl.tl.tl.tl.tl.hd | exact E.tl.tl.tl.tl.tl.tl.tl.hd | exact E.tl.tl.tl.tl.tl.tl.tl.tl.hd | exact E.tl.tl.tl.tl.tl.tl.tl.tl.tl.hd | exact E.tl.tl.tl.tl.tl.tl.tl.tl.tl.tl.hd | exact E.tl.tl.tl.tl.tl.tl.tl.tl.tl.tl.tl.hd) (by omega) HN.out HT.out).mono ?_); rintro e w1 ⟨A1, c1, A2, c2, rfl, o1, o2, b1⟩; replace E := ((E.next b1).add o1.sv).add o2.sv; replace hB := thn hB b1; clear b1 o1 o2))
  have d0 : w1.cell? ⟨b, off, none⟩ = some (.int .u8 (x : Nat)) := by rw [hB.cell (p := ⟨b, off, none⟩) hb]; exact C0.out
  have d1 : w1.cell? ⟨b, off + 1, none⟩ = some (.int .u8 (y : Nat)) := by rw [hB.cell (p := ⟨b, off + 1, none⟩) hb]; exact C1.out
  go_quiet (fail)
  replace hB := dN hB nq
  clear d0 d1
  generalize w1.drewN nq = w2 at *
  go_wp2_with (first
    | (go_at_call 13; go_must (refine (same_any _ _ _ _ _ _ _ _ _ _ _ (by first | exact E.hd | exact E.tl.hd | exact E.tl.tl.hd | exact E.tl.tl.tl.hd | exact E.tl.tl.tl.tl.hd | exact E.tl.tl.tl.tl.tl.hd | exact E.tl.tl.tl.tl.tl.tl.hd | exact E.tl.tl.tl.tl.tl.tl.tl.hd | exact E.tl.tl.tl.tl.tl.tl.tl.tl.hd | exact E.tl.tl.tl.tl.tl.tl.tl.tl.tl.hd | exact E.tl.tl.tl.tl.tl.tl.tl.tl.tl.tl.hd | exact E.tl.tl.tl.tl.tl.tl.tl.tl.tl.tl.tl.hd) (by first | exact E.hd | exact E.tl.hd | exact E.tl.tl.hd | exact E.tl.tl.tl.hd | exact E.tl.tl.tl.tl.hd | exact E.tl.tl.tl.tl.tl.hd | exact E.tl.tl.tl.tl.tl.tl.hd | exact E.tl.tl.tl.tl.tl.tl.tl.hd | exact E.tl.tl.tl.tl.tl.tl.tl.tl.hd | exact E.tl.tl.tl.tl.tl.tl.tl.tl.tl.hd | exact E.tl.tl.tl.tl.tl.tl.tl.tl.tl.tl.hd | exact E.tl.tl.tl.tl.tl.tl.tl.tl.tl.tl.tl.hd)).mono ?_); rintro e w1 ⟨rfl, rfl⟩)
    | (go_at_call 8; go_must (refine (awake_any _).mono ?_); rintro e w1 ⟨rfl, b1⟩; replace hB := thn hB b1; clear b1))
  go_ret
  exact ⟨rfl, hB⟩

set_option maxHeartbeats 400000 in
theorem short_hi_end (A : Option Addr) (n c : Nat) (l : List UInt8) (m most : Int) (N : Nat) (w : World) (h : Sl w w.heap.size A n c l) (hn : (n : Int) ≤ 200) (hm : 8 < m) (hN : num (l.take 2) = N) (ht : (n : Int) - 2 < N ∧ (N : Int) ≤ most ∧ 2 ≤ n) :
    Calls Try.prog 6 #[.slice A n c, .int .i64 m, .int .i64 most] w fun e w' => e = .returned (.bool true) ∧ Below w.heap.size w w' := by
  have HT : Hid (¬ (2 ≤ n ∧ (N : Int) ≤ most ∧ N ≤ n - 2)) := by unfold Hid; omega
  have HN : Hid (num (l.take 2) = N) := hN
  have HM : Hid (¬ (1 ≤ m ∧ m ≤ 8 ∧ m ≤ (n : Int))) := by unfold Hid; omega

  obtain ⟨b, off, rfl, hb, hc⟩ := h.at_ (by omega)
  have hl := sl_len h
  have c0 : w.cell? ⟨b, off, none⟩ = some (.int .u8 ((l[0]'(by omega)).toNat : Nat)) := by have := hc 0 (Bv (l[0]'(by omega))) (by simp [List.getElem?_eq_getElem (show 0 < l.length by omega)]); simpa [Bv] using this
  have c1 : w.cell? ⟨b, off + 1, none⟩ = some (.int .u8 ((l[1]'(by omega)).toNat : Nat)) := hc 1 (Bv (l[1]'(by omega))) (by simp [List.getElem?_eq_getElem (show 1 < l.length by omega)])
  have h2 := two_bytes l (by omega)
  clear hc
  have u0 := (l[0]'(by omega)).toNat_lt
  have u1 := (l[1]'(by omega)).toNat_lt
  generalize (l[0]'(by omega)).toNat = x at *
  generalize (l[1]'(by omega)).toNat = y at *
  have HE : Hid (N = x * 256 + y) := by rw [← hN]; exact h2
  have hO := or_byte64 x y u0 u1
  rw [← HE.out] at hO
  have f0 : (0 : Int) < n := by omega
  have f1 : (1 : Int) < n := by omega
  clear h2 hl hN
  have t1 := ht.1
  have t2 := ht.2.1
  clear ht
  have E : Env w [(some ⟨b, off, none⟩, n, c, l.map Bv)] := (Env.nil w).add h
  have hB := Below.refl w.heap.size w
  clear h
  have C0 : Hid (w.cell? ⟨b, off, none⟩ = some (.int .u8 (x : Nat))) := c0
  have C1 : Hid (w.cell? ⟨b, off + 1, none⟩ = some (.int .u8 (y : Nat))) := c1
  clear c0 c1
  go_enter Try.func6, Try.ntmps6
  go_wp2_with (first
    | (go_at_call 9; go_must (refine (take_no_at _ _ _ l _ _ (by first | exact E.hd | exact E.tl.hd | exact E.tl.tl.hd | exact E.tl.tl.tl.hd | exact E.tl.tl.tl.tl.hd | exact E.tl.tl.tl.tl.tl.hd | exact E.tl.tl.tl.tl.tl.tl.hd | exact E.tl.tl.tl.tl.tl.tl.tl.hd | exact E.tl.tl.tl.tl.tl.tl.tl.tl.hd | exact E.tl.tl.tl.tl.tl.tl.tl.tl.tl.hd | exact E.tl.tl.tl.tl.tl.tl.tl.tl.tl.tl.hd | exact E.tl.tl.tl.tl.tl.tl.tl.tl.tl.tl.tl.hd) (by omega) HM.out).mono ?_); rintro e w1 ⟨A1, c1, rfl, o1, b1⟩; replace E := (E.next b1).add o1.sv; replace hB := thn hB b1; clear b1 o1)
    | (go_at_call 11; go_must (refine (text_no_at _ _ _ l _ N _ (by first | exact E.hd | exact E.tl.hd | exact E.tl.tl.hd | exact E.tl.tl.tl.hd | exact E.tl.tl.tl.tl.hd | exact E.tl.tl.tl.tl.tl.hd | exact E.tl.tl.tl.tl.tl.tl.hd | exact E.tl.tl.tl.tl.tl.tl.tl.hd | exact E.tl.tl.tl.tl.tl.tl.tl.tl.hd | exact E.tl.tl.tl.tl.tl.tl.tl.tl.tl.hd | exact E.tl.tl.tl.tl.tl.tl.tl.tl.tl.tl.hd | exact E.tl.tl.tl.tl.tl.tl.tl.tl.tl.tl.tl.hd) (by omega) HN.out HT.out).mono ?_); rintro e w1 ⟨A1, c1, A2, c2, rfl, o1, o2, b1⟩; replace E := ((E.next b1).add o1.sv).add o2.sv; replace hB := thn hB b1; clear b1 o1 o2))
  have d0 : w1.cell? ⟨b, off, none⟩ = some (.int .u8 (x : Nat)) := by rw [hB.cell (p := ⟨b, off, none⟩) hb]; exact C0.out
  have d1 : w1.cell? ⟨b, off + 1, none⟩ = some (.int .u8 (y : Nat)) := by rw [hB.cell (p := ⟨b, off + 1, none⟩) hb]; exact C1.out
  go_quiet (fail)
  replace hB := dN hB nq
  clear d0 d1
  generalize w1.drewN nq = w2 at *
  go_wp2_with (first
    | (go_at_call 13; go_must (refine (same_any _ _ _ _ _ _ _ _ _ _ _ (by first | exact E.hd | exact E.tl.hd | exact E.tl.tl.hd | exact E.tl.tl.tl.hd | exact E.tl.tl.tl.tl.hd | exact E.tl.tl.tl.tl.tl.hd | exact E.tl.tl.tl.tl.tl.tl.hd | exact E.tl.tl.tl.tl.tl.tl.tl.hd | exact E.tl.tl.tl.tl.tl.tl.tl.tl.hd | exact E.tl.tl.tl.tl.tl.tl.tl.tl.tl.hd | exact E.tl.tl.tl.tl.tl.tl.tl.tl.tl.tl.hd | exact E.tl.tl.tl.tl.tl.tl.tl.tl.tl.tl.tl.hd) (by first | exact E.hd | exact E.tl.hd | exact E.tl.tl.hd | exact E.tl.tl.tl.hd | exact E.tl.tl.tl.tl.hd | exact E.tl.tl.tl.tl.tl.hd | exact E.tl.tl.tl.tl.tl.tl.hd | exact E.tl.tl.tl.tl.tl.tl.tl.hd | exact E.tl.tl.tl.tl.tl.tl.tl.tl.hd | exact E.tl.tl.tl.tl.tl.tl.tl.tl.tl.hd | exact E.tl.tl.tl.tl.tl.tl.tl.tl.tl.tl.hd | exact E.tl.tl.tl.tl.tl.tl.tl.tl.tl.tl.tl.hd)).mono ?_); rintro e w1 ⟨rfl, rfl⟩)
    | (go_at_call 8; go_must (refine (awake_any _).mono ?_); rintro e w1 ⟨rfl, b1⟩; replace hB := thn hB b1; clear b1))
  go_ret
  exact ⟨rfl, hB⟩

set_option maxHeartbeats 400000 in
theorem short_far_yes (A : Option Addr) (n c : Nat) (l : List UInt8) (m most : Int) (N : Nat) (w : World) (h : Sl w w.heap.size A n c l) (hn : (n : Int) ≤ 200) (hm : 1 ≤ m ∧ m ≤ 8 ∧ (n : Int) < m) (hN : num (l.take 2) = N) (ht : 2 ≤ n ∧ (N : Int) ≤ most ∧ N ≤ n - 2) :
    Calls Try.prog 6 #[.slice A n c, .int .i64 m, .int .i64 most] w fun e w' => e = .returned (.bool true) ∧ Below w.heap.size w w' := by
  have HT : Hid (2 ≤ n ∧ (N : Int) ≤ most ∧ N ≤ n - 2) := ht
  have HN : Hid (num (l.take 2) = N) := hN
  have HM : Hid (¬ (1 ≤ m ∧ m ≤ 8 ∧ m ≤ (n : Int))) := by unfold Hid; omega
  have m1 : (1 : Int) ≤ m := hm.1
  have m2 : m ≤ 8 := hm.2.1
  have m3 : (n : Int) < m := hm.2.2
  have t1 : (2 : Int) ≤ n := by omega
  have t2 : (N : Int) ≤ most := ht.2.1
  have t3 : (N : Int) ≤ n - 2 := by omega
  obtain ⟨A9, hrun, hf⟩ := h.mid (lo := 2) (hi := 2 + N) (by omega) (by omega) 22 5 Try.underlying22 elem22 size5 .i64 .i64 2 (2 + (N : Int)) rfl (by omega)
  rw [← List.map_take, ← List.map_drop, List.drop_take, show 2 + N - 2 = N from by omega] at hf
  simp only [show 2 + N - 2 = N from by omega] at hrun
  have hc := h.cap
  clear hm ht hN
  have E : Env w [(A, n, c, l.map Bv), (A9, N, c - 2, ((l.drop 2).take N).map Bv)] := ((Env.nil w).add hf).add h
  have hB := Below.refl w.heap.size w
  clear h hf
  go_enter Try.func6, Try.ntmps6
  go_wp2_with (first
    | (go_at_call 9; go_must (refine (take_no_at _ _ _ l _ _ (by first | exact E.hd | exact E.tl.hd | exact E.tl.tl.hd | exact E.tl.tl.tl.hd | exact E.tl.tl.tl.tl.hd | exact E.tl.tl.tl.tl.tl.hd | exact E.tl.tl.tl.tl.tl.tl.hd | exact E.tl.tl.tl.tl.tl.tl.tl.hd | exact E.tl.tl.tl.tl.tl.tl.tl.tl.hd | exact E.tl.tl.tl.tl.tl.tl.tl.tl.tl.hd | exact E.tl.tl.tl.tl.tl.tl.tl.tl.tl.tl.hd | exact E.tl.tl.tl.tl.tl.tl.tl.tl.tl.tl.tl.hd) (by omega) HM.out).mono ?_); rintro e w1 ⟨A1, c1, rfl, o1, b1⟩; replace E := (E.next b1).add o1.sv; replace hB := thn hB b1; clear b1 o1)
    | (go_at_call 11; go_must (refine (text_yes_at _ _ _ l _ N _ (by first | exact E.hd | exact E.tl.hd | exact E.tl.tl.hd | exact E.tl.tl.tl.hd | exact E.tl.tl.tl.tl.hd | exact E.tl.tl.tl.tl.tl.hd | exact E.tl.tl.tl.tl.tl.tl.hd | exact E.tl.tl.tl.tl.tl.tl.tl.hd | exact E.tl.tl.tl.tl.tl.tl.tl.tl.hd | exact E.tl.tl.tl.tl.tl.tl.tl.tl.tl.hd | exact E.tl.tl.tl.tl.tl.tl.tl.tl.tl.tl.hd | exact E.tl.tl.tl.tl.tl.tl.tl.tl.tl.tl.tl.hd) (by omega) HN.out HT.out).mono ?_); rintro e w1 ⟨A1, c1, A2, c2, rfl, o1, o2, _, b1⟩; replace E := ((E.next b1).add o1.sv).add o2.sv; replace hB := thn hB b1; clear b1 o1 o2)
    | (go_at_call 13; go_must (refine (same_any _ _ _ _ _ _ _ _ _ _ _ (by first | exact E.hd | exact E.tl.hd | exact E.tl.tl.hd | exact E.tl.tl.tl.hd | exact E.tl.tl.tl.tl.hd | exact E.tl.tl.tl.tl.tl.hd | exact E.tl.tl.tl.tl.tl.tl.hd | exact E.tl.tl.tl.tl.tl.tl.tl.hd | exact E.tl.tl.tl.tl.tl.tl.tl.tl.hd | exact E.tl.tl.tl.tl.tl.tl.tl.tl.tl.hd | exact E.tl.tl.tl.tl.tl.tl.tl.tl.tl.tl.hd | exact E.tl.tl.tl.tl.tl.tl.tl.tl.tl.tl.tl.hd) (by first | exact E.hd | exact E.tl.hd | exact E.tl.tl.hd | exact E.tl.tl.tl.hd | exact E.tl.tl.tl.tl.hd | exact E.tl.tl.tl.tl.tl.hd | exact E.tl.tl.tl.tl.tl.tl.hd | exact E.tl.tl.tl.tl.tl.tl.tl.hd | exact E.tl.tl.tl.tl.tl.tl.tl.tl.hd | exact E.tl.tl.tl.tl.tl.tl.tl.tl.tl.hd | exact E.tl.tl.tl.tl.tl.tl.tl.tl.tl.tl.hd | exact E.tl.tl.tl.tl.tl.tl.tl.tl.tl.tl.tl.hd)).mono ?_); rintro e w1 ⟨rfl, rfl⟩)
    | (go_at_call 8; go_must (refine (awake_any _).mono ?_); rintro e w1 ⟨rfl, b1⟩; replace hB := thn hB b1; clear b1))
  go_ret
  exact ⟨rfl, hB⟩

set_option maxHeartbeats 400000 in
theorem short_far_lo (A : Option Addr) (n c : Nat) (l : List UInt8) (m most : Int) (N : Nat) (w : World) (h : Sl w w.heap.size A n c l) (hn : (n : Int) ≤ 200) (hm : 1 ≤ m ∧ m ≤ 8 ∧ (n : Int) < m) (hN : num (l.take 2) = N) (ht : (n : Int) < 2) :
    Calls Try.prog 6 #[.slice A n c, .int .i64 m, .int .i64 most] w fun e w' => e = .returned (.bool true) ∧ Below w.heap.size w w' := by
  have HT : Hid (¬ (2 ≤ n ∧ (N : Int) ≤ most ∧ N ≤ n - 2)) := by unfold Hid; omega
  have HN : Hid (num (l.take 2) = N) := hN
  have HM : Hid (¬ (1 ≤ m ∧ m ≤ 8 ∧ m ≤ (n : Int))) := by unfold Hid; omega
  have m1 : (1 : Int) ≤ m := hm.1
  have m2 : m ≤ 8 := hm.2.1
  have m3 : (n : Int) < m := hm.2.2
  clear hm
  clear hN
  have E : Env w [(A, n, c, l.map Bv)] := (Env.nil w).add h
  have hB := Below.refl w.heap.size w
  clear h
  go_enter Try.func6, Try.ntmps6
  go_wp2_with (first
    | (go_at_call 9; go_must (refine (take_no_at _ _ _ l _ _ (by first | exact E.hd | exact E.tl.hd | exact E.tl.tl.hd | exact E.tl.tl.tl.hd | exact E.tl.tl.tl.tl.hd | exact E.tl.tl.tl.tl.tl.hd | exact E.tl.tl.tl.tl.tl.tl.hd | exact E.tl.tl.tl.tl.tl.tl.tl.hd | exact E.tl.tl.tl.tl.tl.tl.tl.tl.hd | exact E.tl.tl.tl.tl.tl.tl.tl.tl.tl.hd | exact E.tl.tl.tl.tl.tl.tl.tl.tl.tl.tl.hd | exact E.tl.tl.tl.tl.tl.tl.tl.tl.tl.tl.tl.hd) (by omega) HM.out).mono ?_); rintro e w1 ⟨A1, c1, rfl, o1, b1⟩; replace E := (E.next b1).add o1.sv; replace hB := thn hB b1; clear b1 o1)
    | (go_at_call 11; go_must (refine (text_no_at _ _ _ l _ N _ (by first | exact E.hd | exact E.tl.hd | exact E.tl.tl.hd | exact E.tl.tl.tl.hd | exact E.tl.tl.tl.tl.hd | exact E.tl.tl.tl.tl.tl.hd | exact E.tl.tl.tl.tl.tl.tl.hd | exact E.tl.tl.tl.tl.tl.tl.tl.hd | exact E.tl.tl.tl.tl.tl.tl.tl.tl.hd | exact E.tl.tl.tl.tl.tl.tl.tl.tl.tl.hd | exact E.tl.tl.tl.tl.tl.tl.tl.tl.tl.tl.hd | exact E.tl.tl.tl.tl.tl.tl.tl.tl.tl.tl.tl.hd) (by omega) HN.out HT.out).mono ?_); rintro e w1 ⟨A1, c1, A2, c2, rfl, o1, o2, b1⟩; replace E := ((E.next b1).add o1.sv).add o2.sv; replace hB := thn hB b1; clear b1 o1 o2)
    | (go_at_call 13; go_must (refine (same_any _ _ _ _ _ _ _ _ _ _ _ (by first | exact E.hd | exact E.tl.hd | exact E.tl.tl.hd | exact E.tl.tl.tl.hd | exact E.tl.tl.tl.tl.hd | exact E.tl.tl.tl.tl.tl.hd | exact E.tl.tl.tl.tl.tl.tl.hd | exact E.tl.tl.tl.tl.tl.tl.tl.hd | exact E.tl.tl.tl.tl.tl.tl.tl.tl.hd | exact E.tl.tl.tl.tl.tl.tl.tl.tl.tl.hd | exact E.tl.tl.tl.tl.tl.tl.tl.tl.tl.tl.hd | exact E.tl.tl.tl.tl.tl.tl.tl.tl.tl.tl.tl.hd) (by first | exact E.hd | exact E.tl.hd | exact E.tl.tl.hd | exact E.tl.tl.tl.hd | exact E.tl.tl.tl.tl.hd | exact E.tl.tl.tl.tl.tl.hd | exact E.tl.tl.tl.tl.tl.tl.hd | exact E.tl.tl.tl.tl.tl.tl.tl.hd | exact E.tl.tl.tl.tl.tl.tl.tl.tl.hd | exact E.tl.tl.tl.tl.tl.tl.tl.tl.tl.hd | exact E.tl.tl.tl.tl.tl.tl.tl.tl.tl.tl.hd | exact E.tl.tl.tl.tl.tl.tl.tl.tl.tl.tl.tl.hd)).mono ?_); rintro e w1 ⟨rfl, rfl⟩)
    | (go_at_call 8; go_must (refine (awake_any _).mono ?_); rintro e w1 ⟨rfl, b1⟩; replace hB := thn hB b1; clear b1))
  go_ret
  exact ⟨rfl, hB⟩

set_option maxHeartbeats 400000 in
theorem short_far_most (A : Option Addr) (n c : Nat) (l : List UInt8) (m most : Int) (N : Nat) (w : World) (h : Sl w w.heap.size A n c l) (hn : (n : Int) ≤ 200) (hm : 1 ≤ m ∧ m ≤ 8 ∧ (n : Int) < m) (hN : num (l.take 2) = N) (ht : most < (N : Int) ∧ 2 ≤ n) :
    Calls Try.prog 6 #[.slice A n c, .int .i64 m, .int .i64 most] w fun e w' => e = .returned (.bool true) ∧ Below w.heap.size w w' := by
  have HT : Hid (¬ (2 ≤ n ∧ (N : Int) ≤ most ∧ N ≤ n - 2)) := by unfold Hid; omega
  have HN : Hid (num (l.take 2) = N) := hN
  have HM : Hid (¬ (1 ≤ m ∧ m ≤ 8 ∧ m ≤ (n : Int))) := by unfold Hid; omega
  have m1 : (1 : Int) ≤ m := hm.1
  have m2 : m ≤ 8 := hm.2.1
  have m3 : (n : Int) < m := hm.2.2
  clear hm
  obtain ⟨b, off, rfl, hb, hc⟩ := h.at_ (by omega)
  have hl := sl_len h
  have c0 : w.cell? ⟨b, off, none⟩ = some (.int .u8 ((l[0]'(by omega)).toNat : Nat)) := by have := hc 0 (Bv (l[0]'(by omega))) (by simp [List.getElem?_eq_getElem (show 0 < l.length by omega)]); simpa [Bv] using this
  have c1 : w.cell? ⟨b, off + 1, none⟩ = some (.int .u8 ((l[1]'(by omega)).toNat : Nat)) := hc 1 (Bv (l[1]'(by omega))) (by simp [List.getElem?_eq_getElem (show 1 < l.length by omega)])
  have h2 := two_bytes l (by omega)
  clear hc
  have u0 := (l[0]'(by omega)).toNat_lt
  have u1 := (l[1]'(by omega)).toNat_lt
  generalize (l[0]'(by omega)).toNat = x at *
  generalize (l[1]'(by omega)).toNat = y at *
  have HE : Hid (N = x * 256 + y) := by rw [← hN]; exact h2
  have hO := or_byte64 x y u0 u1
  rw [← HE.out] at hO
  have f0 : (0 : Int) < n := by omega
  have f1 : (1 : Int) < n := by omega
  clear h2 hl hN
  have t1 := ht.1
  clear ht
  have E : Env w [(some ⟨b, off, none⟩, n, c, l.map Bv)] := (Env.nil w).add h
  have hB := Below.refl w.heap.size w
  clear h
  have C0 : Hid (w.cell? ⟨b, off, none⟩ = some (.int .u8 (x : Nat))) := c0
  have C1 : Hid (w.cell? ⟨b, off + 1, none⟩ = some (.int .u8 (y : Nat))) := c1
  clear c0 c1
  go_enter Try.func6, Try.ntmps6
  go_wp2_with (first
    | (go_at_call 9; go_must (refine (take_no_at _ _ _ l _ _ (by first | exact E.hd | exact E.tl.hd | exact E.tl.tl.hd | exact E.tl.tl.tl.hd | exact E.tl.tl.tl.tl.hd | exact E.tl.tl.tl.tl.tl.hd | exact E.tl.tl.tl.tl.tl.tl.hd | exact E.tl.tl.tl.tl.tl.tl.tl.hd | exact E.tl.tl.tl.tl.tl.tl.tl.tl.hd | exact E.tl.tl.tl.tl.tl.tl.tl.tl.tl.hd | exact E.tl.tl.tl.tl.tl.tl.tl.tl.tl.tl.hd | exact E.tl.tl.tl.tl.tl.tl.tl.tl.tl.tl.tl.hd) (by omega) HM.out).mono ?_); rintro e w1 ⟨A1, c1, rfl, o1, b1⟩; replace E := (E.next b1).add o1.sv; replace hB := thn hB b1; clear b1 o1)
    | (go_at_call 11; go_must (refine (text_no_at _ _ _ l _ N _ (by first | exact E.hd | exact E.tl.hd | exact E.tl.tl.hd | exact E.tl.tl.tl.hd | exact E.tl.tl.tl.tl.hd | exact E.tl.tl.tl.tl.tl.hd | exact E.tl.tl.tl.tl.tl.tl.hd | exact E.tl.tl.tl.tl.tl.tl.tl.hd | exact E.tl.tl.tl.tl.tl.tl.tl.tl.hd | exact E.tl.tl.tl.tl.tl.tl.tl.tl.tl.hd | exact E.tl.tl.tl.tl.tl.tl.tl.tl.tl.tl.hd | exact E.tl.tl.tl.tl.tl.tl.tl.tl.tl.tl.tl.hd) (by omega) HN.out HT.out).mono ?_); rintro e w1 ⟨A1, c1, A2, c2, rfl, o1, o2, b1⟩; replace E := ((E.next b1).add o1.sv).add o2.sv; replace hB := thn hB b1; clear b1 o1 o2))
  have d0 : w1.cell? ⟨b, off, none⟩ = some (.int .u8 (x : Nat)) := by rw [hB.cell (p := ⟨b, off, none⟩) hb]; exact C0.out
  have d1 : w1.cell? ⟨b, off + 1, none⟩ = some (.int .u8 (y : Nat)) := by rw [hB.cell (p := ⟨b, off + 1, none⟩) hb]; exact C1.out
  go_quiet (fail)
  replace hB := dN hB nq
  clear d0 d1
  generalize w1.drewN nq = w2 at *
  go_wp2_with (first
    | (go_at_call 13; go_must (refine (same_any _ _ _ _ _ _ _ _ _ _ _ (by first | exact E.hd | exact E.tl.hd | exact E.tl.tl.hd | exact E.tl.tl.tl.hd | exact E.tl.tl.tl.tl.hd | exact E.tl.tl.tl.tl.tl.hd | exact E.tl.tl.tl.tl.tl.tl.hd | exact E.tl.tl.tl.tl.tl.tl.tl.hd | exact E.tl.tl.tl.tl.tl.tl.tl.tl.hd | exact E.tl.tl.tl.tl.tl.tl.tl.tl.tl.hd | exact E.tl.tl.tl.tl.tl.tl.tl.tl.tl.tl.hd | exact E.tl.tl.tl.tl.tl.tl.tl.tl.tl.tl.tl.hd) (by first | exact E.hd | exact E.tl.hd | exact E.tl.tl.hd | exact E.tl.tl.tl.hd | exact E.tl.tl.tl.tl.hd | exact E.tl.tl.tl.tl.tl.hd | exact E.tl.tl.tl.tl.tl.tl.hd | exact E.tl.tl.tl.tl.tl.tl.tl.hd | exact E.tl.tl.tl.tl.tl.tl.tl.tl.hd | exact E.tl.tl.tl.tl.tl.tl.tl.tl.tl.hd | exact E.tl.tl.tl.tl.tl.tl.tl.tl.tl.tl.hd | exact E.tl.tl.tl.tl.tl.tl.tl.tl.tl.tl.tl.hd)).mono ?_); rintro e w1 ⟨rfl, rfl⟩)
    | (go_at_call 8; go_must (refine (awake_any _).mono ?_); rintro e w1 ⟨rfl, b1⟩; replace hB := thn hB b1; clear b1))
  go_ret
  exact ⟨rfl, hB⟩

set_option maxHeartbeats 400000 in
theorem short_far_end (A : Option Addr) (n c : Nat) (l : List UInt8) (m most : Int) (N : Nat) (w : World) (h : Sl w w.heap.size A n c l) (hn : (n : Int) ≤ 200) (hm : 1 ≤ m ∧ m ≤ 8 ∧ (n : Int) < m) (hN : num (l.take 2) = N) (ht : (n : Int) - 2 < N ∧ (N : Int) ≤ most ∧ 2 ≤ n) :
    Calls Try.prog 6 #[.slice A n c, .int .i64 m, .int .i64 most] w fun e w' => e = .returned (.bool true) ∧ Below w.heap.size w w' := by
  have HT : Hid (¬ (2 ≤ n ∧ (N : Int) ≤ most ∧ N ≤ n - 2)) := by unfold Hid; omega
  have HN : Hid (num (l.take 2) = N) := hN
  have HM : Hid (¬ (1 ≤ m ∧ m ≤ 8 ∧ m ≤ (n : Int))) := by unfold Hid; omega
  have m1 : (1 : Int) ≤ m := hm.1
  have m2 : m ≤ 8 := hm.2.1
  have m3 : (n : Int) < m := hm.2.2
  clear hm
  obtain ⟨b, off, rfl, hb, hc⟩ := h.at_ (by omega)
  have hl := sl_len h
  have c0 : w.cell? ⟨b, off, none⟩ = some (.int .u8 ((l[0]'(by omega)).toNat : Nat)) := by have := hc 0 (Bv (l[0]'(by omega))) (by simp [List.getElem?_eq_getElem (show 0 < l.length by omega)]); simpa [Bv] using this
  have c1 : w.cell? ⟨b, off + 1, none⟩ = some (.int .u8 ((l[1]'(by omega)).toNat : Nat)) := hc 1 (Bv (l[1]'(by omega))) (by simp [List.getElem?_eq_getElem (show 1 < l.length by omega)])
  have h2 := two_bytes l (by omega)
  clear hc
  have u0 := (l[0]'(by omega)).toNat_lt
  have u1 := (l[1]'(by omega)).toNat_lt
  generalize (l[0]'(by omega)).toNat = x at *
  generalize (l[1]'(by omega)).toNat = y at *
  have HE : Hid (N = x * 256 + y) := by rw [← hN]; exact h2
  have hO := or_byte64 x y u0 u1
  rw [← HE.out] at hO
  have f0 : (0 : Int) < n := by omega
  have f1 : (1 : Int) < n := by omega
  clear h2 hl hN
  have t1 := ht.1
  have t2 := ht.2.1
  clear ht
  have E : Env w [(some ⟨b, off, none⟩, n, c, l.map Bv)] := (Env.nil w).add h
  have hB := Below.refl w.heap.size w
  clear h
  have C0 : Hid (w.cell? ⟨b, off, none⟩ = some (.int .u8 (x : Nat))) := c0
  have C1 : Hid (w.cell? ⟨b, off + 1, none⟩ = some (.int .u8 (y : Nat))) := c1
  clear c0 c1
  go_enter Try.func6, Try.ntmps6
  go_wp2_with (first
    | (go_at_call 9; go_must (refine (take_no_at _ _ _ l _ _ (by first | exact E.hd | exact E.tl.hd | exact E.tl.tl.hd | exact E.tl.tl.tl.hd | exact E.tl.tl.tl.tl.hd | exact E.tl.tl.tl.tl.tl.hd | exact E.tl.tl.tl.tl.tl.tl.hd | exact E.tl.tl.tl.tl.tl.tl.tl.hd | exact E.tl.tl.tl.tl.tl.tl.tl.tl.hd | exact E.tl.tl.tl.tl.tl.tl.tl.tl.tl.hd | exact E.tl.tl.tl.tl.tl.tl.tl.tl.tl.tl.hd | exact E.tl.tl.tl.tl.tl.tl.tl.tl.tl.tl.tl.hd) (by omega) HM.out).mono ?_); rintro e w1 ⟨A1, c1, rfl, o1, b1⟩; replace E := (E.next b1).add o1.sv; replace hB := thn hB b1; clear b1 o1)
    | (go_at_call 11; go_must (refine (text_no_at _ _ _ l _ N _ (by first | exact E.hd | exact E.tl.hd | exact E.tl.tl.hd | exact E.tl.tl.tl.hd | exact E.tl.tl.tl.tl.hd | exact E.tl.tl.tl.tl.tl.hd | exact E.tl.tl.tl.tl.tl.tl.hd | exact E.tl.tl.tl.tl.tl.tl.tl.hd | exact E.tl.tl.tl.tl.tl.tl.tl.tl.hd | exact E.tl.tl.tl.tl.tl.tl.tl.tl.tl.hd | exact E.tl.tl.tl.tl.tl.tl.tl.tl.tl.tl.hd | exact E.tl.tl.tl.tl.tl.tl.tl.tl.tl.tl.tl.hd) (by omega) HN.out HT.out).mono ?_); rintro e w1 ⟨A1, c1, A2, c2, rfl, o1, o2, b1⟩; replace E := ((E.next b1).add o1.sv).add o2.sv; replace hB := thn hB b1; clear b1 o1 o2))
  have d0 : w1.cell? ⟨b, off, none⟩ = some (.int .u8 (x : Nat)) := by rw [hB.cell (p := ⟨b, off, none⟩) hb]; exact C0.out
  have d1 : w1.cell? ⟨b, off + 1, none⟩ = some (.int .u8 (y : Nat)) := by rw [hB.cell (p := ⟨b, off + 1, none⟩) hb]; exact C1.out
  go_quiet (fail)
  replace hB := dN hB nq
  clear d0 d1
  generalize w1.drewN nq = w2 at *
  go_wp2_with (first
    | (go_at_call 13; go_must (refine (same_any _ _ _ _ _ _ _ _ _ _ _ (by first | exact E.hd | exact E.tl.hd | exact E.tl.tl.hd | exact E.tl.tl.tl.hd | exact E.tl.tl.tl.tl.hd | exact E.tl.tl.tl.tl.tl.hd | exact E.tl.tl.tl.tl.tl.tl.hd | exact E.tl.tl.tl.tl.tl.tl.tl.hd | exact E.tl.tl.tl.tl.tl.tl.tl.tl.hd | exact E.tl.tl.tl.tl.tl.tl.tl.tl.tl.hd | exact E.tl.tl.tl.tl.tl.tl.tl.tl.tl.tl.hd | exact E.tl.tl.tl.tl.tl.tl.tl.tl.tl.tl.tl.hd) (by first | exact E.hd | exact E.tl.hd | exact E.tl.tl.hd | exact E.tl.tl.tl.hd | exact E.tl.tl.tl.tl.hd | exact E.tl.tl.tl.tl.tl.hd | exact E.tl.tl.tl.tl.tl.tl.hd | exact E.tl.tl.tl.tl.tl.tl.tl.hd | exact E.tl.tl.tl.tl.tl.tl.tl.tl.hd | exact E.tl.tl.tl.tl.tl.tl.tl.tl.tl.hd | exact E.tl.tl.tl.tl.tl.tl.tl.tl.tl.tl.hd | exact E.tl.tl.tl.tl.tl.tl.tl.tl.tl.tl.tl.hd)).mono ?_); rintro e w1 ⟨rfl, rfl⟩)
    | (go_at_call 8; go_must (refine (awake_any _).mono ?_); rintro e w1 ⟨rfl, b1⟩; replace hB := thn hB b1; clear b1))
  go_ret
  exact ⟨rfl, hB⟩

theorem short_any (A : Option Addr) (n c : Nat) (l : List UInt8) (m most : Int) (w : World) (h : Sl w w.heap.size A n c l) :
    Calls Try.prog 6 #[.slice A n c, .int .i64 m, .int .i64 most] w fun e w' => e = .returned (.bool true) ∧ Below w.heap.size w w' := by
  by_cases hn : (n : Int) ≤ 200
  · have e1 : (1 ≤ m ∧ m ≤ 8 ∧ m ≤ (n : Int)) ∨ m < 1 ∨ 8 < m ∨ (1 ≤ m ∧ m ≤ 8 ∧ (n : Int) < m) := by omega
    have e2 : (2 ≤ n ∧ ((num (l.take 2) : Nat) : Int) ≤ most ∧ num (l.take 2) ≤ n - 2) ∨ (n : Int) < 2 ∨ (most < (num (l.take 2) : Nat) ∧ 2 ≤ n) ∨ ((n : Int) - 2 < (num (l.take 2) : Nat) ∧ ((num (l.take 2) : Nat) : Int) ≤ most ∧ 2 ≤ n) := by omega
    rcases e1 with e1 | e1 | e1 | e1 <;> rcases e2 with e2 | e2 | e2 | e2
    · exact short_ok_yes A n c l m most _ w h hn e1 rfl e2
    · exact short_ok_lo A n c l m most _ w h hn e1 rfl e2
    · exact short_ok_most A n c l m most _ w h hn e1 rfl e2
    · exact short_ok_end A n c l m most _ w h hn e1 rfl e2
    · exact short_lo_yes A n c l m most _ w h hn e1 rfl e2
    · exact short_lo_lo A n c l m most _ w h hn e1 rfl e2
    · exact short_lo_most A n c l m most _ w h hn e1 rfl e2
    · exact short_lo_end A n c l m most _ w h hn e1 rfl e2
    · exact short_hi_yes A n c l m most _ w h hn e1 rfl e2
    · exact short_hi_lo A n c l m most _ w h hn e1 rfl e2
    · exact short_hi_most A n c l m most _ w h hn e1 rfl e2
    · exact short_hi_end A n c l m most _ w h hn e1 rfl e2
    · exact short_far_yes A n c l m most _ w h hn e1 rfl e2
    · exact short_far_lo A n c l m most _ w h hn e1 rfl e2
    · exact short_far_most A n c l m most _ w h hn e1 rfl e2
    · exact short_far_end A n c l m most _ w h hn e1 rfl e2
  · exact short_great A n c m most w (by omega)
end Go.Proofs.Ythakiojcjkkonaa
