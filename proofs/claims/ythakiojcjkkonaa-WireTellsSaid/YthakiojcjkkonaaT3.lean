import Derived.Test.YthakiojcjkkonaaT1
import Derived.Test.YthakiojcjkkonaaT2
namespace Go.Proofs.Ythakiojcjkkonaa
open Go.RowKit
theorem byte_of (z : Nat) : Bv (UInt8.ofNat z) = .int .u8 ((z % 256 : Nat) : Int) := by simp [Bv, UInt8.toNat_ofNat']
theorem pow8 (t : Nat) : (2 : Int) ^ (8 * t) = 256 ^ t := by rw [Int.pow_mul]; rfl
set_option linter.unusedVariables false
theorem refPut_any (A : Option Addr) (n c k : Nat) (l : List UInt8) (x : Nat) (m : Int) (w : World) (h : Sl w k A n c l) (hk : k ≤ w.heap.size) (hx : x ≤ 18446744073709551615)
    (h0 : 1 ≤ m ∧ m ≤ 8) (hn : n ≤ 1000000) :
    Calls Try.prog 15 #[.slice A n c, .int .u64 x, .int .i64 m] w fun e w' => ∃ A' c', e = .returned (.slice A' (n + m.toNat) c') ∧ Own w' w.heap.size 5 A' (n + m.toNat) c' ((l ++ be x m.toNat).map Bv) ∧ Below w.heap.size w w' := by
  obtain ⟨m, rfl⟩ := Int.eq_ofNat_of_zero_le (show 0 ≤ m by omega)
  go_enter Try.func15, Try.ntmps15
  have e1 : ¬ (m : Int) < 1 := by omega
  have e2 : ¬ 8 < (m : Int) := by omega
  go_wp2_with (first
    | (at_builtin; go_must (refine wpList_app rfl _ _ 22 rfl Try.underlying22 info5 rfl rfl (Own.nil _ w.heap.size _) rfl h (Bv_one _) (by omega) (by decide) (Nat.le_refl _) ?_); intro A3 c3 w2 hown3 hg3))
  simp only [Nat.zero_add, List.nil_append] at hown3
  have hb3 := (Below.refl w.heap.size w).grown hg3 (Nat.le_refl _) (by simp [Value.ownBlock])
  clear hg3
  go_loopw [7, 8] (fun v i wr => ∃ j : Nat, j ≤ m ∧ i = .int .i64 ((m : Int) - 1 - j) ∧ ∃ A c, v = .slice A (n + j) c ∧ Own wr w.heap.size 5 A (n + j) c ((l ++ (be x m).take j).map Bv) ∧ Below w.heap.size w wr) (fun _ i _ => (intOf i + 1).toNat)
  case atStart => exact ⟨0, Nat.zero_le _, by simp, A3, c3, rfl, by simpa using hown3, hb3⟩
  case round =>
    obtain ⟨j, hj, rfl, A4, c4, rfl, hown4, hb4⟩ := hrel
    obtain ⟨wo, rfl⟩ : ∃ wo : World, wo = wr := ⟨_, rfl⟩
    clear hown3 hb3
    by_cases hlt : j < m
    · have e5 : 0 ≤ (m : Int) - 1 - j := by omega
      go_wp2
      go_loop [9, 10] (fun y q => ∃ t : Nat, t ≤ m - 1 - j ∧ q = .int .i64 t ∧ y = .int .u64 (x / 256 ^ t : Nat)) (fun _ q => m - (intOf q).toNat)
      case atStart => exact ⟨0, Nat.zero_le _, rfl, by simp⟩
      case round =>
        obtain ⟨t, ht, rfl, rfl⟩ := hrel
        have hd : x / 256 ^ t ≤ x := Nat.div_le_self _ _
        have HX : Hid (x / 256 ^ (t + 1) = x / 256 ^ t / 256) := by unfold Hid; rw [Nat.pow_succ, Nat.div_div_eq_div_mul]
        by_cases hlt2 : t < m - 1 - j
        · generalize x / 256 ^ t = y at *
          go_wp2
          go_round
          case rel => exact ⟨t + 1, by omega, by go_num, by rw [HX.out]; go_num⟩
          case measure => simp [intOf]; omega
        · obtain rfl : t = m - 1 - j := by omega
          have HB : Hid ((be x m).take (j + 1) = (be x m).take j ++ [UInt8.ofNat (x / 256 ^ (m - 1 - j))]) := be_take_succ x m j hlt
          generalize x / 256 ^ (m - 1 - j) = y at *
          have hz4 := hb4.size
          go_wp2_with (first
            | (at_builtin; go_must (refine wpList_app rfl _ _ 22 rfl Try.underlying22 info5 rfl rfl (hown4.alloc _) rfl (Sv.one _ _ _) ?_ (by omega) (by decide) (by simp; omega) ?_); (intro u hu; simp at hu; subst hu; rfl); intro A5 c5 w5 hown5 hg5))
          have hb5 := (hb4.alloc hz4 _).grown hg5 (by simp; omega) hown4.lt
          clear hg5 hown4 hb4
          go_roundw
          case rel => exact ⟨j + 1, by omega, by simp; omega, A5, c5, by rw [Nat.add_assoc], by rw [HB.out]; simpa [byte_of, Nat.add_assoc] using hown5, hb5⟩
          case measure => simp [intOf]; omega
    · obtain rfl : j = m := by omega
      have e5 : ¬ 0 ≤ (j : Int) - 1 - j := by omega
      go_wp2
      go_ret
      exact ⟨A4, c4, rfl, by simpa [List.take_of_length_le, be_length] using hown4, hb4⟩

theorem put_any (A : Option Addr) (n c k : Nat) (l : List UInt8) (x : Nat) (m : Int) (w : World) (h : Sl w k A n c l) (hk : k ≤ w.heap.size) (hx : x ≤ 18446744073709551615)
    (h0 : 1 ≤ m ∧ m ≤ 8) (hn : n ≤ 1000000) :
    Calls Try.prog 14 #[.slice A n c, .int .u64 x, .int .i64 m] w fun e w' => ∃ A' c', e = .returned (.slice A' (n + m.toNat) c') ∧ Own w' w.heap.size 5 A' (n + m.toNat) c' ((l ++ be x m.toNat).map Bv) ∧ Below w.heap.size w w' := by
  obtain ⟨m, rfl⟩ := Int.eq_ofNat_of_zero_le (show 0 ≤ m by omega)
  go_enter Try.func14, Try.ntmps14
  have e1 : (1 : Int) ≤ (m : Int) := by omega
  have e2 : (m : Int) ≤ 8 := by omega
  go_wp2_with (first
    | (go_at_call 22; go_must (refine (within_any _ _ _).mono ?_); rintro e w1 ⟨rfl, rfl⟩)
    | (go_at_call 26; go_must (refine (inside_any _ 1 8 _ _ _ (by go_simp) (by go_simp)).mono ?_); rintro e w1 ⟨rfl, rfl⟩)
    | (go_at_call 24; go_must (refine (own_any A n c k l _ _ ((h.alloc hk _).alloc (by simp; omega) _) (by simp; omega) (by omega) (by omega)).mono ?_); rintro e w1 ⟨A1, c1, rfl, hown1, hb1⟩))
  have hb2 : Below w.heap.size w w1 := (((Below.refl _ _).alloc (Nat.le_refl _) _).alloc (by simp) _).trans (hb1.mono (by simp; omega))
  have hown2 : Own w1 w.heap.size 5 A1 n c1 (l.map Bv) := hown1.mono (by simp; omega)
  clear hown1 hb1
  go_loopw [8, 21] (fun v i wr => ∃ j : Nat, j ≤ m ∧ i = .int .i64 j ∧ ∃ A c, v = .slice A (n + j) c ∧ Own wr w.heap.size 5 A (n + j) c ((l ++ (be x m).take j).map Bv) ∧ Below w.heap.size w wr) (fun _ i _ => m - (intOf i).toNat)
  case atStart => exact ⟨0, Nat.zero_le _, rfl, A1, c1, rfl, by simpa using hown2, hb2⟩
  case round =>
    obtain ⟨j, hj, rfl, A4, c4, rfl, hown4, hb4⟩ := hrel
    clear hown2 hb2
    by_cases hlt : j < m
    · have e5 : 0 ≤ (m : Int) - 1 - j := by omega
      have HB : Hid ((be x m).take (j + 1) = (be x m).take j ++ [UInt8.ofNat (x / 256 ^ (m - 1 - j))]) := be_take_succ x m j hlt
      have hz4 := hb4.size
      go_wp2_with (first
        | (at_builtin; go_must (refine wpList_app rfl _ _ 22 rfl Try.underlying22 info5 rfl rfl (hown4.alloc _) rfl (Sv.one _ _ _) ?_ (by omega) (by decide) (by simp; omega) ?_); (intro u hu; simp at hu; subst hu; rfl); intro A5 c5 w5 hown5 hg5))
      have hb5 := (hb4.alloc hz4 _).grown hg5 (by simp; omega) hown4.lt
      clear hg5 hown4 hb4
      go_roundw
      case rel => exact ⟨j + 1, by omega, by go_num, A5, c5, by rw [Nat.add_assoc], by rw [HB.out]; simpa [byte_of, Nat.add_assoc, pow8] using hown5, hb5⟩
      case measure => simp [intOf]; omega
    · obtain rfl : j = m := by omega
      go_wp2
      go_ret
      exact ⟨A4, c4, rfl, by simpa [List.take_of_length_le, be_length] using hown4, hb4⟩
end Go.Proofs.Ythakiojcjkkonaa
