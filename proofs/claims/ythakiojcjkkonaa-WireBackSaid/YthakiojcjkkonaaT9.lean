import Derived.Test.YthakiojcjkkonaaT8
namespace Go.Proofs.Ythakiojcjkkonaa
open Go.RowKit
set_option linter.unusedVariables false

theorem take_yes_at (A : Option Addr) (n c : Nat) (l : List UInt8) (m : Int) (w : World) (h : Sl w w.heap.size A n c l) (hn : n ≤ 1000000) (hm : 1 ≤ m ∧ m ≤ 8 ∧ m ≤ (n : Int)) :
    Calls Try.prog 9 #[.slice A n c, .int .i64 m] w fun e w' => ∃ A' c', e = .returned (.tuple #[.int .u64 (num (l.take m.toNat) : Nat), .slice A' (n - m.toNat) c', .bool true]) ∧ Own w' w.heap.size 5 A' (n - m.toNat) c' ((l.drop m.toNat).map Bv) ∧ Below w.heap.size w w' :=
  (take_any A n c _ l m w h (Nat.le_refl _) hn).mono fun e w' ⟨A', c', he, ho, hb⟩ => by
    have hl := sl_len h
    have e1 : takeB l m = true := by simp only [takeB, decide_eq_true_eq]; omega
    have e2 : takeR l m = l.drop m.toNat := by simp [takeR, e1]
    have e3 : takeN l m = num (l.take m.toNat) := by simp [takeN, e1]
    rw [e1, e2, e3] at he
    rw [e2] at ho
    rw [List.length_drop, ← hl] at he ho
    exact ⟨A', c', he, ho, hb⟩
theorem take_no_at (A : Option Addr) (n c : Nat) (l : List UInt8) (m : Int) (w : World) (h : Sl w w.heap.size A n c l) (hn : n ≤ 1000000) (hm : ¬ (1 ≤ m ∧ m ≤ 8 ∧ m ≤ (n : Int))) :
    Calls Try.prog 9 #[.slice A n c, .int .i64 m] w fun e w' => ∃ A' c', e = .returned (.tuple #[.int .u64 0, .slice A' 0 c', .bool false]) ∧ Own w' w.heap.size 5 A' 0 c' [] ∧ Below w.heap.size w w' :=
  (take_any A n c _ l m w h (Nat.le_refl _) hn).mono fun e w' ⟨A', c', he, ho, hb⟩ => by
    have hl := sl_len h
    have e1 : takeB l m = false := by simp only [takeB, decide_eq_false_iff_not]; omega
    have e2 : takeR l m = [] := by simp [takeR, e1]
    have e3 : takeN l m = 0 := by simp [takeN, e1]
    rw [e1, e2, e3] at he
    rw [e2] at ho
    exact ⟨A', c', he, ho, hb⟩
theorem text_yes_at (A : Option Addr) (n c : Nat) (l : List UInt8) (m : Int) (N : Nat) (w : World) (h : Sl w w.heap.size A n c l) (hn : n ≤ 1000000) (hN : num (l.take 2) = N) (hm : 2 ≤ n ∧ (N : Int) ≤ m ∧ N ≤ n - 2) :
    Calls Try.prog 11 #[.slice A n c, .int .i64 m] w fun e w' => ∃ A' c' A2 c2, e = .returned (.tuple #[.slice A' N c', .slice A2 (n - 2 - N) c2, .bool true]) ∧
      Own w' w.heap.size 5 A' N c' (((l.drop 2).take N).map Bv) ∧ Own w' w.heap.size 5 A2 (n - 2 - N) c2 (((l.drop 2).drop N).map Bv) ∧ Far A' N c' A2 (n - 2 - N) c2 ∧ Below w.heap.size w w' :=
  (text_any A n c l m w h hn).mono fun e w' ⟨A', c', A2, c2, he, ho, ho2, hf, hb⟩ => by
    have hl := sl_len h
    subst hN
    have e1 : textB l m = true := by simp only [textB, decide_eq_true_eq]; omega
    have e2 : textT l m = (l.drop 2).take (num (l.take 2)) := by simp [textT, e1]
    have e3 : textR l m = (l.drop 2).drop (num (l.take 2)) := by simp [textR, e1]
    have e4 : ((l.drop 2).take (num (l.take 2))).length = num (l.take 2) := by rw [List.length_take, List.length_drop]; omega
    have e5 : ((l.drop 2).drop (num (l.take 2))).length = n - 2 - num (l.take 2) := by rw [List.length_drop, List.length_drop, ← hl]
    rw [e1, e2, e3, e4, e5] at he
    rw [e2, e4] at ho
    rw [e3, e5] at ho2
    rw [e2, e3, e4, e5] at hf
    exact ⟨A', c', A2, c2, he, ho, ho2, hf, hb⟩
theorem text_no_at (A : Option Addr) (n c : Nat) (l : List UInt8) (m : Int) (N : Nat) (w : World) (h : Sl w w.heap.size A n c l) (hn : n ≤ 1000000) (hN : num (l.take 2) = N) (hm : ¬ (2 ≤ n ∧ (N : Int) ≤ m ∧ N ≤ n - 2)) :
    Calls Try.prog 11 #[.slice A n c, .int .i64 m] w fun e w' => ∃ A' c' A2 c2, e = .returned (.tuple #[.slice A' 0 c', .slice A2 0 c2, .bool false]) ∧
      Own w' w.heap.size 5 A' 0 c' [] ∧ Own w' w.heap.size 5 A2 0 c2 [] ∧ Below w.heap.size w w' :=
  (text_any A n c l m w h hn).mono fun e w' ⟨A', c', A2, c2, he, ho, ho2, hf, hb⟩ => by
    have hl := sl_len h
    subst hN
    have e1 : textB l m = false := by simp only [textB, decide_eq_false_iff_not]; omega
    have e2 : textT l m = [] := by simp [textT, e1]
    have e3 : textR l m = [] := by simp [textR, e1]
    rw [e1, e2, e3] at he
    rw [e2] at ho
    rw [e3] at ho2
    exact ⟨A', c', A2, c2, he, ho, ho2, hb⟩
end Go.Proofs.Ythakiojcjkkonaa
