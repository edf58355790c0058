import Derived.Test.YthakiojcjkkonaaT4
import Derived.BigQuiet
namespace Go.Proofs.Ythakiojcjkkonaa
open Go.RowKit
set_option linter.unusedVariables false

/-- Two slices that share no block. -/
def Far (A : Option Addr) (n c : Nat) (A' : Option Addr) (n' c' : Nat) : Prop := ∀ g, Value.ownBlock (.slice A n c) = some g → Value.ownBlock (.slice A' n' c') ≠ some g
theorem far_of {w1 w2 : World} {B B' : Nat} {E E' : TypeId} {A A' : Option Addr} {n n' c c' : Nat} {xs ys : List Value} (h : Own w1 B E A n c xs) (h' : Own w2 B' E' A' n' c' ys) (hB : w1.heap.size ≤ B') : Far A n c A' n' c' := by
  intro g h1 h2
  have := World.ownsRow.lt h g h1
  have := World.ownsRow.lt h' g h2
  omega
theorem Far.symm {A A' : Option Addr} {n n' c c' : Nat} (h : Far A n c A' n' c') : Far A' n' c' A n c := fun g h1 h2 => h g h2 h1

/-- TakeText, as both tell it. -/
def Texted (l : List UInt8) (m : Int) (w : World) (e : Ending) (w' : World) : Prop := ∃ A c A' c', e = .returned (.tuple #[.slice A (textT l m).length c, .slice A' (textR l m).length c', .bool (textB l m)]) ∧
  Own w' w.heap.size 5 A (textT l m).length c ((textT l m).map Bv) ∧ Own w' w.heap.size 5 A' (textR l m).length c' ((textR l m).map Bv) ∧ Far A (textT l m).length c A' (textR l m).length c' ∧ Below w.heap.size w w'
theorem texted_no (l : List UInt8) (m : Int) (w w' : World) (hb : Below w.heap.size w w') (h : ¬ (2 ≤ l.length ∧ (num (l.take 2) : Int) ≤ m ∧ num (l.take 2) ≤ l.length - 2)) : Texted l m w (.returned (.tuple #[.slice none 0 0, .slice none 0 0, .bool false])) w' := by
  have e : textB l m = false := by simpa [textB] using h
  exact ⟨none, 0, none, 0, by simp [textT, textR, e], by simpa [textT, e] using Own.nil w' w.heap.size 5, by simpa [textR, e] using Own.nil w' w.heap.size 5, fun g h => by simp [Value.ownBlock] at h, hb⟩
theorem texted_yes (l : List UInt8) (m : Int) (w w' : World) (A A' : Option Addr) (n c n' c' : Nat) (h : 2 ≤ l.length ∧ (num (l.take 2) : Int) ≤ m ∧ num (l.take 2) ≤ l.length - 2)
    (ho : Own w' w.heap.size 5 A n c (((l.drop 2).take (num (l.take 2))).map Bv)) (ho' : Own w' w.heap.size 5 A' n' c' (((l.drop 2).drop (num (l.take 2))).map Bv)) (hf : Far A n c A' n' c') (hb : Below w.heap.size w w') :
    Texted l m w (.returned (.tuple #[.slice A n c, .slice A' n' c', .bool true])) w' := by
  have e : textB l m = true := by simpa [textB] using h
  have e1 : n = (textT l m).length := by
    have := ho.1.symm
    rw [List.length_map, Nat.mul_one] at this
    rw [this]; simp [textT, e]
  have e2 : n' = (textR l m).length := by
    have := ho'.1.symm
    rw [List.length_map, Nat.mul_one] at this
    rw [this]; simp [textR, e]
  subst e1 e2
  exact ⟨A, c, A', c', by simp [e], by simpa [textT, e] using ho, by simpa [textR, e] using ho', hf, hb⟩

theorem text_yes1 (A : Option Addr) (n c k : Nat) (l : List UInt8) (m : Int) (w : World) (h : Sl w w.heap.size A n c l) (hn : n ≤ 1000000) (e1 : 2 ≤ n) (e2 : (num (l.take 2) : Int) ≤ m) (e3 : num (l.take 2) ≤ n - 2) (h8 : m ≤ ((n - 2 : Nat) : Int)) :
    Calls Try.prog 11 #[.slice A n c, .int .i64 m] w (Texted l m w) := by
  have HM : Hid (2 ≤ l.length ∧ (num (l.take 2) : Int) ≤ m ∧ num (l.take 2) ≤ l.length - 2) := by have := sl_len h; exact ⟨by omega, e2, by omega⟩
  obtain ⟨A2, hrun, hf⟩ := h.tail (lo := 2) (by omega) 22 5 Try.underlying22 elem22 size5 .i64 2 rfl
  have hu := h.upto (hi := 2) (by omega)
  rw [← List.map_drop] at hf
  rw [← List.map_take] at hu
  obtain ⟨A3, hrun3, hf3⟩ := hf.tail (lo := num (l.take 2)) (by omega) 22 5 Try.underlying22 elem22 size5 .i64 _ rfl
  have hu3 := hf.upto (hi := num (l.take 2)) (by omega)
  rw [← List.map_drop] at hf3
  rw [← List.map_take] at hu3
  have HN' : Hid (∀ W, Sl W w.heap.size A 2 c (l.take 2) → Calls Try.prog 23 #[.slice A 2 c] W fun e w' => e = .returned (.int .u64 (num (l.take 2) : Nat)) ∧ W = w') := fun W hw => number_any A 2 c _ (l.take 2) W hw (by omega)
  have hc := h.cap
  have e4 : num (l.take 2) < 65536 := num_take_lt l 2 2 (by omega)
  have HO : Hid (∀ A n c, Own w w.heap.size 5 A n c (((l.drop 2).take (num (l.take 2))).map Bv) → True) := fun _ _ _ _ => trivial
  generalize hN : num (l.take 2) = N at *
  have HNN : Hid (num (l.take 2) = N) := hN
  clear hN
  have e5 : (N : Int) ≤ ((n - 2 : Nat) : Int) := by omega
  have e6 : n - 2 ≤ c - 2 := by omega
  go_enter Try.func11, Try.ntmps11
  go_wp2
  go_quiet ((go_at_call 23; exact Calls.quiet_of_same ((HN'.out _ (by exact hu)).mono fun _ _ ⟨a, b⟩ => ⟨a, b.symm⟩)))
  have hb0 := dN (Below.refl w.heap.size w) nq
  generalize w.drewN nq = w0 at *
  go_wp2_with (first
    | (go_at_call 22; go_must (refine (within_abs _ _ _).mono ?_); rintro e w1 ⟨p, q, rfl, hp, hq, hb1⟩)
    | (go_at_call 26; go_must (refine (inside_yes _ 0 m _ _ _ hp hq (by omega)).mono ?_); rintro e w2 ⟨rfl, rfl⟩))
  go_region_with (first
    | (go_at_call_of 24 A3; go_must (refine (own_any _ _ _ _ _ _ _ (by first | exact (hf3.next (thn hb0 hb1)).drew | exact ((hf3.next (thn hb0 hb1)).drew).next hb2) (Nat.le_refl _) (by omega) (by omega)).mono ?_); rintro e w3 ⟨A4, c4, rfl, hown4, hb3⟩)
    | (go_at_call 24; go_must (refine (own_any _ _ _ _ _ _ _ (by first | exact (hu3.next (thn hb0 hb1)).drew | exact ((hu3.next (thn hb0 hb1)).drew).next hb3) (Nat.le_refl _) (by omega) (by omega)).mono ?_); rintro e w2 ⟨A5, c5, rfl, hown5, hb2⟩))
  go_wp2
  go_ret3
  have hb01 := dN (thn hb0 hb1) 1
  have hb02 := thn hb01 hb2
  exact texted_yes l m w _ A5 A4 _ c5 _ c4 (by rw [HNN.out]; exact HM.out) (by rw [HNN.out]; exact (hown5.below hb3).mono hb01.size) (by rw [HNN.out]; exact hown4.mono hb02.size) (far_of hown5 hown4 (Nat.le_refl _)) (thn hb02 hb3)
theorem text_yes2 (A : Option Addr) (n c k : Nat) (l : List UInt8) (m : Int) (w : World) (h : Sl w w.heap.size A n c l) (hn : n ≤ 1000000) (e1 : 2 ≤ n) (e2 : (num (l.take 2) : Int) ≤ m) (e3 : num (l.take 2) ≤ n - 2) (h8 : ((n - 2 : Nat) : Int) < m) :
    Calls Try.prog 11 #[.slice A n c, .int .i64 m] w (Texted l m w) := by
  have HM : Hid (2 ≤ l.length ∧ (num (l.take 2) : Int) ≤ m ∧ num (l.take 2) ≤ l.length - 2) := by have := sl_len h; exact ⟨by omega, e2, by omega⟩
  obtain ⟨A2, hrun, hf⟩ := h.tail (lo := 2) (by omega) 22 5 Try.underlying22 elem22 size5 .i64 2 rfl
  have hu := h.upto (hi := 2) (by omega)
  rw [← List.map_drop] at hf
  rw [← List.map_take] at hu
  obtain ⟨A3, hrun3, hf3⟩ := hf.tail (lo := num (l.take 2)) (by omega) 22 5 Try.underlying22 elem22 size5 .i64 _ rfl
  have hu3 := hf.upto (hi := num (l.take 2)) (by omega)
  rw [← List.map_drop] at hf3
  rw [← List.map_take] at hu3
  have HN' : Hid (∀ W, Sl W w.heap.size A 2 c (l.take 2) → Calls Try.prog 23 #[.slice A 2 c] W fun e w' => e = .returned (.int .u64 (num (l.take 2) : Nat)) ∧ W = w') := fun W hw => number_any A 2 c _ (l.take 2) W hw (by omega)
  have hc := h.cap
  have e4 : num (l.take 2) < 65536 := num_take_lt l 2 2 (by omega)
  have HO : Hid (∀ A n c, Own w w.heap.size 5 A n c (((l.drop 2).take (num (l.take 2))).map Bv) → True) := fun _ _ _ _ => trivial
  generalize hN : num (l.take 2) = N at *
  have HNN : Hid (num (l.take 2) = N) := hN
  clear hN
  have e5 : (N : Int) ≤ ((n - 2 : Nat) : Int) := by omega
  have e6 : n - 2 ≤ c - 2 := by omega
  go_enter Try.func11, Try.ntmps11
  go_wp2
  go_quiet ((go_at_call 23; exact Calls.quiet_of_same ((HN'.out _ (by exact hu)).mono fun _ _ ⟨a, b⟩ => ⟨a, b.symm⟩)))
  have hb0 := dN (Below.refl w.heap.size w) nq
  generalize w.drewN nq = w0 at *
  go_wp2_with (first
    | (go_at_call 22; go_must (refine (within_abs _ _ _).mono ?_); rintro e w1 ⟨p, q, rfl, hp, hq, hb1⟩)
    | (go_at_call 26; go_must (refine (inside_yes _ 0 ((n - 2 : Nat) : Int) _ _ _ hp hq (by omega)).mono ?_); rintro e w2 ⟨rfl, rfl⟩))
  go_region_with (first
    | (go_at_call_of 24 A3; go_must (refine (own_any _ _ _ _ _ _ _ (by first | exact (hf3.next (thn hb0 hb1)).drew | exact ((hf3.next (thn hb0 hb1)).drew).next hb2) (Nat.le_refl _) (by omega) (by omega)).mono ?_); rintro e w3 ⟨A4, c4, rfl, hown4, hb3⟩)
    | (go_at_call 24; go_must (refine (own_any _ _ _ _ _ _ _ (by first | exact (hu3.next (thn hb0 hb1)).drew | exact ((hu3.next (thn hb0 hb1)).drew).next hb3) (Nat.le_refl _) (by omega) (by omega)).mono ?_); rintro e w2 ⟨A5, c5, rfl, hown5, hb2⟩))
  go_wp2
  go_ret3
  have hb01 := dN (thn hb0 hb1) 1
  have hb02 := thn hb01 hb2
  exact texted_yes l m w _ A5 A4 _ c5 _ c4 (by rw [HNN.out]; exact HM.out) (by rw [HNN.out]; exact (hown5.below hb3).mono hb01.size) (by rw [HNN.out]; exact hown4.mono hb02.size) (far_of hown5 hown4 (Nat.le_refl _)) (thn hb02 hb3)
theorem text_any (A : Option Addr) (n c : Nat) (l : List UInt8) (m : Int) (w : World) (h : Sl w w.heap.size A n c l) (hn : n ≤ 1000000) :
    Calls Try.prog 11 #[.slice A n c, .int .i64 m] w (Texted l m w) := by
  have hl := sl_len h
  by_cases hm : 2 ≤ l.length ∧ (num (l.take 2) : Int) ≤ m ∧ num (l.take 2) ≤ l.length - 2
  · by_cases h8 : m ≤ ((n - 2 : Nat) : Int)
    · exact text_yes1 A n c 0 l m w h hn (by omega) hm.2.1 (by omega) h8
    · exact text_yes2 A n c 0 l m w h hn (by omega) hm.2.1 (by omega) (by omega)
  · have HM : Hid (¬ (2 ≤ l.length ∧ (num (l.take 2) : Int) ≤ m ∧ num (l.take 2) ≤ l.length - 2)) := hm
    rw [← hl] at hm
    clear hl
    by_cases h2 : n < 2
    · go_enter Try.func11, Try.ntmps11
      go_wp2
      go_ret3
      exact texted_no l m w _ (Below.refl _ _) HM.out
    · obtain ⟨A2, hrun, hf⟩ := h.tail (lo := 2) (by omega) 22 5 Try.underlying22 elem22 size5 .i64 2 rfl
      have hu := h.upto (hi := 2) (by omega)
      rw [← List.map_take] at hu
      have HN' : Hid (∀ W, Sl W w.heap.size A 2 c (l.take 2) → Calls Try.prog 23 #[.slice A 2 c] W fun e w' => e = .returned (.int .u64 (num (l.take 2) : Nat)) ∧ W = w') := fun W hw => number_any A 2 c _ (l.take 2) W hw (by omega)
      have hc := h.cap
      have e4 : num (l.take 2) < 65536 := num_take_lt l 2 2 (by omega)
      generalize hN : num (l.take 2) = N at *
      have HNN : Hid (num (l.take 2) = N) := hN
      clear hN
      have e6 : n - 2 ≤ c - 2 := by omega
      have e7 : m < N ∨ ((n - 2 : Nat) : Int) < N := by omega
      by_cases h8 : m ≤ ((n - 2 : Nat) : Int)
      · go_enter Try.func11, Try.ntmps11
        go_wp2
        go_quiet ((go_at_call 23; exact Calls.quiet_of_same ((HN'.out _ (by exact hu)).mono fun _ _ ⟨a, b⟩ => ⟨a, b.symm⟩)))
        have hb0 := dN (Below.refl w.heap.size w) nq
        generalize w.drewN nq = w0 at *
        go_wp2_with (first
          | (go_at_call 22; go_must (refine (within_abs _ _ _).mono ?_); rintro e w1 ⟨p, q, rfl, hp, hq, hb1⟩)
          | (go_at_call 26; go_must (refine (inside_no _ 0 m _ _ _ hp hq (by omega)).mono ?_); rintro e w2 ⟨rfl, rfl⟩))
        go_ret3
        exact texted_no l m w _ (thn hb0 hb1) (by rw [HNN.out]; exact HM.out)
      · go_enter Try.func11, Try.ntmps11
        go_wp2
        go_quiet ((go_at_call 23; exact Calls.quiet_of_same ((HN'.out _ (by exact hu)).mono fun _ _ ⟨a, b⟩ => ⟨a, b.symm⟩)))
        have hb0 := dN (Below.refl w.heap.size w) nq
        generalize w.drewN nq = w0 at *
        go_wp2_with (first
          | (go_at_call 22; go_must (refine (within_abs _ _ _).mono ?_); rintro e w1 ⟨p, q, rfl, hp, hq, hb1⟩)
          | (go_at_call 26; go_must (refine (inside_no _ 0 ((n - 2 : Nat) : Int) _ _ _ hp hq (by omega)).mono ?_); rintro e w2 ⟨rfl, rfl⟩))
        go_ret3
        exact texted_no l m w _ (thn hb0 hb1) (by rw [HNN.out]; exact HM.out)

theorem putText_made (A : Option Addr) (n c : Nat) (l : List UInt8) (A' : Option Addr) (n' c' : Nat) (t : List UInt8) (w : World) (h : Sl w w.heap.size A n c l) (h' : Sl w w.heap.size A' n' c' t) (hn : n ≤ 1000000) (hn' : n' ≤ 1000000) :
    Calls Try.prog 16 #[.slice A n c, .slice A' n' c'] w (Made (putTextF l t) w) := by
  have HT : Hid (n' = t.length) := sl_len h'
  by_cases ht : n' ≤ 65535
  · have HF : Hid (l ++ be n' 2 ++ t = putTextF l t) := by unfold Hid; rw [putTextF, if_pos (by rw [← HT.out]; exact ht), ← HT.out]
    have HL : Hid (n = l.length) := sl_len h
    go_enter Try.func16, Try.ntmps16
    go_wp2_with (first
      | (go_at_call 22; go_must (refine (within_abs _ _ _).mono ?_); rintro e w1 ⟨p, q, rfl, hp, hq, hb1⟩)
      | (go_at_call 26; go_must (refine (inside_yes _ 0 65535 _ _ _ hp hq (by omega)).mono ?_); rintro e w2 ⟨rfl, rfl⟩)
      | (go_at_call 14; go_must (refine (put_any _ _ _ _ l _ _ _ (h.next hb1) (Nat.le_refl _) (by omega) (by omega) (by omega)).mono ?_); rintro e w3 ⟨A3, c3, rfl, hown3, hb3⟩)
      | (at_builtin; go_must (refine wpList_app rfl _ _ 22 rfl Try.underlying22 info5 rfl rfl hown3 rfl ((h'.next hb1).next hb3) (Bv_one _) (by simp; omega) (by decide) hb3.size ?_); intro A4 c4 w4 hown4 hg4))
    go_ret
    rw [← List.map_append] at hown4
    exact made_of (hown4.mono hb1.size) (thn hb1 (hb3.grown hg4 hb3.size hown3.lt)) HF.out
  · have HF : Hid (l = putTextF l t) := by unfold Hid; rw [putTextF, if_neg (by rw [← HT.out]; exact ht)]
    go_enter Try.func16, Try.ntmps16
    go_wp2_with (first
      | (go_at_call 22; go_must (refine (within_abs _ _ _).mono ?_); rintro e w1 ⟨p, q, rfl, hp, hq, hb1⟩)
      | (go_at_call 26; go_must (refine (inside_no _ 0 65535 _ _ _ hp hq (by omega)).mono ?_); rintro e w2 ⟨rfl, rfl⟩)
      | (go_at_call 24; go_must (refine (own_any _ _ _ _ l _ _ (h.next hb1) (Nat.le_refl _) (by omega) (by omega)).mono ?_); rintro e w3 ⟨A3, c3, rfl, hown3, hb3⟩))
    go_ret
    exact made_of (hown3.mono hb1.size) (thn hb1 hb3) HF.out
end Go.Proofs.Ythakiojcjkkonaa
