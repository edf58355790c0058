import Derived.Test.YthakiojcjkkonaaT3
import Derived.Test.YthakiojcjkkonaaPure
import Derived.Laws.BytesArg
import Derived.Deep.RegionWith
namespace Go.Proofs.Ythakiojcjkkonaa
open Go.RowKit
set_option linter.unusedVariables false

/-- A new slice of bytes is returned; nothing that was there has turned. -/
def Made (l : List UInt8) (w : World) (e : Ending) (w' : World) : Prop := ∃ A c, e = .returned (.slice A l.length c) ∧ Own w' w.heap.size 5 A l.length c (l.map Bv) ∧ Below w.heap.size w w'
theorem made_of {l l' : List UInt8} {w w' : World} {A : Option Addr} {n c : Nat} (h : Own w' w.heap.size 5 A n c (l.map Bv)) (hb : Below w.heap.size w w') (e : l = l') : Made l' w (.returned (.slice A n c)) w' := by
  subst e
  have := h.1
  obtain rfl : n = l.length := by simpa using this.symm
  exact ⟨A, c, rfl, h, hb⟩

theorem own_made (A : Option Addr) (n c k : Nat) (l : List UInt8) (more : Int) (w : World) (h : Sl w k A n c l) (hk : k ≤ w.heap.size) (h0 : 0 ≤ more) (h1 : n + more ≤ 140737488355328) :
    Calls Try.prog 24 #[.slice A n c, .int .i64 more] w (Made l w) :=
  (own_any A n c k l more w h hk h0 h1).mono fun e w' ⟨A', c', he, ho, hb⟩ => he ▸ made_of ho hb rfl

theorem inside_no (n a b : Int) (p q : Addr) (w : World) (h1 : w.cell? p = some (.int .i64 a)) (h2 : w.cell? q = some (.int .i64 b)) (h : ¬ (a ≤ n ∧ n ≤ b)) :
    Calls Try.prog 26 #[.int .i64 n, .pointer (some p), .pointer (some q)] w fun e w' => e = .returned (.bool false) ∧ w = w' :=
  (inside_any n a b p q w h1 h2).mono fun e w' ⟨he, hw⟩ => ⟨by rw [he]; congr 2; simpa using h, hw⟩
theorem inside_yes (n a b : Int) (p q : Addr) (w : World) (h1 : w.cell? p = some (.int .i64 a)) (h2 : w.cell? q = some (.int .i64 b)) (h : a ≤ n ∧ n ≤ b) :
    Calls Try.prog 26 #[.int .i64 n, .pointer (some p), .pointer (some q)] w fun e w' => e = .returned (.bool true) ∧ w = w' :=
  (inside_any n a b p q w h1 h2).mono fun e w' ⟨he, hw⟩ => ⟨by rw [he]; congr 2; simpa using h, hw⟩

theorem put_made (A : Option Addr) (n c k : Nat) (l : List UInt8) (x : Nat) (m : Int) (w : World) (h : Sl w k A n c l) (hk : k ≤ w.heap.size) (hx : x ≤ 18446744073709551615) (hn : n ≤ 1000000) :
    Calls Try.prog 14 #[.slice A n c, .int .u64 x, .int .i64 m] w (Made (putF l x m) w) := by
  by_cases hm : 1 ≤ m ∧ m ≤ 8
  · rw [putF_yes l x m hm]
    exact (put_any A n c k l x m w h hk hx hm hn).mono fun e w' ⟨A', c', he, ho, hb⟩ => he ▸ made_of ho hb rfl
  · rw [putF_no l x m hm]
    have e1 : ¬ (1 ≤ m ∧ m ≤ 8) → m < 1 ∨ 8 < m := by omega
    have hm' := e1 hm
    · go_enter Try.func14, Try.ntmps14
      go_wp2_with (first
        | (go_at_call 22; go_must (refine (within_any _ _ _).mono ?_); rintro e w1 ⟨rfl, rfl⟩)
        | (go_at_call 26; go_must (refine (inside_no _ 1 8 _ _ _ (by go_simp) (by go_simp) (by omega)).mono ?_); rintro e w1 ⟨rfl, rfl⟩)
        | (go_at_call 24; go_must (refine (own_any A n c k l _ _ ((h.alloc hk _).alloc (by simp; omega) _) (by simp; omega) (by omega) (by omega)).mono ?_); rintro e w1 ⟨A1, c1, rfl, hown1, hb1⟩))
      go_ret
      exact made_of (hown1.mono (by simp; omega)) ((((Below.refl _ _).alloc (Nat.le_refl _) _).alloc (by simp) _).trans (hb1.mono (by simp; omega))) rfl

theorem size5 (w : World) : (sizeOf 5).run Try.prog w = .ok 1 w := by kernel_rfl
theorem elem22 : Try.prog.elem 22 = 5 := by kernel_rfl
theorem rest_made (A : Option Addr) (n c k : Nat) (l : List UInt8) (m : Int) (w : World) (h : Sl w k A n c l) (hm : 0 ≤ m ∧ m ≤ n) (hn : n ≤ 1000000) :
    Calls Try.prog 25 #[.slice A n c, .int .i64 m] w (Made (l.drop m.toNat) w) := by
  obtain ⟨m, rfl⟩ := Int.eq_ofNat_of_zero_le hm.1
  obtain ⟨A2, hrun, hf⟩ := h.tail (lo := m) (by omega) 22 5 Try.underlying22 elem22 size5 .i64 _ rfl
  rw [← List.map_drop] at hf
  have hmn : (m : Int) ≤ n := hm.2
  go_enter Try.func25, Try.ntmps25
  go_wp2_with (at_builtin; go_must (refine wpList_app rfl _ _ 22 rfl Try.underlying22 info5 rfl rfl (Own.nil _ w.heap.size _) rfl hf (Bv_one _) (by omega) (by decide) (Nat.le_refl _) ?_); intro A3 c3 w2 hown3 hg3)
  go_ret
  rw [Nat.zero_add, List.nil_append] at hown3
  exact made_of hown3 ((Below.refl w.heap.size w).grown hg3 (Nat.le_refl _) (by simp [Value.ownBlock])) (by simp)

theorem refPut_made (A : Option Addr) (n c k : Nat) (l : List UInt8) (x : Nat) (m : Int) (w : World) (h : Sl w k A n c l) (hk : k ≤ w.heap.size) (hx : x ≤ 18446744073709551615) (hn : n ≤ 1000000) :
    Calls Try.prog 15 #[.slice A n c, .int .u64 x, .int .i64 m] w (Made (putF l x m) w) := by
  by_cases hm : 1 ≤ m ∧ m ≤ 8
  · rw [putF_yes l x m hm]
    exact (refPut_any A n c k l x m w h hk hx hm hn).mono fun e w' ⟨A', c', he, ho, hb⟩ => he ▸ made_of ho hb rfl
  · rw [putF_no l x m hm]
    have e1 : ¬ (1 ≤ m ∧ m ≤ 8) → m < 1 ∨ 8 < m := by omega
    rcases e1 hm with hm' | hm'
    all_goals
      clear hm e1
      go_enter Try.func15, Try.ntmps15
      go_wp2_with (at_builtin; go_must (refine wpList_app rfl _ _ 22 rfl Try.underlying22 info5 rfl rfl (Own.nil _ w.heap.size _) rfl h (Bv_one _) (by omega) (by decide) (Nat.le_refl _) ?_); intro A3 c3 w2 hown3 hg3)
      go_ret
      exact made_of (by simpa using hown3) ((Below.refl w.heap.size w).grown hg3 (Nat.le_refl _) (by simp [Value.ownBlock])) (by simp)

theorem signed_any (x : Int) (w : World) (h0 : 0 ≤ x) (h1 : x ≤ 18446744073709551615) :
    Calls Try.prog 20 #[.int .u64 x] w fun e w' => e = .returned (.int .i32 (x % 4294967296 - 2147483648)) ∧ w = w' := by
  go_enter Try.func20, Try.ntmps20
  go_wp2
  go_ret
  exact ⟨rfl, rfl⟩
theorem refSigned_any (x : Int) (w : World) (h0 : 0 ≤ x) (h1 : x ≤ 18446744073709551615) :
    Calls Try.prog 21 #[.int .u64 x] w fun e w' => e = .returned (.int .i32 (x % 4294967296 - 2147483648)) ∧ w = w' := by
  go_enter Try.func21, Try.ntmps21
  go_wp2
  go_ret
  exact ⟨rfl, rfl⟩
theorem refUnsigned_any (x : Int) (w : World) (h0 : -2147483648 ≤ x) (h1 : x ≤ 2147483647) :
    Calls Try.prog 19 #[.int .i32 x] w fun e w' => e = .returned (.int .u64 (x + 2147483648)) ∧ w = w' := by
  go_enter Try.func19, Try.ntmps19
  go_wp2
  go_ret
  exact ⟨rfl, rfl⟩
theorem unsigned_any (x : Int) (w : World) (h0 : -2147483648 ≤ x) (h1 : x ≤ 2147483647) :
    Calls Try.prog 18 #[.int .i32 x] w fun e w' => e = .returned (.int .u64 (x + 2147483648)) ∧ w = w' := by
  go_enter Try.func18, Try.ntmps18
  go_wp2
  go_ret
  exact ⟨rfl, rfl⟩
theorem same_any (A : Option Addr) (n c k : Nat) (l : List UInt8) (A' : Option Addr) (n' c' k' : Nat) (l' : List UInt8) (w : World) (h : Sl w k A n c l) (h' : Sl w k' A' n' c' l') :
    Calls Try.prog 13 #[.slice A n c, .slice A' n' c'] w fun e w' => e = .returned (.bool (l == l')) ∧ w = w' := by
  have e1 := run_str (P := Try.prog) 22 9 5 Try.underlying22 Try.underlying5 Try.underlying9 h
  have e2 := run_str (P := Try.prog) 22 9 5 Try.underlying22 Try.underlying5 Try.underlying9 h'
  go_enter Try.func13, Try.ntmps13
  go_wp2
  go_ret
  exact ⟨rfl, rfl⟩

/-- Take, as both tell it. -/
def Taken (l : List UInt8) (m : Int) (w : World) (e : Ending) (w' : World) : Prop := ∃ A c, e = .returned (.tuple #[.int .u64 (takeN l m : Nat), .slice A (takeR l m).length c, .bool (takeB l m)]) ∧
  Own w' w.heap.size 5 A (takeR l m).length c ((takeR l m).map Bv) ∧ Below w.heap.size w w'
theorem taken_no (l : List UInt8) (m : Int) (w w' : World) (hb : Below w.heap.size w w') (h : ¬ (1 ≤ m ∧ m ≤ 8 ∧ m ≤ (l.length : Int))) : Taken l m w (.returned (.tuple #[.int .u64 0, .slice none 0 0, .bool false])) w' := by
  have e : takeB l m = false := by simpa [takeB] using h
  exact ⟨none, 0, by simp [takeN, takeR, e], by simpa [takeR, e] using Own.nil w' w.heap.size 5, hb⟩
theorem taken_yes (l : List UInt8) (m : Int) (w w' : World) (A : Option Addr) (n c : Nat) (ho : Own w' w.heap.size 5 A n c ((l.drop m.toNat).map Bv)) (hb : Below w.heap.size w w') (h : 1 ≤ m ∧ m ≤ 8 ∧ m ≤ (l.length : Int)) :
    Taken l m w (.returned (.tuple #[.int .u64 (num (l.take m.toNat) : Nat), .slice A n c, .bool true])) w' := by
  have e : takeB l m = true := by simpa [takeB] using h
  obtain rfl : n = (l.drop m.toNat).length := by simpa using ho.1.symm
  exact ⟨A, c, by simp [takeN, takeR, e], by simpa [takeR, e] using ho, hb⟩

theorem take_yes1 (A : Option Addr) (n c k : Nat) (l : List UInt8) (m : Nat) (w : World) (h : Sl w k A n c l) (hk : k ≤ w.heap.size) (hn : n ≤ 1000000) (e1 : (1 : Int) ≤ m) (e2 : (m : Int) ≤ 8) (e3 : (m : Int) ≤ n) (h8 : (n : Int) < 8) :
    Calls Try.prog 9 #[.slice A n c, .int .i64 m] w (Taken l m w) := by
  have HM : Hid (1 ≤ (m : Int) ∧ (m : Int) ≤ 8 ∧ (m : Int) ≤ l.length) := ⟨e1, e2, by have := sl_len h; omega⟩
  obtain ⟨A2, hrun, hf⟩ := h.tail (lo := m) (by omega) 22 5 Try.underlying22 elem22 size5 .i64 _ rfl
  have hu := h.upto (hi := m) (by omega)
  rw [← List.map_drop] at hf
  rw [← List.map_take] at hu
  have hc := h.cap
  go_enter Try.func9, Try.ntmps9
  go_wp2_with (first
    | (go_at_call 22; go_must (refine (within_any _ _ _).mono ?_); rintro e w1 ⟨rfl, rfl⟩)
    | (go_at_call 26; go_must (refine (inside_yes _ 1 (n : Int) _ _ _ (by go_simp) (by go_simp) (by omega)).mono ?_); rintro e w1 ⟨rfl, rfl⟩))
  go_region_with (first
    | (go_at_call 23; go_must (refine (number_any _ _ _ k _ _ (by first | exact ((hu.alloc hk _).alloc (by simp; omega) _).drew | exact ((hu.alloc hk _).alloc (by simp; omega) _).drew.below (hb1.mono (by simp; omega))) (by omega)).mono ?_); rintro e w1 ⟨rfl, rfl⟩)
    | (go_at_call 24; go_must (refine (own_any _ _ _ k _ _ _ (by exact ((hf.alloc hk _).alloc (by simp; omega) _).drew) (by simp; omega) (by omega) (by omega)).mono ?_); rintro e w1 ⟨A1, c1, rfl, hown1, hb1⟩))
  all_goals
    go_wp2
    go_ret3
    exact taken_yes l m w _ A1 _ c1 (hown1.mono (by simp; omega)) ((((Below.refl _ _).alloc (Nat.le_refl _) _).alloc (by simp) _).drew.trans (hb1.mono (by simp; omega))) HM.out
theorem take_yes2 (A : Option Addr) (n c k : Nat) (l : List UInt8) (m : Nat) (w : World) (h : Sl w k A n c l) (hk : k ≤ w.heap.size) (hn : n ≤ 1000000) (e1 : (1 : Int) ≤ m) (e2 : (m : Int) ≤ 8) (e3 : (m : Int) ≤ n) (h8 : 8 ≤ (n : Int)) :
    Calls Try.prog 9 #[.slice A n c, .int .i64 m] w (Taken l m w) := by
  have HM : Hid (1 ≤ (m : Int) ∧ (m : Int) ≤ 8 ∧ (m : Int) ≤ l.length) := ⟨e1, e2, by have := sl_len h; omega⟩
  obtain ⟨A2, hrun, hf⟩ := h.tail (lo := m) (by omega) 22 5 Try.underlying22 elem22 size5 .i64 _ rfl
  have hu := h.upto (hi := m) (by omega)
  rw [← List.map_drop] at hf
  rw [← List.map_take] at hu
  have hc := h.cap
  go_enter Try.func9, Try.ntmps9
  go_wp2_with (first
    | (go_at_call 22; go_must (refine (within_any _ _ _).mono ?_); rintro e w1 ⟨rfl, rfl⟩)
    | (go_at_call 26; go_must (refine (inside_yes _ 1 8 _ _ _ (by go_simp) (by go_simp) (by omega)).mono ?_); rintro e w1 ⟨rfl, rfl⟩))
  go_region_with (first
    | (go_at_call 23; go_must (refine (number_any _ _ _ k _ _ (by first | exact ((hu.alloc hk _).alloc (by simp; omega) _).drew | exact ((hu.alloc hk _).alloc (by simp; omega) _).drew.below (hb1.mono (by simp; omega))) (by omega)).mono ?_); rintro e w1 ⟨rfl, rfl⟩)
    | (go_at_call 24; go_must (refine (own_any _ _ _ k _ _ _ (by exact ((hf.alloc hk _).alloc (by simp; omega) _).drew) (by simp; omega) (by omega) (by omega)).mono ?_); rintro e w1 ⟨A1, c1, rfl, hown1, hb1⟩))
  all_goals
    go_wp2
    go_ret3
    exact taken_yes l m w _ A1 _ c1 (hown1.mono (by simp; omega)) ((((Below.refl _ _).alloc (Nat.le_refl _) _).alloc (by simp) _).drew.trans (hb1.mono (by simp; omega))) HM.out

theorem take_any (A : Option Addr) (n c k : Nat) (l : List UInt8) (m : Int) (w : World) (h : Sl w k A n c l) (hk : k ≤ w.heap.size) (hn : n ≤ 1000000) :
    Calls Try.prog 9 #[.slice A n c, .int .i64 m] w (Taken l m w) := by
  have hl : n = l.length := by simpa using h.len
  by_cases hm : 1 ≤ m ∧ m ≤ 8 ∧ m ≤ (l.length : Int)
  · obtain ⟨m, rfl⟩ := Int.eq_ofNat_of_zero_le (show 0 ≤ m by omega)
    by_cases h8 : (n : Int) < 8
    · exact take_yes1 A n c k l m w h hk hn (by omega) (by omega) (by omega) h8
    · exact take_yes2 A n c k l m w h hk hn (by omega) (by omega) (by omega) (by omega)
  · have HM : Hid (¬ (1 ≤ m ∧ m ≤ 8 ∧ m ≤ (l.length : Int))) := hm
    rw [← hl] at hm
    clear hl
    go_enter Try.func9, Try.ntmps9
    by_cases h8 : (n : Int) < 8
    · go_wp2_with (first
        | (go_at_call 22; go_must (refine (within_any _ _ _).mono ?_); rintro e w1 ⟨rfl, rfl⟩)
        | (go_at_call 26; go_must (refine (inside_no _ 1 (n : Int) _ _ _ (by go_simp) (by go_simp) (by omega)).mono ?_); rintro e w1 ⟨rfl, rfl⟩))
      go_ret3
      exact taken_no l m w _ (((Below.refl _ _).alloc (Nat.le_refl _) _).alloc (by simp) _) HM.out
    · go_wp2_with (first
        | (go_at_call 22; go_must (refine (within_any _ _ _).mono ?_); rintro e w1 ⟨rfl, rfl⟩)
        | (go_at_call 26; go_must (refine (inside_no _ 1 8 _ _ _ (by go_simp) (by go_simp) (by omega)).mono ?_); rintro e w1 ⟨rfl, rfl⟩))
      go_ret3
      exact taken_no l m w _ (((Below.refl _ _).alloc (Nat.le_refl _) _).alloc (by simp) _) HM.out
end Go.Proofs.Ythakiojcjkkonaa
