/- Layer 8: rows in memory; the small functions of seen. -/
import Derived.Test.YtkdlgejkgcojkaaDoorQr
import Derived.Test.YtkdlgejkgcojkaaDoorReg8
import Derived.Test.YtkdlgejkgcojkaaDoorReg6
import Derived.Test.YtkdlgejkgcojkaaDoorTy
import Derived.Shelf.Abstract
import Derived.Deep.Cut
namespace Go.Proofs.YtkdlgejkgcojkaaDoor
open Go.RowKit
set_option linter.unusedVariables false
theorem ret_bool {a b : Bool} (h : a = b) : Ending.returned (.bool a) = .returned (.bool b) := by rw [h]
def RowBlk (w : World) (g : Nat) (p : Row3) : Prop := w.heap[g]? = some (.cells #[.int .u16 p.1, .int .u32 p.2.1, .int .u64 p.2.2] 26 (0, 0))
section
variable {w w' : World} {g : Nat} {p : Row3}
theorem RowBlk.new (w : World) (p : Row3) : RowBlk (w.alloc (.cells #[.int .u16 p.1, .int .u32 p.2.1, .int .u64 p.2.2] 26)) w.heap.size p := heap_alloc_new w _
theorem RowBlk.lt (h : RowBlk w g p) : g < w.heap.size := (Array.getElem?_eq_some_iff.1 h).1
theorem RowBlk.next (h : RowBlk w g p) (hb : Below w.heap.size w w') : RowBlk w' g p := by unfold RowBlk; rw [hb.block g h.lt]; exact h
theorem RowBlk.cells (h : RowBlk w g p) : w.cell? ⟨g, 0, none⟩ = some (.int .u16 p.1) ∧ w.cell? ⟨g, 1, none⟩ = some (.int .u32 p.2.1) ∧ w.cell? ⟨g, 2, none⟩ = some (.int .u64 p.2.2) := by
  unfold RowBlk at h; simp [World.cell?, h]
theorem RowBlk.free (h : RowBlk w g p) : ∀ i, w.frozen? ⟨g, i, none⟩ = false := fun i => by unfold RowBlk at h; simp [World.frozen?, h]
end
theorem row_eq (p q : Row3) : decide (p.1 = q.1 ∧ p.2.1 = q.2.1 ∧ p.2.2 = q.2.2) = decide (p = q) := by
  rw [Bool.eq_iff_iff, decide_eq_true_eq, decide_eq_true_eq]
  exact ⟨fun ⟨h1, h2, h3⟩ => id3_ext h1 h2 h3, fun h => by rw [h]; exact ⟨rfl, rfl, rfl⟩⟩
theorem roweql (p q : Row3) (w : World) : (binOp .eql 26 (.agg #[.int .u16 p.1, .int .u32 p.2.1, .int .u64 p.2.2]) (.agg #[.int .u16 q.1, .int .u32 q.2.1, .int .u64 q.2.2])).run Tryd.prog w = .ok (.bool (decide (p = q))) w := by
  rw [← row_eq]
  by_cases h1 : p.1 = q.1
  · by_cases h2 : p.2.1 = q.2.1
    · by_cases h3 : p.2.2 = q.2.2
      · simp [go_sem, h1, h2, h3]
      · simp [go_sem, h1, h2, h3]
    · simp [go_sem, h1, h2]
  · simp [go_sem, h1]
theorem rowneq (p q : Row3) (w : World) : (binOp .neq 26 (.agg #[.int .u16 p.1, .int .u32 p.2.1, .int .u64 p.2.2]) (.agg #[.int .u16 q.1, .int .u32 q.2.1, .int .u64 q.2.2])).run Tryd.prog w = .ok (.bool (!decide (p = q))) w := by
  rw [← row_eq]
  by_cases h1 : p.1 = q.1
  · by_cases h2 : p.2.1 = q.2.1
    · by_cases h3 : p.2.2 = q.2.2
      · simp [go_sem, h1, h2, h3]
      · simp [go_sem, h1, h2, h3]
    · simp [go_sem, h1, h2]
  · simp [go_sem, h1]
theorem markeql (p q : Id3) (w : World) : (binOp .eql 30 (.agg #[.int .u8 p.1, .int .u16 p.2.1, .int .u32 p.2.2]) (.agg #[.int .u8 q.1, .int .u16 q.2.1, .int .u32 q.2.2])).run Tryd.prog w = .ok (.bool (decide (p = q))) w := by
  rw [← id_eq]
  by_cases h1 : p.1 = q.1
  · by_cases h2 : p.2.1 = q.2.1
    · by_cases h3 : p.2.2 = q.2.2
      · simp [go_sem, h1, h2, h3]
      · simp [go_sem, h1, h2, h3]
    · simp [go_sem, h1, h2]
  · simp [go_sem, h1]
theorem markneq (p q : Id3) (w : World) : (binOp .neq 30 (.agg #[.int .u8 p.1, .int .u16 p.2.1, .int .u32 p.2.2]) (.agg #[.int .u8 q.1, .int .u16 q.2.1, .int .u32 q.2.2])).run Tryd.prog w = .ok (.bool (!decide (p = q))) w := by
  rw [← id_eq]
  by_cases h1 : p.1 = q.1
  · by_cases h2 : p.2.1 = q.2.1
    · by_cases h3 : p.2.2 = q.2.2
      · simp [go_sem, h1, h2, h3]
      · simp [go_sem, h1, h2, h3]
    · simp [go_sem, h1, h2]
  · simp [go_sem, h1]
theorem neq_bool (a b : Bool) (w : World) : (binOp .neq 4 (.bool a) (.bool b)).run Tryd.prog w = .ok (.bool (!(a == b))) w := by
  cases a <;> cases b <;> simp [go_sem]
theorem fits_any (n : Int) (w : World) : Calls Tryd.prog 21 #[.int .i64 n] w fun e w' => e = .returned (.bool (decide (1 ≤ n ∧ n ≤ 64))) ∧ w = w' := by
  go_enter Tryd.func21, Tryd.ntmps21
  go_wp2
  all_goals
    go_ret
    refine ⟨ret_bool ?_, rfl⟩
    simp
    try omega
theorem mark_any (node : Int) (r : Row3) (w : World) : Calls Tryd.prog 10 #[.int .u8 node, (.agg #[.int .u16 r.1, .int .u32 r.2.1, .int .u64 r.2.2])] w fun e w' => e = .returned (.agg #[.int .u8 node, .int .u16 r.1, .int .u32 r.2.1]) ∧ Below w.heap.size w w' := by
  go_enter Tryd.func10, Tryd.ntmps10
  go_wp2
  exact bodyPost_ret (v := .agg #[.int .u8 node, .int .u16 r.1, .int .u32 r.2.1]) (by simp [results, Tryd.results10, go_sem]) rfl ⟨rfl, Go.Joins.below_alloc2 w _ _⟩
theorem refMark_any (node : Int) (r : Row3) (w : World) : Calls Tryd.prog 11 #[.int .u8 node, (.agg #[.int .u16 r.1, .int .u32 r.2.1, .int .u64 r.2.2])] w fun e w' => e = .returned (.agg #[.int .u8 node, .int .u16 r.1, .int .u32 r.2.1]) ∧ Below w.heap.size w w' := by
  go_enter Tryd.func11, Tryd.ntmps11
  go_wp2
  exact bodyPost_ret (v := .agg #[.int .u8 node, .int .u16 r.1, .int .u32 r.2.1]) (by simp [results, Tryd.results11, go_sem]) rfl ⟨rfl, Go.Joins.below_alloc2 w _ _⟩
theorem of_any (r : Row3) (i : Int) (w : World) : Calls Tryd.prog 23 #[(.agg #[.int .u16 r.1, .int .u32 r.2.1, .int .u64 r.2.2]), .int .u16 i] w fun e w' => e = .returned (.agg #[.int .u16 (ofI r i).1, .int .u32 (ofI r i).2.1, .int .u64 (ofI r i).2.2]) ∧ Below w.heap.size w w' := by
  by_cases h : r.1 = i
  · subst h
    rw [ofI_same rfl]
    go_enter Tryd.func23, Tryd.ntmps23
    go_wp2
    exact bodyPost_ret (v := (.agg #[.int .u16 r.1, .int .u32 r.2.1, .int .u64 r.2.2])) (by simp [results, Tryd.results23, go_sem]) rfl ⟨rfl, Go.Joins.below_alloc2 w _ _⟩
  · rw [ofI_other h]
    have h' : (r.1 == i) = false := by simpa using h
    clear h
    go_enter Tryd.func23, Tryd.ntmps23
    go_wp2
    exact bodyPost_ret (v := .agg #[.int .u16 i, .int .u32 0, .int .u64 0]) (by simp [results, Tryd.results23, go_sem]) rfl ⟨rfl, Go.Joins.below_alloc2 w _ _⟩
theorem rowseen_low (r : Row3) (win n : Int) (w : World) (h : n ≤ r.2.1) : Calls Tryd.prog 27 #[.agg #[.int .u16 r.1, .int .u32 r.2.1, .int .u64 r.2.2, .int .i64 win], .int .u32 n] w fun e w' => e = .returned (.bool true) ∧ Below w.heap.size w w' := by
  go_enter Tryd.func27, Tryd.ntmps27
  go_wp2
  go_ret
  exact ⟨rfl, below_lit w _⟩
theorem and_one (y : Nat) (h : y < 18446744073709551616) : bits .and .u64 (y : Int) 1 = ((y % 2 : Nat) : Int) := by
  have := bits_and_u64_nat y 1 h (by decide)
  rw [Nat.and_one_is_mod] at this
  exact this
theorem shr_min (b k : Nat) (h : b < 2 ^ 64) : b / 2 ^ min k 64 = b / 2 ^ k := by
  rcases Nat.lt_or_ge k 64 with h1 | h1
  · rw [Nat.min_eq_left (by omega)]
  · rw [Nat.min_eq_right h1, Nat.div_eq_of_lt h, Nat.div_eq_of_lt (Nat.lt_of_lt_of_le h (Nat.pow_le_pow_right (by decide) h1))]
/-- A bit of a number, as the program asks for it. -/
theorem bit_asked (b k : Int) (h0 : 0 ≤ b) (h1 : b ≤ 18446744073709551615) (hk : 0 ≤ k) : ∃ y z : Int, b / 2 ^ min k.toNat 64 = y ∧ bits .and .u64 y 1 = z ∧ (z == 1) = b.toNat.testBit k.toNat := by
  refine ⟨_, _, rfl, rfl, ?_⟩
  have e : b / 2 ^ min k.toNat 64 = ((b.toNat / 2 ^ k.toNat : Nat) : Int) := by
    rw [← shr_min _ _ (by omega : b.toNat < 2 ^ 64)]
    have : b = (b.toNat : Int) := by omega
    conv => lhs; rw [this]
    simp
  rw [e, and_one _ (Nat.lt_of_le_of_lt (Nat.div_le_self _ _) (by omega)), bit_one]
  cases b.toNat.testBit k.toNat <;> rfl
theorem rowseen_high (r : Row3) (win n : Int) (w : World) (hr : rowR r) (hn : n ≤ 4294967295) (h : r.2.1 < n) : Calls Tryd.prog 27 #[.agg #[.int .u16 r.1, .int .u32 r.2.1, .int .u64 r.2.2, .int .i64 win], .int .u32 n] w fun e w' => e = .returned (.bool (seenI r n)) ∧ Below w.heap.size w w' := by
  obtain ⟨_, ⟨p0, p1⟩, b0, b1⟩ := hr
  have h1 : 0 ≤ n - r.2.1 := by omega
  rw [seenI_high p0 h]
  obtain ⟨k, hk⟩ : ∃ k, n - r.2.1 - 1 = k := ⟨_, rfl⟩
  have hk0 : 0 ≤ k := by omega
  rw [hk]
  obtain ⟨y, z, hy, hz, ht⟩ := bit_asked r.2.2 k b0 b1 hk0
  rw [← ht]
  clear ht
  have hk1 : k ≤ 4294967295 := by omega
  go_enter Tryd.func27, Tryd.ntmps27
  go_wp2
  go_ret
  exact ⟨rfl, below_lit w _⟩
theorem rowseen_any (r : Row3) (win n : Int) (w : World) (hr : rowR r) (hn : 1 ≤ n ∧ n ≤ 4294967295) : Calls Tryd.prog 27 #[.agg #[.int .u16 r.1, .int .u32 r.2.1, .int .u64 r.2.2, .int .i64 win], .int .u32 n] w fun e w' => e = .returned (.bool (seenI r n)) ∧ Below w.heap.size w w' := by
  rcases Int.lt_or_le r.2.1 n with h | h
  · exact rowseen_high r win n w hr hn.2 h
  · rw [seenI_low hn.1 h]; exact rowseen_low r win n w h
theorem rowopen_any (r : Row3) (win n : Int) (w : World) (hr : rowR r) (hn : 1 ≤ n ∧ n ≤ 4294967295) (hw : 1 ≤ win ∧ win ≤ 64) : Calls Tryd.prog 29 #[.agg #[.int .u16 r.1, .int .u32 r.2.1, .int .u64 r.2.2, .int .i64 win], .int .u32 n] w fun e w' => e = .returned (.bool (decide (n ≤ r.2.1 + win) && !seenI r n)) ∧ Below w.heap.size w w' := by
  obtain ⟨q, hq⟩ : ∃ q, Hid (seenI r n = q) := ⟨_, rfl⟩
  obtain ⟨w0, w1⟩ := hw
  obtain ⟨p0, p1⟩ := hr.2.1
  obtain ⟨n0, n1⟩ := hn
  obtain ⟨W1, hW1⟩ : ∃ W1, W1 = w.alloc (.cells #[.int .u16 r.1, .int .u32 r.2.1, .int .u64 r.2.2, .int .i64 win] 59) := ⟨_, rfl⟩
  have hb : Below w.heap.size w W1 := by rw [hW1]; exact below_lit w _
  have hc := rowseen_any r win n W1 hr ⟨n0, n1⟩
  rw [hq.out] at hc ⊢
  rw [hW1] at hc
  have HR := Lib.hid hr
  clear hr
  go_enter Tryd.func29, Tryd.ntmps29
  go_wp2_with fail
  refine hc.mono ?_
  rintro e w1 ⟨rfl, b1⟩
  rw [← hW1] at b1
  have b2 := thn hb b1
  have hB := heap_alloc_new w (.cells #[.int .u16 r.1, .int .u32 r.2.1, .int .u64 r.2.2, .int .i64 win] 59)
  rw [← hW1] at hB
  have hB1 := (b1.block w.heap.size (Array.getElem?_eq_some_iff.1 hB).1).trans hB
  have c1 : w1.cell? ⟨w.heap.size, 1, none⟩ = some (.int .u32 r.2.1) := by simp [World.cell?, hB1]
  have c3 : w1.cell? ⟨w.heap.size, 3, none⟩ = some (.int .i64 win) := by simp [World.cell?, hB1]
  clear hB1 hB hc hb b1 hW1 HR
  clear W1
  obtain ⟨g, hg⟩ : ∃ g, w.heap.size = g := ⟨_, rfl⟩
  rw [hg] at c1 c3 b2 ⊢
  cases q
  · go_wp2
    go_ret
    exact ⟨ret_bool (by simp), by rw [hg]; exact b2⟩
  · go_wp2
    go_ret
    exact ⟨ret_bool (by simp), by rw [hg]; exact b2⟩
/-- told: of a bound method that says b of n. -/
theorem told_no (n : Int) (f : Value) (w : World) (h : n ≤ 0) : Calls Tryd.prog 26 #[.int .u32 n, f] w fun e w' => e = .returned (.bool false) ∧ Below w.heap.size w w' := by
  go_enter Tryd.func26, Tryd.ntmps26
  go_wp2
  go_ret
  exact ⟨rfl, Below.refl _ _⟩
theorem told_yes (n : Int) (g : Nat) (v : Value) (b : Bool) (w : World) (eg : ∀ args w, (callFunc g args).run Tryd.prog w = .ok (.enter g args) w) (hn : 1 ≤ n) (h : Calls Tryd.prog g #[v, .int .u32 n] w fun e w' => e = .returned (.bool b) ∧ Below w.heap.size w w') :
    Calls Tryd.prog 26 #[.int .u32 n, .func (.func g) #[v] #[]] w fun e w' => e = .returned (.bool b) ∧ Below w.heap.size w w' := by
  go_enter Tryd.func26, Tryd.ntmps26
  go_wp2_with fail
  refine h.mono ?_
  rintro e w1 ⟨rfl, b1⟩
  go_wp2
  go_ret
  exact ⟨rfl, b1⟩
end Go.Proofs.YtkdlgejkgcojkaaDoor
