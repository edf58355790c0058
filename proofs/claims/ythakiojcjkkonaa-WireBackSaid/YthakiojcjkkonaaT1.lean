import Derived.Test.YthakiojcjkkonaaRows
import Derived.Test.YthakiojcjkkonaaGv
namespace Go.Proofs.Ythakiojcjkkonaa
open Go.RowKit
theorem info5 : (Try.prog.info? 5).map (fun i => (i.zero, i.size, i.bytes)) = some (some (.int .u8 0), 1, 1) := by kernel_rfl

theorem within_any (a b : Int) (w : World) :
    Calls Try.prog 22 #[.int .i64 a, .int .i64 b] w fun e w' => e = .returned (.func (.func 26) #[] #[.pointer (some ⟨w.heap.size, 0, none⟩), .pointer (some ⟨w.heap.size + 1, 0, none⟩)]) ∧ (w.alloc (.cells #[.int .i64 a] 3)).alloc (.cells #[.int .i64 b] 3) = w' := by
  go_enter Try.func22, Try.ntmps22
  go_wp2
  go_ret
  exact ⟨rfl, rfl⟩

theorem within_abs (a b : Int) (w : World) :
    Calls Try.prog 22 #[.int .i64 a, .int .i64 b] w fun e w' => ∃ p q, e = .returned (.func (.func 26) #[] #[.pointer (some p), .pointer (some q)]) ∧ w'.cell? p = some (.int .i64 a) ∧ w'.cell? q = some (.int .i64 b) ∧ Below w.heap.size w w' :=
  (within_any a b w).mono fun e w' ⟨he, hw⟩ => by
    subst hw
    refine ⟨_, _, he, ?_, ?_, ((Below.refl _ _).alloc (Nat.le_refl _) _).alloc (by simp) _⟩
    · rw [World.cell?_alloc_old _ _ _ (by simp)]; simp
    · have := World.cell?_alloc_new (w.alloc (.cells #[.int .i64 a] 3)) #[.int .i64 b] 3 0
      simpa only [World.size_alloc, List.getElem?_toArray, List.getElem?_cons_zero] using this

theorem inside_any (n a b : Int) (p q : Addr) (w : World) (h1 : w.cell? p = some (.int .i64 a)) (h2 : w.cell? q = some (.int .i64 b)) :
    Calls Try.prog 26 #[.int .i64 n, .pointer (some p), .pointer (some q)] w fun e w' => e = .returned (.bool (decide (a ≤ n) && decide (n ≤ b))) ∧ w = w' := by
  go_enter Try.func26, Try.ntmps26
  by_cases h : a ≤ n
  · go_wp2
    go_ret
    exact ⟨by simp [h], rfl⟩
  · go_wp2
    go_ret
    exact ⟨by simp [Int.not_le.2 h], rfl⟩

theorem own_any (A : Option Addr) (n c k : Nat) (l : List UInt8) (more : Int) (w : World) (h : Sl w k A n c l) (hk : k ≤ w.heap.size) (h0 : 0 ≤ more) (h1 : n + more ≤ 140737488355328) :
    Calls Try.prog 24 #[.slice A n c, .int .i64 more] w fun e w' => ∃ A' c', e = .returned (.slice A' n c') ∧ Own w' w.heap.size 5 A' n c' (l.map Bv) ∧ Below w.heap.size w w' := by
  go_enter Try.func24, Try.ntmps24
  go_wp2_with (first
    | (at_make; go_must (refine wpList_mk rfl _ _ 22 rfl Try.underlying22 info5 rfl rfl (Nat.le_refl _) (by omega) (by omega) (by decide) ?_); intro A2 w1 hown hg; have hsl := (h.keep (w' := w1) fun p hp => World.cell?_of_block (hg.block p.block (by omega) (by simp))); have hb := (Below.refl w.heap.size w).grown hg (Nat.le_refl _) (by simp); have hz := hg.size; clear hg h)
    | (at_builtin; go_must (refine wpList_app rfl _ _ 22 rfl Try.underlying22 info5 rfl rfl hown rfl hsl (Bv_one _) (by omega) (by decide) hz ?_); intro A3 c3 w2 hown3 hg3))
  go_ret
  exact ⟨A3, c3, rfl, by simpa using hown3, hb.grown hg3 hz hown.lt⟩

end Go.Proofs.Ythakiojcjkkonaa
