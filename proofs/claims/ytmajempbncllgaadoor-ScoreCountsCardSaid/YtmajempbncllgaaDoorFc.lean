/- Layer 5: contracts of filter.Right, Match, Covers, Normal, Same, Copy. -/
import Derived.Test.YtmajempbncllgaaDoorMt
import Derived.Test.YtmajempbncllgaaDoorSch6
namespace Go.Proofs.YtmajempbncllgaaDoor
open Go.RowKit
set_option linter.unusedVariables false
theorem matchF_any (A : Option Addr) (n c : Nat) (es : List (Int × Int)) (A' : Option Addr) (n' c' : Nat) (bs : List Int) (w : World) (hr : ∀ p ∈ es, inR p) (h : Sp w w.heap.size A n c es) (h' : Si w w.heap.size A' n' c' bs) :
    Calls Tryd.prog 19 #[.slice A n c, .slice A' n' c'] w fun e w' => e = .returned (.bool (matchF es bs)) ∧ Below w.heap.size w w' := by
  have HL := Lib.hid (sp_len h)
  have HL' := Lib.hid (si_len h')
  by_cases h0 : n = 0
  · have HF : Hid (matchF es bs = false) := by unfold Hid matchF; rw [← HL.out, h0]; simp
    subst h0
    clear h h'
    go_enter Tryd.func19, Tryd.ntmps19
    go_wp2
    go_ret
    exact ⟨by rw [HF.out]; rfl, Below.refl _ _⟩
  · have h1 : 0 < n := by omega
    have h2 : (0 : Int) < (n : Int) := by omega
    obtain ⟨z, HZ⟩ : ∃ z, Hid ((decide (es.length = bs.length) && (es.zip bs).all fun x => hasB x.1 x.2) = z) := ⟨_, rfl⟩
    have HF : Hid (matchF es bs = z) := by unfold Hid matchF; rw [← HZ.out, ← HL.out, decide_eq_true h1, Bool.and_true]
    have hc := everyHas_any A n c es A' n' c' bs w hr h h'
    rw [HZ.out] at hc
    have HC := Lib.hid hc
    clear h h' hc
    go_enter Tryd.func19, Tryd.ntmps19
    go_wp2_with fail
    refine HC.out.mono ?_
    rintro e w5 ⟨rfl, b5⟩
    go_wp2
    go_ret
    exact ⟨by rw [HF.out]; rfl, b5⟩
theorem coversF_any (A : Option Addr) (n c : Nat) (es : List (Int × Int)) (A' : Option Addr) (n' c' : Nat) (bs : List (Int × Int)) (w : World) (hT : Tab w) (hr : ∀ p ∈ es, inR p) (hs : ∀ p ∈ bs, inR p) (h : Sp w w.heap.size A n c es) (h' : Sp w w.heap.size A' n' c' bs) :
    Calls Tryd.prog 17 #[.slice A n c, .slice A' n' c'] w fun e w' => e = .returned (.bool (coversF es bs)) ∧ Below w.heap.size w w' := by
  have HL' := Lib.hid (sp_len h')
  by_cases h0 : n' = 0
  · have HF : Hid (coversF es bs = true) := by unfold Hid coversF; rw [← HL'.out, h0]; simp
    subst h0
    clear h h'
    go_enter Tryd.func17, Tryd.ntmps17
    go_wp2
    go_ret
    exact ⟨by rw [HF.out]; rfl, Below.refl _ _⟩
  · have hq : ((n' : Int) == 0) = false := by simpa using h0
    obtain ⟨z, HZ⟩ : ∃ z, Hid ((decide (es.length = bs.length) && (es.zip bs).all fun x => covB x.1 x.2) = z) := ⟨_, rfl⟩
    have HF : Hid (coversF es bs = z) := by unfold Hid coversF; rw [← HZ.out, ← HL'.out, decide_eq_false h0, Bool.false_or]
    have hc := everyCov_any A n c es A' n' c' bs w hT hr hs h h'
    rw [HZ.out] at hc
    have HC := Lib.hid hc
    clear h h' hc
    go_enter Tryd.func17, Tryd.ntmps17
    go_wp2_with fail
    refine HC.out.mono ?_
    rintro e w5 ⟨rfl, b5⟩
    go_wp2
    go_ret
    exact ⟨by rw [HF.out]; rfl, b5⟩
theorem zip_swap_all (es bs : List (Int × Int)) (t u : Int × Int → Int × Int → Bool) (h : ∀ x y, t x y = u y x) : ((es.zip bs).all fun x => t x.1 x.2) = (bs.zip es).all fun x => u x.1 x.2 := by
  induction es generalizing bs with
  | nil => cases bs <;> rfl
  | cons e es ih => cases bs with
    | nil => rfl
    | cons b bs => rw [List.zip_cons_cons, List.zip_cons_cons, List.all_cons, List.all_cons, ih bs, h]
theorem zip_swap_map (es bs : List (Int × Int)) (t u : Int × Int → Int × Int → Int × Int) (h : ∀ x y, t x y = u y x) : ((es.zip bs).map fun x => t x.1 x.2) = (bs.zip es).map fun x => u x.1 x.2 := by
  induction es generalizing bs with
  | nil => cases bs <;> rfl
  | cons e es ih => cases bs with
    | nil => rfl
    | cons b bs => rw [List.zip_cons_cons, List.zip_cons_cons, List.map_cons, List.map_cons, ih bs, h]
theorem rightF_any (A : Option Addr) (n c : Nat) (es : List (Int × Int)) (A' : Option Addr) (n' c' : Nat) (bs : List (Int × Int)) (w : World) (hT : Tab w) (hr : ∀ p ∈ es, inR p) (hs : ∀ p ∈ bs, inR p) (h : Sp w w.heap.size A n c es) (h' : Sp w w.heap.size A' n' c' bs) :
    Calls Tryd.prog 29 #[.slice A n c, .slice A' n' c'] w fun e w' => e = .returned (.bool (rightF es bs)) ∧ Below w.heap.size w w' := by
  have HL' := Lib.hid (sp_len h')
  by_cases h0 : n' = 0
  · have HF : Hid (rightF es bs = true) := by unfold Hid rightF; rw [← HL'.out, h0]; simp
    subst h0
    clear h h'
    go_enter Tryd.func29, Tryd.ntmps29
    go_wp2
    go_ret
    exact ⟨by rw [HF.out]; rfl, Below.refl _ _⟩
  · have hq : ((n' : Int) == 0) = false := by simpa using h0
    obtain ⟨z, HZ⟩ : ∃ z, Hid ((decide (es.length = bs.length) && (es.zip bs).all fun x => withinB x.1 x.2) = z) := ⟨_, rfl⟩
    have HF : Hid (rightF es bs = z) := by
      unfold Hid rightF
      rw [← HZ.out, ← HL'.out, decide_eq_false h0, Bool.false_or, HL'.out, zip_swap_all es bs withinB okF within_ok, show decide (bs.length = es.length) = decide (es.length = bs.length) from decide_eq_decide.2 eq_comm]
    have hc := everyWit_any A n c es A' n' c' bs w hT hr hs h h'
    rw [HZ.out] at hc
    have HC := Lib.hid hc
    clear h h' hc
    go_enter Tryd.func29, Tryd.ntmps29
    go_wp2_with fail
    refine HC.out.mono ?_
    rintro e w5 ⟨rfl, b5⟩
    go_wp2
    go_ret
    exact ⟨by rw [HF.out]; rfl, b5⟩
theorem meetB_comm (p q : Int × Int) : meetB p q = meetB q p := by unfold meetB; rw [Int.max_comm, Int.min_comm]
theorem meetP_comm (p q : Int × Int) : meetP p q = meetP q p := by unfold meetP; rw [Int.max_comm, Int.min_comm]
theorem meetF_comm (es bs : List (Int × Int)) : meetF es bs = meetF bs es := by
  unfold meetF
  rw [zip_swap_all es bs meetB meetB meetB_comm, zip_swap_map es bs meetP meetP meetP_comm]
  simp only [show (bs.length = es.length) = (es.length = bs.length) from propext eq_comm]
end Go.Proofs.YtmajempbncllgaaDoor
