/- Layer 4: spans: plain facts for the laws. -/
import Derived.Test.YtofphdodihbijaaDoorSp5
import Derived.Test.YtofphdodihbijaaDoorReg6
namespace Go.Proofs.YtofphdodihbijaaDoor
open Go.RowKit
set_option linter.unusedVariables false
theorem meetB_iff (p q : Int × Int) : meetB p q = true ↔ p.1 ≤ p.2 ∧ p.1 ≤ q.2 ∧ q.1 ≤ p.2 ∧ q.1 ≤ q.2 := by
  unfold meetB
  rw [decide_eq_true_eq]
  omega
theorem meetP_yes {p q : Int × Int} (h : meetB p q = true) : meetP p q = (max p.1 q.1, min p.2 q.2) := if_pos (of_decide_eq_true h)
theorem meetP_no {p q : Int × Int} (h : meetB p q = false) : meetP p q = (0, 0) := if_neg (of_decide_eq_false h)
theorem meetB_comm (p q : Int × Int) : meetB q p = meetB p q := by
  rw [Bool.eq_iff_iff, meetB_iff, meetB_iff]; omega
theorem meetP_comm (p q : Int × Int) : meetP q p = meetP p q := by
  unfold meetP
  rw [Int.max_comm, Int.min_comm]
theorem meet_has (p q : Int × Int) (v : Int) : (meetB p q && hasB (meetP p q) v) = (hasB p v && hasB q v) := by
  cases h : meetB p q with
  | true =>
    rw [meetP_yes h, Bool.eq_iff_iff]
    unfold hasB
    simp only [Bool.and_eq_true, decide_eq_true_eq, true_and]
    omega
  | false =>
    have h' : ¬ (meetB p q = true) := by rw [h]; decide
    rw [meetB_iff] at h'
    rw [Bool.false_and, eq_comm, ← Bool.not_eq_true]
    unfold hasB
    simp only [Bool.and_eq_true, decide_eq_true_eq]
    omega
theorem meet_ends (p q : Int × Int) : ((((hasB p p.1 && hasB q p.1) || (hasB p p.2 && hasB q p.2)) || (hasB p q.1 && hasB q q.1)) || (hasB p q.2 && hasB q q.2)) = meetB p q := by
  rw [Bool.eq_iff_iff, meetB_iff]
  unfold hasB
  simp only [Bool.or_eq_true, Bool.and_eq_true, decide_eq_true_eq]
  omega
theorem meet_assocB (a b c : Int × Int) : (meetB a b && meetB (meetP a b) c) = (meetB b c && meetB a (meetP b c)) := by
  rw [Bool.eq_iff_iff, Bool.and_eq_true, Bool.and_eq_true]
  constructor
  · rintro ⟨h1, h2⟩
    rw [meetP_yes h1] at h2
    rw [meetB_iff] at h1 h2
    have h3 : meetB b c = true := by rw [meetB_iff]; simp only at h2; omega
    refine ⟨h3, ?_⟩
    rw [meetP_yes h3, meetB_iff]
    simp only at h2 ⊢
    omega
  · rintro ⟨h1, h2⟩
    rw [meetP_yes h1] at h2
    rw [meetB_iff] at h1 h2
    have h3 : meetB a b = true := by rw [meetB_iff]; simp only at h2; omega
    refine ⟨h3, ?_⟩
    rw [meetP_yes h3, meetB_iff]
    simp only at h2 ⊢
    omega
theorem meet_assocP {a b c : Int × Int} (h : (meetB a b && meetB (meetP a b) c) = true) : meetP (meetP a b) c = meetP a (meetP b c) := by
  have h' := h
  rw [meet_assocB] at h'
  rw [Bool.and_eq_true] at h h'
  rw [meetP_yes h.2, meetP_yes h'.2, meetP_yes h.1, meetP_yes h'.1]
  simp only [Int.max_assoc, Int.min_assoc]
theorem shared_of {a b : Int × Int} {x : Int} {ga gb : Nat} {s : Bool} {w : World} (Ka : Blk w ga a) (Kb : Blk w gb b) (hs : (hasB a x && hasB b x) = s) :
    Calls Tryd.prog 19 #[.int .i32 x, .pointer (some ⟨ga, 0, none⟩), .pointer (some ⟨gb, 0, none⟩)] w fun e w' => e = .returned (.bool s) ∧ Below w.heap.size w w' := by
  subst hs
  obtain ⟨s1, H1⟩ : ∃ s, Hid (hasB a x = s) := ⟨_, rfl⟩
  obtain ⟨s2, H2⟩ : ∃ s, Hid (hasB b x = s) := ⟨_, rfl⟩
  rw [H1.out, H2.out]
  have Kb := Lib.hid Kb
  obtain ⟨c0, c1⟩ := Ka.cells
  go_enter Tryd.func19, Tryd.ntmps19
  cases s1
  · go_wp2_with fail
    refine (has_of H1.out).mono ?_
    rintro e w1 ⟨rfl, b1⟩
    go_wp2
    go_ret
    exact ⟨rfl, b1⟩
  · go_wp2_with fail
    refine (has_of H1.out).mono ?_
    rintro e w1 ⟨rfl, b1⟩
    obtain ⟨c2, c3⟩ := (Kb.out.next b1).cells
    go_wp2_with fail
    refine (has_of H2.out).mono ?_
    rintro e w2 ⟨rfl, b2⟩
    go_wp2
    go_ret
    exact ⟨rfl, thn b1 b2⟩
theorem inR_meet {p q : Int × Int} (hp : inR p) (hq : inR q) : inR (meetP p q) := by
  obtain ⟨⟨_, _⟩, _, _⟩ := hp
  obtain ⟨⟨_, _⟩, _, _⟩ := hq
  unfold meetP
  split
  · exact ⟨⟨by simp only; omega, by simp only; omega⟩, by simp only; omega, by simp only; omega⟩
  · exact ⟨by decide, by decide⟩
theorem cov_self (p : Int × Int) : covB p p = true := by
  unfold covB
  simp only [Bool.or_eq_true, Bool.and_eq_true, decide_eq_true_eq]
  omega
theorem cov_iff (p q : Int × Int) : covB p q = true ↔ (q.1 ≤ q.2 → p.1 ≤ q.1 ∧ q.2 ≤ p.2) := by
  unfold covB
  simp only [Bool.or_eq_true, Bool.and_eq_true, decide_eq_true_eq]
  omega
theorem has_iff (p : Int × Int) (v : Int) : hasB p v = true ↔ (p.1 ≤ v ∧ v ≤ p.2) := by
  unfold hasB
  simp only [Bool.and_eq_true, decide_eq_true_eq]
theorem len_pos (p : Int × Int) : 0 < lenP p ↔ p.1 ≤ p.2 := by
  unfold lenP
  split
  · omega
  · rw [Int.min_def]; split <;> omega
end Go.Proofs.YtofphdodihbijaaDoor
