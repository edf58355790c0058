/- Layer 5: contracts of filter.Right, Match, Covers, Normal, Same, Copy. -/
import Derived.Test.YtdgobdfggdmnpaaDoorMt
import Derived.Test.YtdgobdfggdmnpaaDoorSch6
namespace Go.Proofs.YtdgobdfggdmnpaaDoor
open Go.RowKit
set_option linter.unusedVariables false
theorem matchF_any (A : Option Addr) (n c : Nat) (es : List (Int × Int)) (A' : Option Addr) (n' c' : Nat) (bs : List Int) (w : World) (hr : ∀ p ∈ es, inR p) (h : Sp w w.heap.size A n c es) (h' : Si w w.heap.size A' n' c' bs) :
    Calls Tryd.prog 14 #[.slice A n c, .slice A' n' c'] w fun e w' => e = .returned (.bool (matchF es bs)) ∧ Below w.heap.size w w' := by
  have HL := Lib.hid (sp_len h)
  have HL' := Lib.hid (si_len h')
  by_cases h0 : n = 0
  · have HF : Hid (matchF es bs = false) := by unfold Hid matchF; rw [← HL.out, h0]; simp
    subst h0
    clear h h'
    go_enter Tryd.func14, Tryd.ntmps14
    go_wp2
    go_ret
    exact ⟨by rw [HF.out]; rfl, Below.refl _ _⟩
  · have h1 : 0 < n := by omega
    have h2 : (0 : Int) < (n : Int) := by omega
    obtain ⟨z, HZ⟩ : ∃ z, Hid ((decide (es.length = bs.length) && (es.zip bs).all fun x => hasB x.1 x.2) = z) := ⟨_, rfl⟩
    have HF : Hid (matchF es bs = z) := by unfold Hid matchF; rw [← HZ.out, ← HL.out, decide_eq_true h1, Bool.and_true]
    have hc := everyHas_any A n c es A' n' c' bs w hr h h'
    rw [HZ.out] at hc
    have HC := Lib.hid hc
    clear h h' hc
    go_enter Tryd.func14, Tryd.ntmps14
    go_wp2_with fail
    refine HC.out.mono ?_
    rintro e w5 ⟨rfl, b5⟩
    go_wp2
    go_ret
    exact ⟨by rw [HF.out]; rfl, b5⟩
theorem coversF_any (A : Option Addr) (n c : Nat) (es : List (Int × Int)) (A' : Option Addr) (n' c' : Nat) (bs : List (Int × Int)) (w : World) (hT : Tab w) (hr : ∀ p ∈ es, inR p) (hs : ∀ p ∈ bs, inR p) (h : Sp w w.heap.size A n c es) (h' : Sp w w.heap.size A' n' c' bs) :
    Calls Tryd.prog 16 #[.slice A n c, .slice A' n' c'] w fun e w' => e = .returned (.bool (coversF es bs)) ∧ Below w.heap.size w w' := by
  have HL' := Lib.hid (sp_len h')
  by_cases h0 : n' = 0
  · have HF : Hid (coversF es bs = true) := by unfold Hid coversF; rw [← HL'.out, h0]; simp
    subst h0
    clear h h'
    go_enter Tryd.func16, Tryd.ntmps16
    go_wp2
    go_ret
    exact ⟨by rw [HF.out]; rfl, Below.refl _ _⟩
  · have hq : ((n' : Int) == 0) = false := by simpa using h0
    obtain ⟨z, HZ⟩ : ∃ z, Hid ((decide (es.length = bs.length) && (es.zip bs).all fun x => covB x.1 x.2) = z) := ⟨_, rfl⟩
    have HF : Hid (coversF es bs = z) := by unfold Hid coversF; rw [← HZ.out, ← HL'.out, decide_eq_false h0, Bool.false_or]
    have hc := everyCov_any A n c es A' n' c' bs w hT hr hs h h'
    rw [HZ.out] at hc
    have HC := Lib.hid hc
    clear h h' hc
    go_enter Tryd.func16, Tryd.ntmps16
    go_wp2_with fail
    refine HC.out.mono ?_
    rintro e w5 ⟨rfl, b5⟩
    go_wp2
    go_ret
    exact ⟨by rw [HF.out]; rfl, b5⟩
theorem zip_swap_all (es bs : List (Int × Int)) (t u : Int × Int → Int × Int → Bool) (h : ∀ x y, t x y = u y x) : ((es.zip bs).all fun x => t x.1 x.2) = (bs.zip es).all fun x => u x.1 x.2 := by
  induction es generalizing bs with
  | nil => cases bs <;> rfl
  | cons e es ih => cases bs with
    | nil => rfl
    | cons b bs => rw [List.zip_cons_cons, List.zip_cons_cons, List.all_cons, List.all_cons, ih bs, h]
theorem zip_swap_map (es bs : List (Int × Int)) (t u : Int × Int → Int × Int → Int × Int) (h : ∀ x y, t x y = u y x) : ((es.zip bs).map fun x => t x.1 x.2) = (bs.zip es).map fun x => u x.1 x.2 := by
  induction es generalizing bs with
  | nil => cases bs <;> rfl
  | cons e es ih => cases bs with
    | nil => rfl
    | cons b bs => rw [List.zip_cons_cons, List.zip_cons_cons, List.map_cons, List.map_cons, ih bs, h]
theorem rightF_any (A : Option Addr) (n c : Nat) (es : List (Int × Int)) (A' : Option Addr) (n' c' : Nat) (bs : List (Int × Int)) (w : World) (hT : Tab w) (hr : ∀ p ∈ es, inR p) (hs : ∀ p ∈ bs, inR p) (h : Sp w w.heap.size A n c es) (h' : Sp w w.heap.size A' n' c' bs) :
    Calls Tryd.prog 23 #[.slice A n c, .slice A' n' c'] w fun e w' => e = .returned (.bool (rightF es bs)) ∧ Below w.heap.size w w' := by
  have HL' := Lib.hid (sp_len h')
  by_cases h0 : n' = 0
  · have HF : Hid (rightF es bs = true) := by unfold Hid rightF; rw [← HL'.out, h0]; simp
    subst h0
    clear h h'
    go_enter Tryd.func23, Tryd.ntmps23
    go_wp2
    go_ret
    exact ⟨by rw [HF.out]; rfl, Below.refl _ _⟩
  · have hq : ((n' : Int) == 0) = false := by simpa using h0
    obtain ⟨z, HZ⟩ : ∃ z, Hid ((decide (es.length = bs.length) && (es.zip bs).all fun x => withinB x.1 x.2) = z) := ⟨_, rfl⟩
    have HF : Hid (rightF es bs = z) := by
      unfold Hid rightF
      rw [← HZ.out, ← HL'.out, decide_eq_false h0, Bool.false_or, HL'.out, zip_swap_all es bs withinB okF within_ok, show decide (bs.length = es.length) = decide (es.length = bs.length) from decide_eq_decide.2 eq_comm]
    have hc := everyWit_any A n c es A' n' c' bs w hT hr hs h h'
    rw [HZ.out] at hc
    have HC := Lib.hid hc
    clear h h' hc
    go_enter Tryd.func23, Tryd.ntmps23
    go_wp2_with fail
    refine HC.out.mono ?_
    rintro e w5 ⟨rfl, b5⟩
    go_wp2
    go_ret
    exact ⟨by rw [HF.out]; rfl, b5⟩
theorem meetB_comm (p q : Int × Int) : meetB p q = meetB q p := by unfold meetB; rw [Int.max_comm, Int.min_comm]
theorem meetP_comm (p q : Int × Int) : meetP p q = meetP q p := by unfold meetP; rw [Int.max_comm, Int.min_comm]
theorem meetF_comm (es bs : List (Int × Int)) : meetF es bs = meetF bs es := by
  unfold meetF
  rw [zip_swap_all es bs meetB meetB meetB_comm, zip_swap_map es bs meetP meetP meetP_comm]
  simp only [show (bs.length = es.length) = (es.length = bs.length) from propext eq_comm]
theorem normalF_any (A : Option Addr) (n c : Nat) (es : List (Int × Int)) (A' : Option Addr) (n' c' : Nat) (bs : List (Int × Int)) (w : World) (hT : Tab w) (hr : ∀ p ∈ es, inR p) (hs : ∀ p ∈ bs, inR p) (h : Sp w w.heap.size A n c es) (h' : Sp w w.heap.size A' n' c' bs) (hn8 : n ≤ 1000000) :
    Calls Tryd.prog 21 #[.slice A n c, .slice A' n' c'] w (GaveN (normF es bs) (normE es bs) w) := by
  have HL := Lib.hid (sp_len h)
  have HL' := Lib.hid (sp_len h')
  have hcall := meetF_any A n c es A' n' c' bs w hT hr hs h h' hn8
  by_cases h0 : n' = 0
  · have HE : Hid (normF es bs = [] ∧ normE es bs = 0) := ⟨if_pos (HL'.out.symm.trans h0), if_pos (HL'.out.symm.trans h0)⟩
    have hm : meetF es bs = [] := by
      have : bs = [] := List.eq_nil_of_length_eq_zero (by rw [← HL'.out]; exact h0)
      subst this
      unfold meetF
      simp
    rw [hm] at hcall
    have HC := Lib.hid hcall
    subst h0
    clear h h' hcall hT hr hs
    go_enter Tryd.func21, Tryd.ntmps21
    go_wp2_with fail
    refine HC.out.mono ?_
    rintro e w5 ⟨A5, c5, rfl, s5, b5⟩
    have S5 := Lib.hid s5
    clear s5
    go_wp2
    go_ret2
    exact ⟨A5, c5, by rw [HE.out.1, HE.out.2]; rfl, by rw [HE.out.1]; exact S5.out, b5⟩
  by_cases hn : n' = n
  · have HE : Hid (normF es bs = meetF es bs ∧ normE es bs = 0) := by
      unfold Hid normF normE
      rw [← HL.out, ← HL'.out, if_neg h0, if_neg h0, if_pos hn, if_pos hn, meetF_comm]; exact ⟨rfl, rfl⟩
    subst hn
    have HC := Lib.hid hcall
    clear h h' hcall hT hr hs
    have h2 : (0 : Int) < (n' : Int) := by omega
    go_enter Tryd.func21, Tryd.ntmps21
    go_wp2_with fail
    refine HC.out.mono ?_
    rintro e w5 ⟨A5, c5, rfl, s5, b5⟩
    have S5 := Lib.hid s5
    clear s5
    go_wp2
    go_ret2
    exact ⟨A5, c5, by rw [HE.out.1, HE.out.2]; rfl, by rw [HE.out.1]; exact S5.out, b5⟩
  · have HE : Hid (normF es bs = [] ∧ normE es bs = 50) := by
      unfold Hid normF normE
      rw [← HL.out, ← HL'.out, if_neg h0, if_neg h0, if_neg hn, if_neg hn]; exact ⟨rfl, rfl⟩
    clear h h' hcall hT hr hs
    have h2 : (0 : Int) < (n' : Int) := by omega
    have h3 : ¬ ((n' : Int) = (n : Int)) := by omega
    go_enter Tryd.func21, Tryd.ntmps21
    go_wp2
    go_ret2
    exact ⟨none, 0, by rw [HE.out.1, HE.out.2]; rfl, by rw [HE.out.1]; exact sp_zero _ _ _, Below.refl _ _⟩
theorem spanEqual_any (A : Option Addr) (n c : Nat) (es : List (Int × Int)) (A' : Option Addr) (n' c' : Nat) (bs : List (Int × Int)) (w : World) (h : Sp w w.heap.size A n c es) (h' : Sp w w.heap.size A' n' c' bs) :
    Calls Tryd.prog 38 #[.slice A n c, .slice A' n' c'] w fun e w' => e = .returned (.bool (sameF es bs)) ∧ Below w.heap.size w w' := by
  have HL : Hid (n = es.length) := sp_len h
  have HL' : Hid (n' = bs.length) := sp_len h'
  have hm := h.max
  have hc := h.cap
  have hm' := h'.max
  have hc' := h'.cap
  unfold maxLen at hm hm'
  have HS := Lib.hid h
  have HS' := Lib.hid h'
  clear h h'
  by_cases hn : n = n'
  · subst hn
    go_enter Tryd.func38, Tryd.ntmps38
    go_wp2
    go_loopw [13] (fun i wr => ∃ j : Nat, j ≤ n ∧ i = .int .i64 j ∧ Hid (es.take j = bs.take j) ∧ Below w.heap.size w wr) (fun i _ => n - (intOf i).toNat)
    case atStart => exact ⟨0, Nat.zero_le _, rfl, rfl, Below.refl _ _⟩
    case round =>
      obtain ⟨j, hj, rfl, HT, b1⟩ := hrel
      by_cases hlt : j < n
      · obtain ⟨b, off, p, rfl, hp, HC⟩ := sp_cells (HS.out.next b1) hlt
        obtain ⟨b', off', q, rfl, hq, HC'⟩ := sp_cells (HS'.out.next b1) hlt
        have HP := Lib.hid hp
        have HQ := Lib.hid hq
        have i0 : (0 : Int) ≤ (j : Int) := by omega
        have i1 : (j : Int) < (n : Int) := by omega
        obtain ⟨c1, c2⟩ := HC.out wr (Below.refl _ _)
        obtain ⟨c3, c4⟩ := HC'.out wr (Below.refl _ _)
        clear hp hq
        obtain ⟨z, HZ⟩ : ∃ z, Hid (decide (p.1 = q.1 ∧ p.2 = q.2) = z) := ⟨_, rfl⟩
        have heq : ∀ w' : World, (binOp .neq 42 (.agg #[.int .i32 p.1, .int .i32 p.2]) (.agg #[.int .i32 q.1, .int .i32 q.2])).run Tryd.prog w' = .ok (.bool (!z)) w' := fun w' => (neq_run p q w').trans (congrArg (fun b => Result.ok (Value.bool (!b)) w') HZ.out)
        cases z
        · go_wp2
          go_quiet (fail)
          go_wp2
          go_ret
          refine ⟨congrArg (fun b => Ending.returned (.bool b)) (Eq.symm (decide_eq_false fun e => ?_)), dN b1 nq⟩
          have h1 := of_decide_eq_false HZ.out
          rw [e] at HP
          have : p = q := Option.some.inj (HP.out.symm.trans HQ.out)
          exact h1 (by rw [this]; exact ⟨rfl, rfl⟩)
        · go_wp2
          go_quiet (fail)
          have b2 := dN b1 nq
          generalize wr.drewN nq = w2 at *
          go_wp2
          go_roundw
          case rel =>
            refine ⟨j + 1, by omega, by go_num, ?_, b2⟩
            have h1 := of_decide_eq_true HZ.out
            unfold Hid
            rw [List.take_add_one, List.take_add_one, HP.out, HQ.out, HT.out, show p = q from Prod.ext h1.1 h1.2]
          case measure => simp [intOf]; omega
      · obtain rfl : j = n := by omega
        go_wp2
        go_ret
        refine ⟨congrArg (fun b => Ending.returned (.bool b)) (Eq.symm (decide_eq_true ?_)), b1⟩
        have := HT.out
        rwa [HL.out, List.take_length, ← HL.out, HL'.out, List.take_length] at this
  · go_enter Tryd.func38, Tryd.ntmps38
    go_wp2
    go_ret
    refine ⟨congrArg (fun b => Ending.returned (.bool b)) (Eq.symm (decide_eq_false fun e => hn ?_)), Below.refl _ _⟩
    rw [HL.out, HL'.out, e]
theorem sameF_any (A : Option Addr) (n c : Nat) (es : List (Int × Int)) (A' : Option Addr) (n' c' : Nat) (bs : List (Int × Int)) (w : World) (h : Sp w w.heap.size A n c es) (h' : Sp w w.heap.size A' n' c' bs) :
    Calls Tryd.prog 18 #[.slice A n c, .slice A' n' c'] w fun e w' => e = .returned (.bool (sameF es bs)) ∧ Below w.heap.size w w' := by
  have HC := Lib.hid (spanEqual_any A n c es A' n' c' bs w h h')
  clear h h'
  generalize sameF es bs = z at *
  go_enter Tryd.func18, Tryd.ntmps18
  go_wp2_with fail
  refine HC.out.mono ?_
  rintro e w5 ⟨rfl, b5⟩
  go_wp2
  go_ret
  exact ⟨rfl, b5⟩
end Go.Proofs.YtdgobdfggdmnpaaDoor
