import Derived.Test.YtdgobdfggdmnpaaDoorSch2
namespace Go.Proofs.YtdgobdfggdmnpaaDoor
open Go.RowKit
theorem brought_of (x a b y : Int) (hy : min (max x a) b = y) (w : World) : Calls Tryd.prog 41 #[.int .i32 x, .int .i32 a, .int .i32 b] w fun e w' => e = .returned (.int .i32 y) ∧ w = w' := by
  subst hy; exact brought_any x a b w
theorem bro_q {x a b y : Int} (hy : min (max x a) b = y) (w : World) : Calls Tryd.prog 41 #[.int .i32 x, .int .i32 a, .int .i32 b] w fun e w' => e = .returned (.int .i32 y) ∧ w' = w :=
  (brought_of x a b y hy w).mono fun _ _ ⟨he, hw⟩ => ⟨he, hw.symm⟩
def inB (q : (Int × Int) × Int) : Bool := decide (q.1.1 ≤ q.2) && decide (q.2 ≤ q.1.2)
def fitsB (ps : List (Int × Int)) (xs : List Int) : Bool := decide (xs.length = ps.length) && (ps.zip xs).all inB
def Fit (ps : List (Int × Int)) (xs : List Int) (j : Nat) : Prop := ∀ i, i < j → ∀ p x, ps[i]? = some p → xs[i]? = some x → p.1 ≤ x ∧ x ≤ p.2
theorem Fit.succ {ps : List (Int × Int)} {xs : List Int} {j : Nat} {p : Int × Int} {x : Int} (h : Fit ps xs j) (hp : ps[j]? = some p) (hx : xs[j]? = some x) (h1 : p.1 ≤ x) (h2 : x ≤ p.2) : Fit ps xs (j + 1) := fun i hi q y hq hy => by
  rcases Nat.lt_or_ge i j with h3 | h3
  · exact h i h3 q y hq hy
  · obtain rfl : i = j := by omega
    rw [hp] at hq; rw [hx] at hy
    injection hq with hq; injection hy with hy
    subst hq hy
    exact ⟨h1, h2⟩
theorem fitsB_len {ps : List (Int × Int)} {xs : List Int} (h : ¬ xs.length = ps.length) : fitsB ps xs = false := by simp [fitsB, h]
theorem fitsB_all {ps : List (Int × Int)} {xs : List Int} (hl : xs.length = ps.length) (h : Fit ps xs ps.length) : fitsB ps xs = true := by
  have : (ps.zip xs).all inB = true := List.all_eq_true.2 fun q hq => by
    obtain ⟨i, hi⟩ := List.mem_iff_getElem?.1 hq
    rw [List.getElem?_zip_eq_some] at hi
    have := h i (List.getElem?_eq_some_iff.1 hi.1).1 _ _ hi.1 hi.2
    simp [inB, this]
  simp [fitsB, this, hl]
theorem fitsB_get {ps : List (Int × Int)} {xs : List Int} (h : fitsB ps xs = true) : xs.length = ps.length ∧ Fit ps xs ps.length := by
  simp only [fitsB, Bool.and_eq_true, decide_eq_true_eq] at h
  refine ⟨h.1, fun i hi p x hp hx => ?_⟩
  have := List.all_eq_true.1 h.2 (p, x) (List.mem_of_getElem? (List.getElem?_zip_eq_some.2 ⟨hp, hx⟩))
  simpa [inB] using this
theorem fitsB_bad {ps : List (Int × Int)} {xs : List Int} {j : Nat} {p : Int × Int} {x : Int} (hp : ps[j]? = some p) (hx : xs[j]? = some x) (h : ¬ (p.1 ≤ x ∧ x ≤ p.2)) : fitsB ps xs = false := by
  cases hb : fitsB ps xs with
  | false => rfl
  | true => exact absurd ((fitsB_get hb).2 j (List.getElem?_eq_some_iff.1 hp).1 p x hp hx) h

theorem fits_any (A : Option Addr) (n c k : Nat) (ps : List (Int × Int)) (A' : Option Addr) (n' c' k' : Nat) (xs : List Int) (w : World) (h : Sp w k A n c ps) (hk : k ≤ w.heap.size) (h' : Si w k' A' n' c' xs) (hk' : k' ≤ w.heap.size) (hr : ∀ p ∈ ps, p.1 ≤ p.2) :
    Calls Tryd.prog 27 #[.slice A n c, .slice A' n' c'] w fun e w' => e = .returned (.bool (fitsB ps xs)) ∧ Below w.heap.size w w' := by
  have HL : Hid (n = ps.length) := sp_len h
  have HL' : Hid (n' = xs.length) := si_len h'
  have hm := h.max
  have hc := h.cap
  have hm' := h'.max
  have hc' := h'.cap
  unfold maxLen at hm hm'
  have HS : Hid (Sp w w.heap.size A n c ps) := h.more hk
  have HS' : Hid (Si w w.heap.size A' n' c' xs) := h'.more hk'
  have HR : Hid (∀ p ∈ ps, p.1 ≤ p.2) := hr
  clear h h' hr
  by_cases hn : n' = n
  · subst hn
    go_enter Tryd.func27, Tryd.ntmps27
    go_wp2
    go_loopw [14] (fun i wr => ∃ j : Nat, j ≤ n' ∧ i = .int .i64 j ∧ Fit ps xs j ∧ Below w.heap.size w wr) (fun i _ => n' - (intOf i).toNat)
    case atStart => exact ⟨0, Nat.zero_le _, rfl, fun i hi => absurd hi (by omega), Below.refl _ _⟩
    case round =>
      obtain ⟨j, hj, rfl, hso, b1⟩ := hrel
      have HO : Hid (Fit ps xs j) := hso
      clear hso
      by_cases hlt : j < n'
      · obtain ⟨b, off, p, rfl, hb, hp, c1, c2⟩ := sp_at (HS.out.next b1) hlt
        obtain ⟨b', off', x, rfl, hb', hx, c3⟩ := si_at (HS'.out.next b1) hlt
        have HP : Hid (ps[j]? = some p) := hp
        have HX : Hid (xs[j]? = some x) := hx
        have i0 : (0 : Int) ≤ (j : Int) := by omega
        have i1 : (j : Int) < (n' : Int) := by omega
        have hsz := b1.size
        have hrp := HR.out p (List.mem_of_getElem? hp)
        have d0 : (wr.alloc (.cells #[.int .i32 p.1, .int .i32 p.2] 42)).cell? ⟨wr.heap.size, 0, none⟩ = some (.int .i32 p.1) := by simp
        have d1 : (wr.alloc (.cells #[.int .i32 p.1, .int .i32 p.2] 42)).cell? ⟨wr.heap.size, 1, none⟩ = some (.int .i32 p.2) := by simp
        have d2 : (wr.alloc (.cells #[.int .i32 p.1, .int .i32 p.2] 42)).cell? ⟨b', off' + j, none⟩ = some (.int .i32 x) := (World.cell?_alloc_lt wr _ _ hb').trans c3
        have b2 := b1.alloc hsz (.cells #[.int .i32 p.1, .int .i32 p.2] 42)
        clear hp hx
        by_cases hle : p.1 ≤ x ∧ x ≤ p.2
        · have HY : Hid (min (max x p.1) p.2 = x) := by unfold Hid; omega
          have HF := HO.out.succ HP.out HX.out hle.1 hle.2
          have HF' : Hid (Fit ps xs (j + 1)) := HF
          clear HF hle
          go_wp2
          generalize wr.alloc (.cells #[.int .i32 p.1, .int .i32 p.2] 42) = wa at *
          generalize wr.heap.size = gg at *
          go_quiet ((go_at_call 41; exact Calls.quiet_of_same (bro_q HY.out _)))
          have b3 := dN b2 nq
          generalize wa.drewN nq = w2 at *
          go_wp2
          go_roundw
          case rel => exact ⟨j + 1, by omega, by go_num, HF'.out, b3⟩
          case measure => simp [intOf]; omega
        · have HY : ∃ y, Hid (min (max x p.1) p.2 = y) ∧ Hid (y ≠ x) := ⟨_, rfl, by unfold Hid; omega⟩
          obtain ⟨y, HY, HN⟩ := HY
          have HF : Hid (fitsB ps xs = false) := fitsB_bad HP.out HX.out hle
          clear hle
          have hyx := HN.out
          go_wp2
          generalize wr.alloc (.cells #[.int .i32 p.1, .int .i32 p.2] 42) = wa at *
          generalize wr.heap.size = gg at *
          go_quiet ((go_at_call 41; exact Calls.quiet_of_same (bro_q HY.out _)))
          have b3 := dN b2 nq
          go_wp2
          go_ret
          exact ⟨ret_bool HF.out.symm, b3⟩
      · obtain rfl : j = n' := by omega
        go_wp2
        go_ret
        exact ⟨ret_bool (fitsB_all (by rw [← HL'.out, ← HL.out]) (fun i hi => HO.out i (by rw [HL.out]; exact hi))).symm, b1⟩
  · have HF : Hid (fitsB ps xs = false) := fitsB_len (by rw [← HL.out, ← HL'.out]; exact hn)
    have hn' : ¬ ((n' : Int) = (n : Int)) := by omega
    go_enter Tryd.func27, Tryd.ntmps27
    go_wp2
    go_ret
    exact ⟨ret_bool HF.out.symm, Below.refl _ _⟩
end Go.Proofs.YtdgobdfggdmnpaaDoor
