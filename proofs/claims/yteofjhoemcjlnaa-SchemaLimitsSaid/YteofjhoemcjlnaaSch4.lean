import Derived.Test.YteofjhoemcjlnaaSch3
namespace Go.Proofs.Yteofjhoemcjlnaa
open Go.RowKit
theorem refFits_any (A : Option Addr) (n c k : Nat) (ps : List (Int × Int)) (A' : Option Addr) (n' c' k' : Nat) (xs : List Int) (w : World) (h : Sp w k A n c ps) (hk : k ≤ w.heap.size) (h' : Si w k' A' n' c' xs) (hk' : k' ≤ w.heap.size) :
    Calls Try.prog 16 #[.slice A n c, .slice A' n' c'] w fun e w' => e = .returned (.bool (fitsB ps xs)) ∧ Below w.heap.size w w' := by
  have HL : Hid (n = ps.length) := sp_len h
  have HL' : Hid (n' = xs.length) := si_len h'
  have hm := h.max
  have hc := h.cap
  have hm' := h'.max
  have hc' := h'.cap
  unfold maxLen at hm hm'
  have HS : Hid (Sp w w.heap.size A n c ps) := h.more hk
  have HS' : Hid (Si w w.heap.size A' n' c' xs) := h'.more hk'
  clear h h'
  by_cases hn : n' = n
  · subst hn
    go_enter Try.func16, Try.ntmps16
    go_wp2
    go_loopw [5] (fun i wr => ∃ j : Nat, j ≤ n' ∧ i = .int .i64 j ∧ Fit ps xs j ∧ Below w.heap.size w wr) (fun i _ => n' - (intOf i).toNat)
    case atStart => exact ⟨0, Nat.zero_le _, rfl, fun i hi => absurd hi (by omega), Below.refl _ _⟩
    case round =>
      obtain ⟨j, hj, rfl, hso, b1⟩ := hrel
      have HO : Hid (Fit ps xs j) := hso
      clear hso
      by_cases hlt : j < n'
      · obtain ⟨b, off, p, rfl, hb, hp, c1, c2⟩ := sp_at (HS.out.next b1) hlt
        obtain ⟨b', off', x, rfl, hb', hx, c3⟩ := si_at (HS'.out.next b1) hlt
        have HP : Hid (ps[j]? = some p) := hp
        have HX : Hid (xs[j]? = some x) := hx
        have i0 : (0 : Int) ≤ (j : Int) := by omega
        have i1 : (j : Int) < (n' : Int) := by omega
        clear hp hx
        by_cases hle : p.1 ≤ x ∧ x ≤ p.2
        · have HF' : Hid (Fit ps xs (j + 1)) := HO.out.succ HP.out HX.out hle.1 hle.2
          obtain ⟨g1, g2⟩ := hle
          go_wp2
          go_quiet (fail)
          have b3 := dN b1 nq
          generalize wr.drewN nq = w2 at *
          go_wp2
          go_roundw
          case rel => exact ⟨j + 1, by omega, by go_num, HF'.out, b3⟩
          case measure => simp [intOf]; omega
        · have HF : Hid (fitsB ps xs = false) := fitsB_bad HP.out HX.out hle
          by_cases g1 : x < p.1
          · clear hle
            go_wp2
            go_quiet (fail)
            have b3 := dN b1 nq
            go_wp2
            go_ret
            exact ⟨ret_bool HF.out.symm, b3⟩
          · have g2 : p.1 ≤ x := by omega
            have g3 : p.2 < x := by omega
            clear hle
            go_wp2
            go_quiet (fail)
            have b3 := dN b1 nq
            go_wp2
            go_ret
            exact ⟨ret_bool HF.out.symm, b3⟩
      · obtain rfl : j = n' := by omega
        go_wp2
        go_ret
        exact ⟨ret_bool (fitsB_all (by rw [← HL'.out, ← HL.out]) (fun i hi => HO.out i (by rw [HL.out]; exact hi))).symm, b1⟩
  · have HF : Hid (fitsB ps xs = false) := fitsB_len (by rw [← HL.out, ← HL'.out]; exact hn)
    have hn' : ¬ ((n' : Int) = (n : Int)) := by omega
    go_enter Try.func16, Try.ntmps16
    go_wp2
    go_ret
    exact ⟨ret_bool HF.out.symm, Below.refl _ _⟩

def Alike {α : Type} (xs ys : List α) (j : Nat) : Prop := ∀ i, i < j → xs[i]? = ys[i]?
theorem Alike.succ {α : Type} {xs ys : List α} {j : Nat} (h : Alike xs ys j) (he : xs[j]? = ys[j]?) : Alike xs ys (j + 1) := fun i hi => by
  rcases Nat.lt_or_ge i j with h3 | h3
  · exact h i h3
  · obtain rfl : i = j := by omega
    exact he
theorem Alike.all {α : Type} {xs ys : List α} (h : Alike xs ys xs.length) (hl : ys.length = xs.length) : xs = ys :=
  List.ext_getElem? fun i => by
    rcases Nat.lt_or_ge i xs.length with h1 | h1
    · exact h i h1
    · rw [List.getElem?_eq_none h1, List.getElem?_eq_none (by omega)]

theorem vals_any (A : Option Addr) (n c k : Nat) (xs : List Int) (A' : Option Addr) (n' c' k' : Nat) (ys : List Int) (w : World) (h : Si w k A n c xs) (hk : k ≤ w.heap.size) (h' : Si w k' A' n' c' ys) (hk' : k' ≤ w.heap.size) :
    Calls Try.prog 17 #[.slice A n c, .slice A' n' c'] w fun e w' => e = .returned (.bool (decide (xs = ys))) ∧ Below w.heap.size w w' := by
  have HL : Hid (n = xs.length) := si_len h
  have HL' : Hid (n' = ys.length) := si_len h'
  have hm := h.max
  have hc := h.cap
  have hm' := h'.max
  have hc' := h'.cap
  unfold maxLen at hm hm'
  have HS : Hid (Si w w.heap.size A n c xs) := h.more hk
  have HS' : Hid (Si w w.heap.size A' n' c' ys) := h'.more hk'
  clear h h'
  by_cases hn : n = n'
  · subst hn
    go_enter Try.func17, Try.ntmps17
    go_wp2
    go_loopw [13] (fun i wr => ∃ j : Nat, j ≤ n ∧ i = .int .i64 j ∧ Alike xs ys j ∧ Below w.heap.size w wr) (fun i _ => n - (intOf i).toNat)
    case atStart => exact ⟨0, Nat.zero_le _, rfl, fun i hi => absurd hi (by omega), Below.refl _ _⟩
    case round =>
      obtain ⟨j, hj, rfl, hso, b1⟩ := hrel
      have HO : Hid (Alike xs ys j) := hso
      clear hso
      by_cases hlt : j < n
      · obtain ⟨b, off, x, rfl, hb, hx, c1⟩ := si_at (HS.out.next b1) hlt
        obtain ⟨b', off', y, rfl, hb', hy, c2⟩ := si_at (HS'.out.next b1) hlt
        have HX : Hid (xs[j]? = some x) := hx
        have HY : Hid (ys[j]? = some y) := hy
        have i0 : (0 : Int) ≤ (j : Int) := by omega
        have i1 : (j : Int) < (n : Int) := by omega
        clear hx hy
        by_cases hxy : x = y
        · subst hxy
          have HF' : Hid (Alike xs ys (j + 1)) := HO.out.succ (HX.out.trans HY.out.symm)
          go_wp2
          go_quiet (fail)
          have b3 := dN b1 nq
          generalize wr.drewN nq = w2 at *
          go_wp2
          go_roundw
          case rel => exact ⟨j + 1, by omega, by go_num, HF'.out, b3⟩
          case measure => simp [intOf]; omega
        · have HF : Hid (decide (xs = ys) = false) := decide_eq_false fun e => hxy (by
            have h1 := HX.out
            rw [e, HY.out] at h1
            injection h1 with h1
            exact h1.symm)
          go_wp2
          go_quiet (fail)
          have b3 := dN b1 nq
          go_wp2
          go_ret
          exact ⟨ret_bool HF.out.symm, b3⟩
      · obtain rfl : j = n := by omega
        go_wp2
        go_ret
        exact ⟨ret_bool (decide_eq_true (Alike.all (fun i hi => HO.out i (by rw [HL.out]; exact hi)) (by rw [← HL'.out, ← HL.out]))).symm, b1⟩
  · have HF : Hid (decide (xs = ys) = false) := decide_eq_false fun e => hn (by rw [HL.out, HL'.out, e])
    have hn' : ¬ ((n : Int) = (n' : Int)) := by omega
    go_enter Try.func17, Try.ntmps17
    go_wp2
    go_ret
    exact ⟨ret_bool HF.out.symm, Below.refl _ _⟩

theorem slicesEqual_any (A : Option Addr) (n c k : Nat) (xs : List Int) (A' : Option Addr) (n' c' k' : Nat) (ys : List Int) (w : World) (h : Si w k A n c xs) (hk : k ≤ w.heap.size) (h' : Si w k' A' n' c' ys) (hk' : k' ≤ w.heap.size) :
    Calls Try.prog 24 #[.slice A n c, .slice A' n' c'] w fun e w' => e = .returned (.bool (decide (xs = ys))) ∧ Below w.heap.size w w' := by
  have HL : Hid (n = xs.length) := si_len h
  have HL' : Hid (n' = ys.length) := si_len h'
  have hm := h.max
  have hc := h.cap
  have hm' := h'.max
  have hc' := h'.cap
  unfold maxLen at hm hm'
  have HS : Hid (Si w w.heap.size A n c xs) := h.more hk
  have HS' : Hid (Si w w.heap.size A' n' c' ys) := h'.more hk'
  clear h h'
  by_cases hn : n = n'
  · subst hn
    go_enter Try.func24, Try.ntmps24
    go_wp2
    go_loopw [13] (fun i wr => ∃ j : Nat, j ≤ n ∧ i = .int .i64 j ∧ Alike xs ys j ∧ Below w.heap.size w wr) (fun i _ => n - (intOf i).toNat)
    case atStart => exact ⟨0, Nat.zero_le _, rfl, fun i hi => absurd hi (by omega), Below.refl _ _⟩
    case round =>
      obtain ⟨j, hj, rfl, hso, b1⟩ := hrel
      have HO : Hid (Alike xs ys j) := hso
      clear hso
      by_cases hlt : j < n
      · obtain ⟨b, off, x, rfl, hb, hx, c1⟩ := si_at (HS.out.next b1) hlt
        obtain ⟨b', off', y, rfl, hb', hy, c2⟩ := si_at (HS'.out.next b1) hlt
        have HX : Hid (xs[j]? = some x) := hx
        have HY : Hid (ys[j]? = some y) := hy
        have i0 : (0 : Int) ≤ (j : Int) := by omega
        have i1 : (j : Int) < (n : Int) := by omega
        clear hx hy
        by_cases hxy : x = y
        · subst hxy
          have HF' : Hid (Alike xs ys (j + 1)) := HO.out.succ (HX.out.trans HY.out.symm)
          go_wp2
          go_quiet (fail)
          have b3 := dN b1 nq
          generalize wr.drewN nq = w2 at *
          go_wp2
          go_roundw
          case rel => exact ⟨j + 1, by omega, by go_num, HF'.out, b3⟩
          case measure => simp [intOf]; omega
        · have HF : Hid (decide (xs = ys) = false) := decide_eq_false fun e => hxy (by
            have h1 := HX.out
            rw [e, HY.out] at h1
            injection h1 with h1
            exact h1.symm)
          go_wp2
          go_quiet (fail)
          have b3 := dN b1 nq
          go_wp2
          go_ret
          exact ⟨ret_bool HF.out.symm, b3⟩
      · obtain rfl : j = n := by omega
        go_wp2
        go_ret
        exact ⟨ret_bool (decide_eq_true (Alike.all (fun i hi => HO.out i (by rw [HL.out]; exact hi)) (by rw [← HL'.out, ← HL.out]))).symm, b1⟩
  · have HF : Hid (decide (xs = ys) = false) := decide_eq_false fun e => hn (by rw [HL.out, HL'.out, e])
    have hn' : ¬ ((n : Int) = (n' : Int)) := by omega
    go_enter Try.func24, Try.ntmps24
    go_wp2
    go_ret
    exact ⟨ret_bool HF.out.symm, Below.refl _ _⟩

theorem bytesEqual_any (A : Option Addr) (n c k : Nat) (l : List UInt8) (A' : Option Addr) (n' c' k' : Nat) (l' : List UInt8) (w : World) (h : Sl w k A n c l) (h' : Sl w k' A' n' c' l') :
    Calls Try.prog 25 #[.slice A n c, .slice A' n' c'] w fun e w' => e = .returned (.bool (l == l')) ∧ w = w' := by
  have e1 := run_str (P := Try.prog) 29 9 5 Try.underlying29 Try.underlying5 Try.underlying9 h
  have e2 := run_str (P := Try.prog) 29 9 5 Try.underlying29 Try.underlying5 Try.underlying9 h'
  go_enter Try.func25, Try.ntmps25
  go_wp2
  go_ret
  exact ⟨rfl, rfl⟩

def namedB (n i s : Int) : Bool := decide (n < 12) && decide (1 ≤ i) && decide (1 ≤ s)
theorem named_any (n i s : Int) (w : World) :
    Calls Try.prog 29 #[.agg #[.int .u8 n, .int .u16 i, .int .u32 s]] w fun e w' => e = .returned (.bool (namedB n i s)) ∧ Below w.heap.size w w' := by
  go_enter Try.func29, Try.ntmps29
  go_wp2
  all_goals
    go_ret
    refine ⟨ret_bool ?_, (Below.refl _ _).alloc (Nat.le_refl _) _⟩
    simp [namedB]
    try omega
theorem few_any (n i s : Int) (A : Option Addr) (vn vc : Nat) (D : Option Addr) (dn dc : Nat) (w : World) :
    Calls Try.prog 8 #[.agg #[.int .u8 n, .int .u16 i, .int .u32 s, .slice A vn vc, .slice D dn dc]] w fun e w' => e = .returned (.bool (decide (vn ≤ 20) && decide (dn ≤ 200))) ∧ Below w.heap.size w w' := by
  go_enter Try.func8, Try.ntmps8
  go_wp2
  all_goals
    go_ret
    refine ⟨ret_bool ?_, (Below.refl _ _).alloc (Nat.le_refl _) _⟩
    rw [Bool.eq_iff_iff]
    simp only [Bool.and_eq_true, decide_eq_true_eq, Bool.false_eq_true, false_iff]
    omega
end Go.Proofs.Yteofjhoemcjlnaa
