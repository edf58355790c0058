/- Layer 8, plain facts: rows of numbers that were seen (prefix, bits), what is recorded in them, in whatever order. No program is named here. -/
import Derived.Test.YtkdlgejkgcojkaaDoorGv
namespace Go.Proofs.YtkdlgejkgcojkaaDoor
set_option linter.unusedVariables false
/-- A row's numbers: prefix, bits. -/
def seenN (p b n : Nat) : Bool := decide (1 ≤ n) && (decide (n ≤ p) || b.testBit (n - p - 1))
theorem seenN_low {p b n : Nat} (h : 1 ≤ n) (h' : n ≤ p) : seenN p b n = true := by simp [seenN, h, h']
theorem seenN_bit (p b i : Nat) : seenN p b (p + 1 + i) = b.testBit i := by
  have e : p + 1 + i - p - 1 = i := by omega
  unfold seenN
  rw [e, decide_eq_true (show 1 ≤ p + 1 + i by omega), decide_eq_false (show ¬ p + 1 + i ≤ p by omega)]; rfl
theorem seenN_high {p b n : Nat} (h : p < n) : seenN p b n = b.testBit (n - p - 1) := by
  obtain ⟨i, rfl⟩ : ∃ i, n = p + 1 + i := ⟨n - p - 1, by omega⟩
  rw [seenN_bit]; congr 1; omega
theorem seenN_zero (p b : Nat) : seenN p b 0 = false := by simp [seenN]
theorem seenN_iff {p b n : Nat} : seenN p b n = true ↔ (1 ≤ n ∧ n ≤ p) ∨ ∃ i, b.testBit i = true ∧ n = p + 1 + i := by
  constructor
  · intro h
    rcases Nat.lt_or_ge p n with h1 | h1
    · exact .inr ⟨n - p - 1, by rw [← seenN_high h1]; exact h, by omega⟩
    · refine .inl ⟨?_, h1⟩
      rcases Nat.eq_zero_or_pos n with h2 | h2
      · subst h2; rw [seenN_zero] at h; cases h
      · exact h2
  · rintro (⟨h1, h2⟩ | ⟨i, h1, rfl⟩)
    · exact seenN_low h1 h2
    · rw [seenN_bit]; exact h1
/-- One number set. -/
theorem testBit_add_pow : ∀ (i b j : Nat), b.testBit i = false → (b + 2 ^ i).testBit j = (b.testBit j || decide (j = i))
  | 0, b, j, h => by
    have h0 : b % 2 = 0 := by simpa [Nat.testBit_zero] using h
    cases j with
    | zero => simp [Nat.testBit_zero]; omega
    | succ j => rw [Nat.testBit_succ, Nat.testBit_succ]; have : (b + 2 ^ 0) / 2 = b / 2 := by simp; omega
                rw [this]; simp
  | i + 1, b, j, h => by
    rw [Nat.testBit_succ] at h
    have e1 : (b + 2 ^ (i + 1)) / 2 = b / 2 + 2 ^ i := by rw [Nat.pow_succ]; omega
    have e2 : (b + 2 ^ (i + 1)) % 2 = b % 2 := by rw [Nat.pow_succ]; omega
    cases j with
    | zero => simp [Nat.testBit_zero, e2]
    | succ j => rw [Nat.testBit_succ, Nat.testBit_succ, e1, testBit_add_pow i (b / 2) j h]; simp
theorem seenN_set {p b n m : Nat} (hn : p < n) (h : seenN p b n = false) : seenN p (b + 2 ^ (n - p - 1)) m = (seenN p b m || decide (m = n)) := by
  rw [seenN_high hn] at h
  rcases Nat.lt_or_ge p m with h1 | h1
  · rw [seenN_high h1, seenN_high h1, testBit_add_pow _ _ _ h]
    congr 1
    rw [decide_eq_decide]; omega
  · have e : decide (m = n) = false := decide_eq_false (by omega)
    rw [e, Bool.or_false]
    unfold seenN
    rw [decide_eq_true h1]; simp
/-- As long as the lowest bit is on: the prefix grows. -/
def normR : Nat → Nat → Nat → Nat × Nat
  | 0, p, b => (p, b)
  | k + 1, p, b => if b % 2 = 1 then normR k (p + 1) (b / 2) else (p, b)
theorem seenN_shift {p b : Nat} (h : b % 2 = 1) (n : Nat) : seenN (p + 1) (b / 2) n = seenN p b n := by
  rw [Bool.eq_iff_iff, seenN_iff, seenN_iff]
  constructor
  · rintro (⟨h1, h2⟩ | ⟨i, h1, rfl⟩)
    · rcases Nat.lt_or_ge p n with h3 | h3
      · exact .inr ⟨0, by simp [Nat.testBit_zero, h], by omega⟩
      · exact .inl ⟨h1, h3⟩
    · exact .inr ⟨i + 1, by rw [Nat.testBit_succ]; exact h1, by omega⟩
  · rintro (⟨h1, h2⟩ | ⟨i, h1, rfl⟩)
    · exact .inl ⟨h1, by omega⟩
    · cases i with
      | zero => exact .inl ⟨by omega, by omega⟩
      | succ i => exact .inr ⟨i, by rw [Nat.testBit_succ] at h1; exact h1, by omega⟩
theorem seenN_norm : ∀ (k p b n : Nat), seenN (normR k p b).1 (normR k p b).2 n = seenN p b n
  | 0, p, b, n => rfl
  | k + 1, p, b, n => by
    unfold normR
    split
    · rename_i h; rw [seenN_norm k, seenN_shift h]
    · rfl
theorem norm_le : ∀ (k p b : Nat), p ≤ (normR k p b).1
  | 0, p, b => Nat.le_refl _
  | k + 1, p, b => by
    unfold normR
    split
    · exact Nat.le_trans (Nat.le_succ p) (norm_le k _ _)
    · exact Nat.le_refl _
theorem norm_even : ∀ (k p b : Nat), b < 2 ^ k → (normR k p b).2 % 2 = 0
  | 0, p, b, h => by have : b = 0 := by simpa using h
                     subst this; rfl
  | k + 1, p, b, h => by
    unfold normR
    split
    · exact norm_even k _ _ (by rw [Nat.pow_succ] at h; omega)
    · show b % 2 = 0; omega
/-- Two rows in which the same is seen are the same. -/
theorem row_ext {p b p' b' : Nat} (h : b % 2 = 0) (h' : b' % 2 = 0) (e : ∀ n, seenN p b n = seenN p' b' n) : p = p' ∧ b = b' := by
  have t : ∀ {x : Nat}, x % 2 = 0 → x.testBit 0 = false := fun {x} hx => by simp [Nat.testBit_zero, hx]
  have n1 : ¬ p < p' := fun h1 => by
    have := e (p + 1 + 0)
    rw [seenN_bit, t h, seenN_low (by omega) (by omega)] at this; cases this
  have n2 : ¬ p' < p := fun h1 => by
    have := e (p' + 1 + 0)
    rw [seenN_bit, t h', seenN_low (by omega) (by omega)] at this; cases this
  obtain rfl : p = p' := by omega
  refine ⟨rfl, Nat.eq_of_testBit_eq fun i => ?_⟩
  rw [← seenN_bit p b i, ← seenN_bit p b' i, e]
/-- A row that is right for a window (of an incarnation above 0). -/
structure RightN (w p b : Nat) : Prop where
  even : b % 2 = 0
  near : ∀ i, b.testBit i = true → i < w
  fits : ∀ i, b.testBit i = true → p + 1 + i ≤ 4294967295
theorem RightN.zero (w p : Nat) : RightN w p 0 := ⟨rfl, fun i h => by simp at h, fun i h => by simp at h⟩
theorem RightN.lt {w p b : Nat} (h : RightN w p b) (hw : w ≤ 64) : b < 2 ^ 64 := Nat.lt_pow_two_of_testBit _ fun i hi => by
  cases hb : b.testBit i
  · rfl
  · have := h.near i hb; omega
theorem RightN.seen_le {w p b n : Nat} (h : RightN w p b) (hp : p ≤ 4294967295) (hn : seenN p b n = true) : n ≤ p + w ∧ n ≤ 4294967295 := by
  rcases seenN_iff.1 hn with ⟨_, h2⟩ | ⟨i, hi, rfl⟩
  · omega
  · have := h.near i hi; have := h.fits i hi; omega
/-- n recorded in a row. -/
def takeN (p b n : Nat) : Nat × Nat := normR 64 p (b + 2 ^ (n - p - 1))
section
variable {w p b n : Nat}
theorem take_lt (h : RightN w p b) (hw : w ≤ 64) (hn : p < n) (hs : seenN p b n = false) (hw' : n ≤ p + w) : b + 2 ^ (n - p - 1) < 2 ^ 64 := Nat.lt_pow_two_of_testBit _ fun i hi => by
  rw [seenN_high hn] at hs
  rw [testBit_add_pow _ _ _ hs]
  cases hb : b.testBit i
  · simp; omega
  · have := h.near i hb; omega
theorem take_seen (hn : p < n) (hs : seenN p b n = false) (m : Nat) : seenN (takeN p b n).1 (takeN p b n).2 m = (seenN p b m || decide (m = n)) := by
  unfold takeN; rw [seenN_norm, seenN_set hn hs]
theorem take_right (h : RightN w p b) (hw : w ≤ 64) (hn : p < n) (hs : seenN p b n = false) (hw' : n ≤ p + w) (hmax : n ≤ 4294967295) : RightN w (takeN p b n).1 (takeN p b n).2 := by
  have key : ∀ i, (takeN p b n).2.testBit i = true → (takeN p b n).1 + 1 + i ≤ p + w ∧ (takeN p b n).1 + 1 + i ≤ 4294967295 := fun i hi => by
    rw [← seenN_bit (takeN p b n).1, take_seen hn hs] at hi
    rcases Bool.or_eq_true _ _ ▸ hi with h1 | h1
    · rcases seenN_iff.1 h1 with ⟨h2, h3⟩ | ⟨j, hj, e⟩
      · have := norm_le 64 p (b + 2 ^ (n - p - 1)); unfold takeN at *; omega
      · have := h.near j hj; have := h.fits j hj; omega
    · have := of_decide_eq_true h1; omega
  refine ⟨norm_even 64 _ _ (take_lt h hw hn hs hw'), fun i hi => ?_, fun i hi => (key i hi).2⟩
  have := (key i hi).1
  have := norm_le 64 p (b + 2 ^ (n - p - 1))
  unfold takeN at *
  omega
theorem take_pre (h : RightN w p b) (hn : p < n) (hs : seenN p b n = false) (hmax : n ≤ 4294967295) (hp : p ≤ 4294967295) : (takeN p b n).1 ≤ 4294967295 := by
  rcases Nat.eq_zero_or_pos (takeN p b n).1 with h0 | h0
  · omega
  · have h1 : seenN (takeN p b n).1 (takeN p b n).2 (takeN p b n).1 = true := seenN_low h0 (Nat.le_refl _)
    rw [take_seen hn hs] at h1
    rcases Bool.or_eq_true _ _ ▸ h1 with h2 | h2
    · exact (h.seen_le hp h2).2
    · have := of_decide_eq_true h2; omega
end
/-- Distinct numbers from 1 to w, recorded one by one. -/
def allN (l : List Nat) : Nat × Nat := l.foldl (fun r n => takeN r.1 r.2 n) (0, 0)
theorem allN_snoc (l : List Nat) (n : Nat) : allN (l ++ [n]) = takeN (allN l).1 (allN l).2 n := by simp [allN]
theorem not_low {p b n : Nat} (h1 : 1 ≤ n) (h : seenN p b n = false) : p < n := by
  rcases Nat.lt_or_ge p n with h2 | h2
  · exact h2
  · rw [seenN_low h1 h2] at h; cases h
/-- Behind j of them: the row is right, seen are just those, the next one may be taken. -/
theorem allN_inv {w : Nat} (hw : w ≤ 64) (l : List Nat) (hd : l.Nodup) (hl : ∀ n ∈ l, 1 ≤ n ∧ n ≤ w) : ∀ j, j ≤ l.length → RightN w (allN (l.take j)).1 (allN (l.take j)).2 ∧ ∀ m, seenN (allN (l.take j)).1 (allN (l.take j)).2 m = decide (m ∈ l.take j)
  | 0, _ => by
    refine ⟨RightN.zero w 0, fun m => ?_⟩
    have : seenN 0 0 m = false := by simp [seenN]; omega
    simpa [allN] using this
  | j + 1, h => by
    obtain ⟨h1, h2⟩ := allN_inv hw l hd hl j (by omega)
    have hj : j < l.length := h
    have e : l.take (j + 1) = l.take j ++ [l[j]] := by rw [List.take_add_one, List.getElem?_eq_getElem hj]; rfl
    have hm := hl l[j] (List.getElem_mem hj)
    have hs : seenN (allN (l.take j)).1 (allN (l.take j)).2 l[j] = false := by
      rw [h2]
      refine decide_eq_false fun hc => ?_
      obtain ⟨i, hi, e2⟩ := List.mem_iff_getElem.1 hc
      rw [List.length_take] at hi
      rw [List.getElem_take] at e2
      have := List.pairwise_iff_getElem.1 hd i j (by omega) hj (by omega)
      exact this e2
    have hp := not_low hm.1 hs
    rw [e, allN_snoc]
    refine ⟨take_right h1 hw hp hs (by omega) (by omega), fun m => ?_⟩
    rw [take_seen hp hs, h2, Bool.eq_iff_iff, Bool.or_eq_true, decide_eq_true_eq, decide_eq_true_eq, decide_eq_true_eq, List.mem_append, List.mem_singleton]
theorem pigeon : ∀ (w : Nat) (l : List Nat), l.Nodup → (∀ n ∈ l, 1 ≤ n ∧ n ≤ w) → l.length ≤ w ∧ (l.length = w → ∀ m, 1 ≤ m → m ≤ w → m ∈ l)
  | 0, l, _, h => by
    have : l = [] := List.eq_nil_iff_forall_not_mem.2 fun n hn => by have := h n hn; omega
    subst this
    exact ⟨Nat.le_refl _, fun _ m h1 h2 => by omega⟩
  | w + 1, l, hd, h => by
    by_cases hw : w + 1 ∈ l
    · have h3 : ∀ n ∈ l.erase (w + 1), 1 ≤ n ∧ n ≤ w := fun n hn => by
        have h4 := (List.Nodup.mem_erase_iff hd).1 hn
        have := h n h4.2
        have := h4.1
        omega
      obtain ⟨h5, h6⟩ := pigeon w (l.erase (w + 1)) (hd.erase _) h3
      have hlen := List.length_erase_of_mem hw
      have hpos : 0 < l.length := List.length_pos_of_mem hw
      refine ⟨by omega, fun he m h1 h2 => ?_⟩
      by_cases hm : m = w + 1
      · rw [hm]; exact hw
      · exact List.mem_of_mem_erase (h6 (by omega) m h1 (by omega))
    · have h3 : ∀ n ∈ l, 1 ≤ n ∧ n ≤ w := fun n hn => by
        have := h n hn
        have : n ≠ w + 1 := fun e => hw (e ▸ hn)
        omega
      have := pigeon w l hd h3
      exact ⟨by omega, fun he => by omega⟩
theorem allN_full {w : Nat} (hw : w ≤ 64) (l : List Nat) (hd : l.Nodup) (hl : ∀ n ∈ l, 1 ≤ n ∧ n ≤ w) (he : l.length = w) : allN l = (w, 0) := by
  have h := allN_inv hw l hd hl l.length (Nat.le_refl _)
  rw [List.take_length] at h
  have hp := (pigeon w l hd hl).2 he
  have key : ∀ n, seenN (allN l).1 (allN l).2 n = seenN w 0 n := fun n => by
    rw [h.2, Bool.eq_iff_iff, decide_eq_true_eq, seenN_iff]
    constructor
    · intro hn; exact .inl (hl n hn)
    · rintro (⟨h1, h2⟩ | ⟨i, h1, _⟩)
      · exact hp n h1 h2
      · simp at h1
  obtain ⟨h1, h2⟩ := row_ext h.1.even rfl key
  exact Prod.ext h1 h2
theorem allN_turn {w : Nat} (hw : w ≤ 64) (l : List Nat) (hd : l.Nodup) (hl : ∀ n ∈ l, 1 ≤ n ∧ n ≤ w) (k : Nat) : allN (l.drop k ++ l.take k) = allN l := by
  have hp : (l.drop k ++ l.take k).Perm l := List.perm_append_comm.trans (by rw [List.take_append_drop])
  have h := allN_inv hw l hd hl l.length (Nat.le_refl _)
  have h' := allN_inv hw (l.drop k ++ l.take k) (hp.nodup_iff.2 hd) (fun n hn => hl n (hp.mem_iff.1 hn)) _ (Nat.le_refl _)
  rw [List.take_length] at h h'
  obtain ⟨h1, h2⟩ := row_ext h'.1.even h.1.even fun n => by rw [h.2, h'.2, Bool.eq_iff_iff, decide_eq_true_eq, decide_eq_true_eq, hp.mem_iff]
  exact Prod.ext h1 h2
/-- A row of an incarnation, and the ids that were taken (incarnation, number). -/
abbrev Id2 := Nat × Nat
structure Once (w i p b : Nat) (M : List Id2) : Prop where
  nodup : M.Nodup
  le : ∀ x ∈ M, x.1 ≤ i ∧ 1 ≤ x.1 ∧ 1 ≤ x.2
  right : RightN w p b
  pre : p ≤ 4294967295
  zero : i = 0 → p = 0 ∧ b = 0
  seen : ∀ n, seenN p b n = decide ((i, n) ∈ M)
theorem Once.start (w : Nat) : Once w 0 0 0 [] :=
  ⟨List.Pairwise.nil, (fun x hx => by cases hx), RightN.zero w 0, (by omega), (fun _ => ⟨rfl, rfl⟩), (fun n => by simp [seenN]; omega)⟩
section
variable {w i p b : Nat} {M : List Id2}
/-- One of the same incarnation. -/
theorem Once.same (h : Once w i p b M) (hw : w ≤ 64) {n : Nat} (hi : 1 ≤ i) (h1 : 1 ≤ n) (hs : seenN p b n = false) (hw' : n ≤ p + w) (hmax : n ≤ 4294967295) : Once w i (takeN p b n).1 (takeN p b n).2 (M ++ [(i, n)]) ∧ (i, n) ∉ M := by
  have hp := not_low h1 hs
  have hm : (i, n) ∉ M := by have := h.seen n; rw [hs] at this; exact of_decide_eq_false this.symm
  refine ⟨⟨List.nodup_append.2 ⟨h.nodup, (by simp), (fun x hx y hy e => ?_)⟩, fun x hx => ?_, take_right h.right hw hp hs hw' hmax, take_pre h.right hp hs hmax h.pre, fun e => by omega, fun m => ?_⟩, hm⟩
  · rw [List.mem_singleton] at hy; subst hy e; exact hm hx
  · rcases List.mem_append.1 hx with hx | hx
    · exact h.le x hx
    · rw [List.mem_singleton] at hx; subst hx; exact ⟨Nat.le_refl _, hi, h1⟩
  · rw [take_seen hp hs, h.seen, Bool.eq_iff_iff, Bool.or_eq_true, decide_eq_true_eq, decide_eq_true_eq, decide_eq_true_eq, List.mem_append, List.mem_singleton, Prod.mk.injEq]
    simp
/-- One of a greater incarnation. -/
theorem Once.newer (h : Once w i p b M) (hw : w ≤ 64) {k n : Nat} (hk : i < k) (h1 : 1 ≤ n) (hw' : n ≤ w) : Once w k (takeN 0 0 n).1 (takeN 0 0 n).2 (M ++ [(k, n)]) ∧ (k, n) ∉ M := by
  have hz : ∀ m, seenN 0 0 m = false := fun m => by simp [seenN]; omega
  have hm : ∀ m, (k, m) ∉ M := fun m hx => by have := h.le _ hx; simp only at this; omega
  refine ⟨⟨List.nodup_append.2 ⟨h.nodup, (by simp), (fun x hx y hy e => ?_)⟩, fun x hx => ?_, take_right (RightN.zero w 0) hw (by omega) (hz n) (by omega) (by omega), take_pre (RightN.zero w 0) (by omega) (hz n) (by omega) (by omega), fun e => by omega, fun m => ?_⟩, hm n⟩
  · rw [List.mem_singleton] at hy; subst hy e; exact hm n hx
  · rcases List.mem_append.1 hx with hx | hx
    · have := h.le x hx; omega
    · rw [List.mem_singleton] at hx; subst hx; exact ⟨Nat.le_refl _, by show 1 ≤ k; omega, h1⟩
  · rw [take_seen (by omega) (hz n), hz, Bool.eq_iff_iff, Bool.or_eq_true, decide_eq_true_eq, decide_eq_true_eq, List.mem_append, List.mem_singleton, Prod.mk.injEq]
    have := hm m
    simp [this]
/-- The prefix is the greatest number up to which all were taken. -/
theorem Once.prefix_ (h : Once w i p b M) {n : Nat} (h1 : ∀ m, 1 ≤ m → m ≤ n → (i, m) ∈ M) (h2 : (i, n + 1) ∉ M) : n = p := by
  have n1 : ¬ n < p := fun hlt => h2 (by have := h.seen (n + 1); rw [seenN_low (by omega) (by omega)] at this; exact of_decide_eq_true this.symm)
  have n2 : ¬ p < n := fun hlt => by
    have h3 := h.seen (p + 1 + 0)
    rw [seenN_bit, decide_eq_true (h1 (p + 1 + 0) (by omega) (by omega))] at h3
    have := h.right.even
    simp [Nat.testBit_zero] at h3
    omega
  omega
end
end Go.Proofs.YtkdlgejkgcojkaaDoor
