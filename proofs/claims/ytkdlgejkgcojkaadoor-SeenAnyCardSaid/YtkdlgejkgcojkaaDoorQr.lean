/- Layer 8, plain facts: rows and ids as integers; what may be taken, what is taken; the ones at the low end. No program is named here. -/
import Derived.Test.YtkdlgejkgcojkaaDoorQp
import Derived.Test.YtkdlgejkgcojkaaDoorI
import Derived.Lib.TrailingZeros
namespace Go.Proofs.YtkdlgejkgcojkaaDoor
set_option linter.unusedVariables false
/-- A row: incarnation, prefix, bits. -/
abbrev Row3 := Int × Int × Int
abbrev rowR (r : Row3) : Prop := (0 ≤ r.1 ∧ r.1 ≤ 65535) ∧ (0 ≤ r.2.1 ∧ r.2.1 ≤ 4294967295) ∧ 0 ≤ r.2.2 ∧ r.2.2 ≤ 18446744073709551615
theorem rowR_zero {i : Int} (h : 0 ≤ i ∧ i ≤ 65535) : rowR (i, 0, 0) := ⟨h, ⟨Int.le_refl 0, by show (0 : Int) ≤ 4294967295; decide⟩, Int.le_refl 0, by show (0 : Int) ≤ 18446744073709551615; decide⟩
def seenI (r : Row3) (n : Int) : Bool := seenN r.2.1.toNat r.2.2.toNat n.toNat
def rightD (w p b : Nat) : Bool := decide (b % 2 = 0) && decide (b / 2 ^ (min w (4294967295 - p)) = 0)
theorem lt_pow_of_bits {b k : Nat} (h : ∀ i, b.testBit i = true → i < k) : b < 2 ^ k := Nat.lt_pow_two_of_testBit _ fun i hi => by
  cases hb : b.testBit i
  · rfl
  · have := h i hb; omega
theorem bits_of_lt {b k : Nat} (h : b < 2 ^ k) {i : Nat} (hi : b.testBit i = true) : i < k := by
  rcases Nat.lt_or_ge i k with h1 | h1
  · exact h1
  · have h2 : b < 2 ^ i := Nat.lt_of_lt_of_le h (Nat.pow_le_pow_right (by decide) h1)
    rw [Nat.testBit_lt_two_pow h2] at hi; cases hi
theorem right_iff {w p b : Nat} : rightD w p b = true ↔ RightN w p b := by
  unfold rightD
  rw [Bool.and_eq_true, decide_eq_true_eq, decide_eq_true_eq, Nat.div_eq_zero_iff_lt (Nat.two_pow_pos _)]
  constructor
  · rintro ⟨h1, h2⟩
    exact ⟨h1, fun i hi => by have := bits_of_lt h2 hi; omega, fun i hi => by have := bits_of_lt h2 hi; omega⟩
  · intro h
    exact ⟨h.even, lt_pow_of_bits fun i hi => by have := h.near i hi; have := h.fits i hi; omega⟩
abbrev fitsB (w : Int) : Bool := decide (1 ≤ w ∧ w ≤ 64)
def rightI (r : Row3) (w : Int) : Bool := decide (1 ≤ w ∧ w ≤ 64) && (if r.1 = 0 then decide (r.2.1 = 0 ∧ r.2.2 = 0) else rightD w.toNat r.2.1.toNat r.2.2.toNat)
def hasI (r : Row3) (x : Id3) : Bool := decide (1 ≤ x.2.1 ∧ x.2.1 = r.1) && seenI r x.2.2
def ofI (r : Row3) (i : Int) : Row3 := if r.1 = i then r else (i, 0, 0)
def mayI (r : Row3) (x : Id3) (w : Int) : Bool := decide ((1 ≤ w ∧ w ≤ 64) ∧ (1 ≤ x.2.1 ∧ r.1 ≤ x.2.1) ∧ 1 ≤ x.2.2 ∧ x.2.2 ≤ (ofI r x.2.1).2.1 + w) && !seenI (ofI r x.2.1) x.2.2
def takeI (r : Row3) (x : Id3) : Row3 := (x.2.1, ((takeN (ofI r x.2.1).2.1.toNat (ofI r x.2.1).2.2.toNat x.2.2.toNat).1 : Int), ((takeN (ofI r x.2.1).2.1.toNat (ofI r x.2.1).2.2.toNat x.2.2.toNat).2 : Int))
theorem seenI_zero (r : Row3) : seenI r 0 = false := seenN_zero _ _
theorem seenI_none (i n : Int) : seenI (i, 0, 0) n = false := by
  show seenN 0 0 n.toNat = false
  cases h : seenN 0 0 n.toNat
  · rfl
  · rcases seenN_iff.1 h with ⟨h1, h2⟩ | ⟨j, h1, _⟩
    · omega
    · simp at h1
theorem seenI_low {r : Row3} {n : Int} (h : 1 ≤ n) (h' : n ≤ r.2.1) : seenI r n = true := seenN_low (by omega) (by omega)
theorem seenI_high {r : Row3} {n : Int} (h0 : 0 ≤ r.2.1) (h : r.2.1 < n) : seenI r n = r.2.2.toNat.testBit (n - r.2.1 - 1).toNat := by
  unfold seenI
  rw [seenN_high (by omega)]
  congr 1
  omega
theorem high_of {r : Row3} {n : Int} (h : 1 ≤ n) (hs : seenI r n = false) : r.2.1 < n := by
  rcases Int.lt_or_le r.2.1 n with h1 | h1
  · exact h1
  · rw [seenI_low h h1] at hs; cases hs
theorem ofI_same {r : Row3} {i : Int} (h : r.1 = i) : ofI r i = r := if_pos h
theorem ofI_other {r : Row3} {i : Int} (h : r.1 ≠ i) : ofI r i = (i, 0, 0) := if_neg h
theorem ofI_inc (r : Row3) (i : Int) : (ofI r i).1 = i := by
  unfold ofI
  split
  · assumption
  · rfl
theorem ofI_R {r : Row3} {i : Int} (h : rowR r) (hi : 0 ≤ i ∧ i ≤ 65535) : rowR (ofI r i) := by
  unfold ofI
  split
  · exact h
  · exact rowR_zero hi
/-- The row that is taken into is right. -/
theorem ofI_right {r : Row3} {w i : Int} (h : rightI r w = true) : RightN w.toNat (ofI r i).2.1.toNat (ofI r i).2.2.toNat := by
  unfold ofI
  unfold rightI at h
  rw [Bool.and_eq_true] at h
  split
  · split at h
    · have := of_decide_eq_true h.2
      rw [this.1, this.2]; exact RightN.zero _ _
    · exact right_iff.1 h.2
  · exact RightN.zero _ _
theorem right_fits {r : Row3} {w : Int} (h : rightI r w = true) : 1 ≤ w ∧ w ≤ 64 := by
  unfold rightI at h
  rw [Bool.and_eq_true] at h
  exact of_decide_eq_true h.1
theorem may_parts {r : Row3} {x : Id3} {w : Int} (h : mayI r x w = true) : (1 ≤ w ∧ w ≤ 64) ∧ (1 ≤ x.2.1 ∧ r.1 ≤ x.2.1) ∧ 1 ≤ x.2.2 ∧ x.2.2 ≤ (ofI r x.2.1).2.1 + w ∧ seenI (ofI r x.2.1) x.2.2 = false ∧ (ofI r x.2.1).2.1 < x.2.2 := by
  unfold mayI at h
  rw [Bool.and_eq_true, decide_eq_true_eq] at h
  obtain ⟨⟨h1, h2, h3, h4⟩, h5⟩ := h
  have h5' : seenI (ofI r x.2.1) x.2.2 = false := by simpa using h5
  exact ⟨h1, h2, h3, h4, h5', high_of h3 h5'⟩
/-- The ones at the low end of b < 2^k. -/
def ones (k b : Nat) : Nat := Lib.ctz k (2 ^ k - 1 - b)
theorem norm_ones : ∀ (k p b : Nat), b < 2 ^ k → normR k p b = (p + ones k b, b / 2 ^ ones k b)
  | 0, p, b, h => by
    have : b = 0 := by simpa using h
    subst this; simp [normR, ones, Lib.ctz]
  | k + 1, p, b, h => by
    have e2 : 2 ^ (k + 1) = 2 * 2 ^ k := by rw [Nat.pow_succ, Nat.mul_comm]
    have hp := Nat.two_pow_pos k
    unfold normR
    split
    · rename_i ho
      have e : ones (k + 1) b = 1 + ones k (b / 2) := by
        have ex : 2 ^ (k + 1) - 1 - b = 2 * (2 ^ k - 1 - b / 2) := by omega
        unfold ones
        rw [ex]
        generalize 2 ^ k - 1 - b / 2 = y
        unfold Lib.ctz
        by_cases hy : y = 0
        · subst hy; simp; omega
        · rw [if_neg (by omega), if_neg hy]
          show (if 2 * y % 2 = 1 then 0 else 1 + Lib.ctzFrom k (2 * y / 2)) = _
          rw [if_neg (by omega), Nat.mul_div_cancel_left _ (by decide)]
      rw [norm_ones k (p + 1) (b / 2) (by omega), e, Nat.pow_add, ← Nat.div_div_eq_div_mul]
      exact Prod.ext (by show p + 1 + _ = p + (1 + _); omega) rfl
    · rename_i ho
      have e : ones (k + 1) b = 0 := by
        unfold ones
        have h1 : (2 ^ (k + 1) - 1 - b) % 2 = 1 := by omega
        generalize 2 ^ (k + 1) - 1 - b = y at *
        unfold Lib.ctz
        rw [if_neg (by omega)]
        show (if y % 2 = 1 then 0 else _) = 0
        rw [if_pos h1]
      rw [e]; simp
theorem ones_le : ∀ (k b : Nat), b < 2 ^ k → ones k b ≤ k := fun k b h => by
  unfold ones Lib.ctz
  split
  · exact Nat.le_refl _
  · rename_i h0
    obtain ⟨m, hm, hk⟩ := Lib.ctzFrom_spec k (2 ^ k - 1 - b) (by omega) (by have := Nat.two_pow_pos k; omega)
    omega
theorem takeN_ones {p b n : Nat} (h : b + 2 ^ (n - p - 1) < 2 ^ 64) : takeN p b n = (p + ones 64 (b + 2 ^ (n - p - 1)), (b + 2 ^ (n - p - 1)) / 2 ^ ones 64 (b + 2 ^ (n - p - 1))) := norm_ones 64 p _ h
/-- A bit that is off, set. -/
theorem or_pow {b i : Nat} (h : b.testBit i = false) : b ||| 2 ^ i = b + 2 ^ i := by
  apply Nat.eq_of_testBit_eq
  intro j
  rw [testBit_add_pow i b j h, Nat.testBit_or, Nat.testBit_two_pow]
  congr 1
  rw [decide_eq_decide]
  exact eq_comm
theorem bit_one (b i : Nat) : b / 2 ^ i % 2 = if b.testBit i then 1 else 0 := by
  rw [Nat.testBit_eq_decide_div_mod_eq]
  by_cases h : b / 2 ^ i % 2 = 1
  · simp [h]
  · simp [h]; omega
section
variable {r : Row3} {x : Id3} {w : Int}
/-- What the taking is made of. -/
theorem take_facts (hr : rowR r) (hx : 0 ≤ x.2.1 ∧ x.2.1 ≤ 65535) (hn : x.2.2 ≤ 4294967295) (hR : rightI r w = true) (hm : mayI r x w = true) :
    ∃ q k b m : Int, ofI r x.2.1 = (x.2.1, q, b) ∧ rowR (x.2.1, q, b) ∧ q < x.2.2 ∧ x.2.2 - q - 1 = k ∧ 0 ≤ k ∧ k < 64 ∧ k ≤ 4294967295 ∧ b.toNat.testBit k.toNat = false ∧ b + 2 ^ k.toNat = m ∧ 0 ≤ m ∧ m ≤ 18446744073709551615 ∧
      takeI r x = (x.2.1, q + (ones 64 m.toNat : Int), ((m.toNat / 2 ^ ones 64 m.toNat : Nat) : Int)) ∧ q + (ones 64 m.toNat : Int) ≤ 4294967295 ∧ ones 64 m.toNat ≤ 64 := by
  obtain ⟨h1, h2, h3, h4, h5, h6⟩ := may_parts hm
  have h7 := ofI_right (i := x.2.1) hR
  have h8 := ofI_R hr hx
  have h9 := ofI_inc r x.2.1
  unfold takeI
  unfold seenI at h5
  generalize ofI r x.2.1 = o at *
  obtain ⟨i, q, b⟩ := o
  simp only at h4 h5 h6 h7 h8 h9 ⊢
  subst h9
  obtain ⟨c1, c2, c3⟩ := h8
  simp only at c1 c2 c3
  have hpn : q.toNat < x.2.2.toNat := by omega
  have hlt := take_lt h7 (by omega) hpn h5 (by omega)
  have hpre := take_pre h7 hpn h5 (by omega) (by omega)
  have hbit := h5
  rw [seenN_high hpn] at hbit
  have ek : x.2.2.toNat - q.toNat - 1 = (x.2.2 - q - 1).toNat := by omega
  rw [takeN_ones hlt] at hpre ⊢
  rw [ek] at hlt hbit hpre ⊢
  have ep : (0 : Int) < 2 ^ (x.2.2 - q - 1).toNat := Int.pow_pos (by decide)
  have em : b.toNat + 2 ^ (x.2.2 - q - 1).toNat = (b + 2 ^ (x.2.2 - q - 1).toNat).toNat := by
    have e2 : (2 : Int) ^ (x.2.2 - q - 1).toNat = ((2 ^ (x.2.2 - q - 1).toNat : Nat) : Int) := by simp
    rw [e2, Int.toNat_add c3.1 (Int.natCast_nonneg _), Int.toNat_natCast]
  rw [em] at hlt hpre ⊢
  refine ⟨q, _, b, _, rfl, ⟨c1, c2, c3⟩, h6, rfl, (by omega), (by omega), (by omega), hbit, rfl, (by omega), (by omega), ?_, ?_, ones_le 64 _ hlt⟩
  · refine Prod.ext rfl (Prod.ext ?_ rfl)
    show ((q.toNat + _ : Nat) : Int) = q + _
    omega
  · have : q.toNat + ones 64 (b + 2 ^ (x.2.2 - q - 1).toNat).toNat ≤ 4294967295 := hpre
    omega
theorem take_right_ (hr : rowR r) (hx : 0 ≤ x.2.1 ∧ x.2.1 ≤ 65535) (hn : x.2.2 ≤ 4294967295) (hR : rightI r w = true) (hm : mayI r x w = true) : rightI (takeI r x) w = true ∧ rowR (takeI r x) := by
  obtain ⟨h1, h2, h3, h4, h5, h6⟩ := may_parts hm
  have h7 := ofI_right (i := x.2.1) hR
  have h8 := ofI_R hr hx
  have h9 := ofI_inc r x.2.1
  unfold takeI
  unfold seenI at h5
  generalize ofI r x.2.1 = o at *
  obtain ⟨i, q, b⟩ := o
  simp only at h4 h5 h6 h7 h8 h9 ⊢
  subst h9
  obtain ⟨c1, c2, c3⟩ := h8
  simp only at c1 c2 c3
  have hpn : q.toNat < x.2.2.toNat := by omega
  have hlt := take_right h7 (by omega) hpn h5 (by omega) (by omega)
  have hpre := take_pre h7 hpn h5 (by omega) (by omega)
  have hb := hlt.lt (by omega)
  refine ⟨?_, hx, ⟨by simp, by simp only; omega⟩, by simp, by simp only; omega⟩
  unfold rightI
  simp only
  rw [if_neg (by omega), Int.toNat_natCast, Int.toNat_natCast, right_iff.2 hlt, decide_eq_true h1]; rfl
end
end Go.Proofs.YtkdlgejkgcojkaaDoor
