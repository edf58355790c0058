import Derived.Test.YthakiojcjkkonaaNum
import Derived.WalkKit
namespace Go.Proofs.Ythakiojcjkkonaa
theorem less_num : ∀ (a b : List UInt8), a.length = b.length → Op.bytesLess a b = decide (num a < num b)
  | [], [], _ => by simp [Op.bytesLess]
  | [], _ :: _, h => by simp at h
  | _ :: _, [], h => by simp at h
  | u :: a, v :: b, h => by
    have hl : a.length = b.length := by simpa using h
    have ih := less_num a b hl
    have ha := num_lt a
    have hb := num_lt b
    rw [Op.bytesLess, ih, num_cons, num_cons, hl]
    rw [hl] at ha
    generalize num a = x at *
    generalize num b = y at *
    generalize 256 ^ b.length = p at *
    by_cases h1 : u < v
    · have h2 : u.toNat + 1 ≤ v.toNat := UInt8.lt_iff_toNat_lt.1 h1
      have h3 : (u.toNat + 1) * p ≤ v.toNat * p := Nat.mul_le_mul_right _ h2
      rw [Nat.add_mul] at h3
      have h4 : u.toNat * p + x < v.toNat * p + y := by omega
      simp [h1, h4]
    · by_cases h2 : u = v
      · subst h2
        simp
      · have h3 : v.toNat + 1 ≤ u.toNat := by
          have := mt UInt8.lt_iff_toNat_lt.2 h1
          have h4 : u.toNat ≠ v.toNat := fun e => h2 (UInt8.toNat_inj.1 e)
          omega
        have h4 : (v.toNat + 1) * p ≤ u.toNat * p := Nat.mul_le_mul_right _ h3
        rw [Nat.add_mul] at h4
        have h5 : ¬ (u.toNat * p + x < v.toNat * p + y) := by omega
        simp [h1, h2, h5]
theorem less_be (x y k : Nat) (hx : x < 256 ^ k) (hy : y < 256 ^ k) : Op.bytesLess (be x k) (be y k) = decide (x < y) := by
  rw [less_num _ _ (by rw [be_length, be_length]), num_be, num_be, Nat.mod_eq_of_lt hx, Nat.mod_eq_of_lt hy]
theorem eq_be (x y k : Nat) (hx : x < 256 ^ k) (hy : y < 256 ^ k) : (be x k == be y k) = decide (x = y) := by
  rw [Bool.eq_iff_iff, beq_iff_eq, decide_eq_true_eq]
  constructor
  · intro h
    have := congrArg num h
    rwa [num_be, num_be, Nat.mod_eq_of_lt hx, Nat.mod_eq_of_lt hy] at this
  · rintro rfl; rfl
end Go.Proofs.Ythakiojcjkkonaa
