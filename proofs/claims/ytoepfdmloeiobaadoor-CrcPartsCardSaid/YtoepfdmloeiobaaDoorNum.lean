/- Numbers as bytes, the highest first: plain facts, with no program. -/
import Derived.Laws.Bits
namespace Go.Proofs.YtoepfdmloeiobaaDoor

theorem snoc_ind {α : Type} {P : List α → Prop} (h0 : P []) (hs : ∀ l u, P l → P (l ++ [u])) (l : List α) : P l := by
  rw [← l.reverse_reverse]
  induction l.reverse with
  | nil => exact h0
  | cons u t ih => rw [List.reverse_cons]; exact hs _ _ ih

/-- The number that bytes are. -/
def num (l : List UInt8) : Nat := l.foldl (fun x u => x * 256 + u.toNat) 0
/-- The lowest n bytes of a number, the highest first. -/
def be (x : Nat) : Nat → List UInt8
  | 0 => []
  | n + 1 => UInt8.ofNat (x / 256 ^ n) :: be x n

theorem num_snoc (l : List UInt8) (u : UInt8) : num (l ++ [u]) = num l * 256 + u.toNat := by simp [num]
theorem num_lt (l : List UInt8) : num l < 256 ^ l.length := by
  induction l using snoc_ind with
  | h0 => simp [num]
  | hs l u ih =>
    rw [num_snoc, List.length_append, List.length_singleton, Nat.pow_succ]
    have := u.toNat_lt
    omega
theorem num_take_succ (l : List UInt8) (k : Nat) (h : k < l.length) : num (l.take (k + 1)) = num (l.take k) * 256 + (l[k]).toNat := by
  rw [List.take_succ_eq_append_getElem h, num_snoc]
theorem num_take_lt (l : List UInt8) (k m : Nat) (hk : k ≤ m) : num (l.take k) < 256 ^ m := by
  refine Nat.lt_of_lt_of_le (num_lt _) (Nat.pow_le_pow_right (by omega) ?_)
  rw [List.length_take]; omega
theorem be_length (x n : Nat) : (be x n).length = n := by induction n with
  | zero => rfl
  | succ n ih => simp [be, ih]
theorem be_get (x n k : Nat) (h : k < n) : (be x n)[k]? = some (UInt8.ofNat (x / 256 ^ (n - 1 - k))) := by
  induction n generalizing k with
  | zero => omega
  | succ n ih =>
    cases k with
    | zero => simp [be]
    | succ k =>
      simp only [be, List.getElem?_cons_succ]
      rw [ih k (by omega), show n + 1 - 1 - (k + 1) = n - 1 - k from by omega]
theorem be_take_succ (x n k : Nat) (h : k < n) : (be x n).take (k + 1) = (be x n).take k ++ [UInt8.ofNat (x / 256 ^ (n - 1 - k))] := by
  have h1 := be_get x n k h
  have h2 : k < (be x n).length := by rw [be_length]; exact h
  rw [List.take_succ_eq_append_getElem h2]
  rw [List.getElem?_eq_getElem h2] at h1
  injection h1 with h1
  rw [h1]
theorem num_append (a b : List UInt8) : num (a ++ b) = num a * 256 ^ b.length + num b := by
  induction b using snoc_ind with
  | h0 => simp [num]
  | hs b u ih =>
    rw [← List.append_assoc, num_snoc, num_snoc, ih, List.length_append, List.length_singleton, Nat.pow_succ, Nat.add_mul, Nat.mul_assoc]
    omega
theorem num_cons (u : UInt8) (b : List UInt8) : num (u :: b) = u.toNat * 256 ^ b.length + num b := by
  have := num_append [u] b
  simpa [num] using this
theorem num_be (x n : Nat) : num (be x n) = x % 256 ^ n := by
  induction n with
  | zero => simp [be, num, Nat.mod_one]
  | succ n ih =>
    rw [be, num_cons, be_length, ih, Nat.pow_succ, Nat.mod_mul]
    simp [UInt8.toNat_ofNat']
    rw [Nat.mul_comm]; omega
theorem be_num (l : List UInt8) : be (num l) l.length = l := by
  have key : ∀ (l : List UInt8) (x : Nat), x % 256 ^ l.length = num l → be x l.length = l := by
    intro l
    induction l with
    | nil => intro x _; rfl
    | cons u t ih =>
      intro x hx
      rw [num_cons, List.length_cons, Nat.pow_succ, Nat.mod_mul] at hx
      have ht := num_lt t
      have hm : x % 256 ^ t.length < 256 ^ t.length := Nat.mod_lt _ (by exact Nat.pos_of_ne_zero (by simp))
      have e : x / 256 ^ t.length % 256 = u.toNat ∧ x % 256 ^ t.length = num t := by
        have hu := u.toNat_lt
        generalize 256 ^ t.length = p at *
        generalize x / p % 256 = a at *
        generalize x % p = r at *
        have hp : 0 < p := by omega
        constructor
        · have h1 : (r + p * a) / p = a := by rw [Nat.add_mul_div_left _ _ hp, Nat.div_eq_of_lt hm]; omega
          have h2 : (u.toNat * p + num t) / p = u.toNat := by rw [Nat.mul_comm, Nat.add_comm, Nat.add_mul_div_left _ _ hp, Nat.div_eq_of_lt ht]; omega
          rw [← h1, hx, h2]
        · have h1 : (r + p * a) % p = r := by rw [Nat.add_mul_mod_self_left, Nat.mod_eq_of_lt hm]
          have h2 : (u.toNat * p + num t) % p = num t := by rw [Nat.mul_comm, Nat.add_comm, Nat.add_mul_mod_self_left, Nat.mod_eq_of_lt ht]
          rw [← h1, hx, h2]
      rw [List.length_cons, be, ih x e.2]
      congr 1
      rw [← UInt8.toNat_inj]
      simp [UInt8.toNat_ofNat', e.1]
  exact key l (num l) (Nat.mod_eq_of_lt (num_lt l))
end Go.Proofs.YtoepfdmloeiobaaDoor
