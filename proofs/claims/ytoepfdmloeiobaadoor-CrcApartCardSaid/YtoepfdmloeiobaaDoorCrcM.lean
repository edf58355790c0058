/- The check sum of bytes, as arithmetic on natural numbers: plain facts, with no program. -/
import Derived.Laws.BitsAllLaws
import Derived.Test.YtoepfdmloeiobaaDoorNum
namespace Go.Proofs.YtoepfdmloeiobaaDoor
set_option linter.unusedVariables false

/-- One bit of the register is shifted out. -/
def stp (r : Nat) : Nat := if r % 2 = 1 then (r / 2) ^^^ 2197175160 else r / 2
def stps : Nat → Nat → Nat
  | 0, r => r
  | n + 1, r => stps n (stp r)
def reg (r : Nat) (l : List UInt8) : Nat := l.foldl (fun r u => stps 8 (r ^^^ u.toNat)) r
def more (s : Nat) (l : List UInt8) : Nat := 4294967295 - reg (4294967295 - s) l
def csum (l : List UInt8) : Nat := more 0 l
def halvesL : List Nat := [0, 274646895, 549293790, 820201905, 1098587580, 1361435347, 1640403810, 1905808397, 2197175160, 2460548119, 2722870694, 2987750089, 3280807620, 3553878443, 3811616794, 4084100981]

theorem xor_mod2 (a b : Nat) : (a ^^^ b) % 2 = (a + b) % 2 := by
  have h := Nat.xor_mod_two_pow (a := a) (b := b) (n := 1)
  rw [show (2 : Nat) ^ 1 = 2 from rfl] at h
  rcases Nat.mod_two_eq_zero_or_one a with ha | ha <;> rcases Nat.mod_two_eq_zero_or_one b with hb | hb <;> rw [h, ha, hb] <;> simp <;> omega
theorem xor_div2 (a b : Nat) : (a ^^^ b) / 2 = a / 2 ^^^ b / 2 := by
  have h := Nat.shiftRight_xor_distrib (a := a) (b := b) (i := 1)
  simpa [Nat.shiftRight_eq_div_pow] using h
theorem stp_lt (r : Nat) (h : r < 4294967296) : stp r < 4294967296 := by
  unfold stp
  split
  · exact Nat.xor_lt_two_pow (n := 32) (by omega) (by decide)
  · omega
theorem stps_lt (n r : Nat) (h : r < 4294967296) : stps n r < 4294967296 := by
  induction n generalizing r with
  | zero => exact h
  | succ n ih => exact ih _ (stp_lt r h)
theorem stp_xor (a b : Nat) : stp (a ^^^ b) = stp a ^^^ stp b := by
  unfold stp
  rw [xor_mod2, xor_div2]
  rcases Nat.mod_two_eq_zero_or_one a with ha | ha <;> rcases Nat.mod_two_eq_zero_or_one b with hb | hb
  · rw [if_neg (by omega), if_neg (by omega), if_neg (by omega)]
  · rw [if_pos (by omega), if_neg (by omega), if_pos (by omega), Nat.xor_assoc]
  · rw [if_pos (by omega), if_pos (by omega), if_neg (by omega)]
    simp only [Nat.xor_assoc]
    congr 1
    exact Nat.xor_comm _ _
  · rw [if_neg (by omega), if_pos (by omega), if_pos (by omega)]
    rw [Nat.xor_assoc, Nat.xor_comm 2197175160, Nat.xor_assoc, Nat.xor_self, Nat.xor_zero]
theorem stps_xor (n a b : Nat) : stps n (a ^^^ b) = stps n a ^^^ stps n b := by
  induction n generalizing a b with
  | zero => rfl
  | succ n ih => rw [stps, stp_xor, ih]; rfl
theorem stps_add (n m r : Nat) : stps (n + m) r = stps m (stps n r) := by
  induction n generalizing r with
  | zero => rw [Nat.zero_add]; rfl
  | succ n ih => rw [Nat.succ_add, stps, ih]; rfl
theorem stps_succ (n r : Nat) : stps (n + 1) r = stp (stps n r) := stps_add n 1 r
theorem stp_even (q : Nat) : stp (2 * q) = q := by unfold stp; rw [if_neg (by omega)]; omega
theorem stps4_high (q : Nat) : stps 4 (16 * q) = q := by
  show stp (stp (stp (stp (16 * q)))) = q
  rw [show 16 * q = 2 * (2 * (2 * (2 * q))) from by omega, stp_even, stp_even, stp_even, stp_even]
theorem stps4_low (k : Nat) (h : k < 16) : stps 4 k = halvesL.getD k 0 := by
  have : ∀ k : Fin 16, stps 4 k = halvesL.getD k 0 := by decide
  exact this ⟨k, h⟩
theorem halves_le (k : Nat) : halvesL.getD k 0 ≤ 4294967295 := by
  rcases Nat.lt_or_ge k 16 with h | h
  · have : ∀ k : Fin 16, halvesL.getD k 0 ≤ 4294967295 := by decide
    exact this ⟨k, h⟩
  · rw [List.getD, List.getElem?_eq_none (by simpa [halvesL] using h)]; decide
/-- What 'shifted' tells. -/
theorem stps4 (r : Nat) : r / 16 ^^^ halvesL.getD (r % 16) 0 = stps 4 r := by
  have e : r = 16 * (r / 16) ^^^ r % 16 := by
    have h := Nat.shiftLeft_add_eq_or_of_lt (i := 4) (b := r % 16) (by omega) (r / 16)
    have d : (r / 16) <<< 4 &&& r % 16 = 0 := by
      apply Nat.eq_of_testBit_eq
      intro i
      rw [Nat.testBit_and, Nat.testBit_shiftLeft, Nat.zero_testBit]
      by_cases hi : 4 ≤ i
      · rw [Nat.testBit_lt_two_pow (x := r % 16) (Nat.lt_of_lt_of_le (by omega) (Nat.pow_le_pow_right (by omega) hi) : r % 16 < 2 ^ i), Bool.and_false]
      · simp [hi]
    have x : (r / 16) <<< 4 ||| r % 16 = (r / 16) <<< 4 ^^^ r % 16 := by
      apply Nat.eq_of_testBit_eq
      intro i
      have := congrArg (Nat.testBit · i) d
      simp only [Nat.testBit_and, Nat.zero_testBit] at this
      rw [Nat.testBit_or, Nat.testBit_xor]
      cases h1 : ((r / 16) <<< 4).testBit i <;> cases h2 : (r % 16).testBit i <;> simp_all
    rw [Nat.shiftLeft_eq] at h x
    rw [Nat.mul_comm 16, show (16 : Nat) = 2 ^ 4 from rfl] at *
    rw [← x, ← h]
    omega
  rw [e, stps_xor, stps4_high, stps4_low _ (by omega), ← e]
theorem stp_inj (a b : Nat) (ha : a < 4294967296) (hb : b < 4294967296) (h : stp a = stp b) : a = b := by
  have top : ∀ a, a < 4294967296 → (stp a).testBit 31 = decide (a % 2 = 1) := by
    intro a ha
    unfold stp
    have h0 : (a / 2).testBit 31 = false := Nat.testBit_lt_two_pow (by omega)
    split
    · rename_i hp
      rw [Nat.testBit_xor, h0, show (2197175160 : Nat).testBit 31 = true from by decide]; simp [hp]
    · rename_i hp
      rw [h0]; simp [hp]
  have hp : a % 2 = b % 2 := by
    have h1 := top a ha
    have h2 := top b hb
    rw [h, h2] at h1
    rcases Nat.mod_two_eq_zero_or_one a with ha | ha <;> rcases Nat.mod_two_eq_zero_or_one b with hb | hb <;> simp [ha, hb] at h1 <;> omega
  have hd : a / 2 = b / 2 := by
    unfold stp at h
    rw [hp] at h
    split at h
    · have := congrArg (· ^^^ 2197175160) h
      simpa [Nat.xor_assoc] using this
    · exact h
  omega
theorem stps_inj (n a b : Nat) (ha : a < 4294967296) (hb : b < 4294967296) (h : stps n a = stps n b) : a = b := by
  induction n generalizing a b with
  | zero => exact h
  | succ n ih => exact stp_inj a b ha hb (ih _ _ (stp_lt a ha) (stp_lt b hb) h)

theorem u8_lt32 (u : UInt8) : u.toNat < 4294967296 := by have := u.toNat_lt; omega
theorem xor_lt32 (a b : Nat) (ha : a < 4294967296) (hb : b < 4294967296) : a ^^^ b < 4294967296 := Nat.xor_lt_two_pow (n := 32) ha hb
theorem reg_lt (r : Nat) (l : List UInt8) (h : r < 4294967296) : reg r l < 4294967296 := by
  induction l generalizing r with
  | nil => exact h
  | cons u l ih => exact ih _ (stps_lt 8 _ (xor_lt32 _ _ h (u8_lt32 u)))
theorem reg_snoc (r : Nat) (l : List UInt8) (u : UInt8) : reg r (l ++ [u]) = stps 8 (reg r l ^^^ u.toNat) := by simp [reg]
theorem reg_append (r : Nat) (a b : List UInt8) : reg r (a ++ b) = reg (reg r a) b := by simp [reg]
theorem reg_take_succ (r : Nat) (l : List UInt8) (k : Nat) (h : k < l.length) : reg r (l.take (k + 1)) = stps 8 (reg r (l.take k) ^^^ (l[k]).toNat) := by
  rw [List.take_succ_eq_append_getElem h, reg_snoc]
theorem more_le (s : Nat) (l : List UInt8) : more s l ≤ 4294967295 := by unfold more; omega
theorem csum_le (l : List UInt8) : csum l ≤ 4294967295 := more_le 0 l
theorem more_csum (s : Nat) (a b : List UInt8) (h : s ≤ 4294967295) : more (more s a) b = more s (a ++ b) := by
  unfold more
  have := reg_lt (4294967295 - s) a (by omega)
  rw [reg_append, show 4294967295 - (4294967295 - reg (4294967295 - s) a) = reg (4294967295 - s) a from by omega]
theorem more_nil (s : Nat) (h : s ≤ 4294967295) : more s [] = s := by unfold more reg; simp; omega
theorem csum_more (a b : List UInt8) : more (csum a) b = csum (a ++ b) := more_csum 0 a b (by omega)
theorem csum_nil : csum [] = 0 := by decide
theorem csum_snoc_inj (a : List UInt8) (c d : UInt8) : csum (a ++ [c]) = csum (a ++ [d]) ↔ c = d := by
  constructor
  · intro h
    unfold csum more at h
    rw [reg_snoc, reg_snoc] at h
    have hr := reg_lt (4294967295 - 0) a (by omega)
    have h1 := stps_lt 8 _ (xor_lt32 _ _ hr (u8_lt32 c))
    have h2 := stps_lt 8 _ (xor_lt32 _ _ hr (u8_lt32 d))
    have h3 := stps_inj 8 _ _ (xor_lt32 _ _ hr (u8_lt32 c)) (xor_lt32 _ _ hr (u8_lt32 d)) (by omega)
    have h4 := congrArg (reg (4294967295 - 0) a ^^^ ·) h3
    simp only [← Nat.xor_assoc, Nat.xor_self, Nat.zero_xor] at h4
    exact UInt8.toNat_inj.1 h4
  · rintro rfl; rfl

/-- Bit by bit, an odd number of three. -/
def x3 : List UInt8 → List UInt8 → List UInt8 → List UInt8
  | a :: as, b :: bs, c :: cs => (a ^^^ b ^^^ c) :: x3 as bs cs
  | _, _, _ => []
theorem reg_x3 (r s t : Nat) (a b c : List UInt8) (h1 : a.length = b.length) (h2 : a.length = c.length) : reg (r ^^^ s ^^^ t) (x3 a b c) = reg r a ^^^ reg s b ^^^ reg t c := by
  induction a generalizing r s t b c with
  | nil =>
    obtain rfl := List.eq_nil_of_length_eq_zero h1.symm
    obtain rfl := List.eq_nil_of_length_eq_zero h2.symm
    rfl
  | cons x a ih =>
    match b, c, h1, h2 with
    | y :: b, z :: c, h1, h2 =>
      have e : r ^^^ s ^^^ t ^^^ (x ^^^ y ^^^ z).toNat = (r ^^^ x.toNat) ^^^ (s ^^^ y.toNat) ^^^ (t ^^^ z.toNat) := by
        rw [UInt8.toNat_xor, UInt8.toNat_xor]
        ac_rfl
      show reg (stps 8 (r ^^^ s ^^^ t ^^^ (x ^^^ y ^^^ z).toNat)) (x3 a b c) = reg (stps 8 (r ^^^ x.toNat)) a ^^^ reg (stps 8 (s ^^^ y.toNat)) b ^^^ reg (stps 8 (t ^^^ z.toNat)) c
      rw [e, stps_xor, stps_xor, ih _ _ _ _ _ (by simpa using h1) (by simpa using h2)]
theorem compl_xor (x : Nat) (h : x < 4294967296) : 4294967295 - x = x ^^^ 4294967295 := by
  apply Nat.eq_of_testBit_eq
  intro i
  have h1 := Nat.testBit_two_pow_sub_succ (n := 32) (x := x) h i
  rw [show 4294967295 - x = 2 ^ 32 - (x + 1) from by omega, h1, Nat.testBit_xor, show (4294967295 : Nat) = 2 ^ 32 - 1 from rfl, Nat.testBit_two_pow_sub_one]
  by_cases hi : i < 32
  · simp [hi]
  · have : x.testBit i = false := Nat.testBit_lt_two_pow (Nat.lt_of_lt_of_le h (Nat.pow_le_pow_right (n := 2) (by omega) (show 32 ≤ i by omega)))
    simp [hi, this]
theorem csum_x3 (a b c : List UInt8) (h1 : a.length = b.length) (h2 : a.length = c.length) : csum (x3 a b c) = csum a ^^^ csum b ^^^ csum c := by
  have h := reg_x3 4294967295 4294967295 4294967295 a b c h1 h2
  rw [Nat.xor_self, Nat.zero_xor] at h
  unfold csum more
  rw [Nat.sub_zero, h]
  have ha := reg_lt 4294967295 a (by omega)
  have hb := reg_lt 4294967295 b (by omega)
  have hc := reg_lt 4294967295 c (by omega)
  rw [compl_xor _ ha, compl_xor _ hb, compl_xor _ hc, compl_xor _ (xor_lt32 _ _ (xor_lt32 _ _ ha hb) hc)]
  generalize reg 4294967295 a = x
  generalize reg 4294967295 b = y
  generalize reg 4294967295 c = z
  have e : x ^^^ 4294967295 ^^^ (y ^^^ 4294967295) ^^^ (z ^^^ 4294967295) = x ^^^ y ^^^ z ^^^ 4294967295 ^^^ (4294967295 ^^^ 4294967295) := by ac_rfl
  rw [e, Nat.xor_self, Nat.xor_zero]

/-- The reference's round: the register and the byte apart. -/
theorem apart_step (r c : Nat) : (if (r + c) % 2 = 1 then (r / 2) ^^^ 2197175160 else r / 2) ^^^ c / 2 = stp (r ^^^ c) := by
  unfold stp
  rw [xor_mod2, xor_div2]
  split
  · rw [Nat.xor_assoc, Nat.xor_comm 2197175160, ← Nat.xor_assoc]
  · rfl

/-- A number's four bytes turned about. -/
def rev4 (x : Nat) : Nat := x % 256 * 16777216 + x / 256 % 256 * 65536 + x / 65536 % 256 * 256 + x / 16777216 % 256
theorem rev4_lt (x : Nat) : rev4 x < 4294967296 := by unfold rev4; omega
theorem and_mask (x : Nat) (h : x < 4294967296) : x &&& 16711935 = x % 256 + x / 65536 % 256 * 65536 := by
  have e : (16711935 : Nat) = 255 ||| (255 <<< 16) := by decide
  rw [e, Nat.and_or_distrib_left, show (255 : Nat) = 2 ^ 8 - 1 from rfl, Nat.and_two_pow_sub_one_eq_mod]
  have e2 : x &&& (2 ^ 8 - 1) <<< 16 = (x / 65536 % 256) <<< 16 := by
    apply Nat.eq_of_testBit_eq
    intro i
    rw [Nat.testBit_and, Nat.testBit_shiftLeft, Nat.testBit_shiftLeft]
    by_cases hi : 16 ≤ i
    · simp only [ge_iff_le, hi, decide_true, Bool.true_and]
      rw [show (256 : Nat) = 2 ^ 8 from rfl, Nat.testBit_mod_two_pow, Nat.testBit_two_pow_sub_one, show x / 65536 = x >>> 16 from by rw [Nat.shiftRight_eq_div_pow], Nat.testBit_shiftRight, show 16 + (i - 16) = i from by omega]
      exact Bool.and_comm _ _
    · simp [hi]
  rw [e2, Nat.or_comm, ← Nat.shiftLeft_add_eq_or_of_lt (by omega), Nat.shiftLeft_eq]
  omega
theorem or_low (i hi lo : Nat) (h : lo < 2 ^ i) : hi * 2 ^ i ||| lo = hi * 2 ^ i + lo := by
  have := Nat.shiftLeft_add_eq_or_of_lt h hi
  rw [Nat.shiftLeft_eq] at this
  exact this.symm
theorem or_join (i x y lo : Nat) (h : lo < 2 ^ i) : (x * 2 ^ i ||| lo) ||| y * 2 ^ i = (x ||| y) * 2 ^ i + lo := by
  have e : (x ||| y) * 2 ^ i = x * 2 ^ i ||| y * 2 ^ i := by rw [← Nat.shiftLeft_eq, ← Nat.shiftLeft_eq, ← Nat.shiftLeft_eq, Nat.shiftLeft_or_distrib]
  rw [← or_low i _ _ h, e, Nat.or_assoc, Nat.or_assoc, Nat.or_comm lo]
theorem rev_half (a b c d : Nat) (ha : a < 256) (hb : b < 256) (hc : c < 256) (hd : d < 256) : (c + d * 65536) ||| (a * 256 + b * 16777216) = c + a * 256 + d * 65536 + b * 16777216 := by
  have k1 : (b * 65536 + a) * 256 = a * 256 + b * 16777216 := by omega
  have k2 : b * 256 * 256 + a = b * 65536 + a := Nat.le_antisymm (by omega) (by omega)
  have k3 : d * 256 * 256 + c = c + d * 65536 := Nat.le_antisymm (by omega) (by omega)
  have k4 : ((b * 256 + d) * 256 + a) * 256 + c = c + a * 256 + d * 65536 + b * 16777216 := Nat.le_antisymm (by omega) (by omega)
  have e1 := or_low 8 (d * 256) c (by omega)
  have e2 := or_join 8 (d * 256) (b * 65536 + a) c (by omega)
  have e3 := or_low 8 (b * 256) a (by omega)
  have e4 := or_join 8 (b * 256) d a (by omega)
  have e5 := or_low 8 b d (by omega)
  rw [e1] at e2
  rw [e3] at e4
  simp only [Nat.reducePow] at *
  rw [e5] at e4
  rw [k1, k3, Nat.or_comm (d * 256)] at e2
  rw [k2] at e4
  rw [e4, k4] at e2
  exact e2
/-- What bits.ReverseBytes32 tells. -/
theorem rev4_code (x y : Nat) (h : x < 4294967296) (hy : y = (x / 256 &&& 16711935) ||| (x &&& 16711935) * 256 % 4294967296) :
    (y / 65536 ||| y * 65536 % 4294967296) = rev4 x := by
  obtain ⟨a, b, c, d, ha, hb, hc, hd, rfl⟩ : ∃ a b c d, a < 256 ∧ b < 256 ∧ c < 256 ∧ d < 256 ∧ x = a + c * 256 + b * 65536 + d * 16777216 :=
    ⟨x % 256, x / 65536 % 256, x / 256 % 256, x / 16777216, by omega, by omega, by omega, by omega, by omega⟩
  have q2 : (a + c * 256 + b * 65536 + d * 16777216) / 256 = c + b * 256 + d * 65536 := by omega
  have q3 : (a + c * 256 + b * 65536 + d * 16777216) / 65536 = b + d * 256 := by omega
  have q4 : (a + c * 256 + b * 65536 + d * 16777216) / 16777216 = d := by omega
  have p1 : (a + c * 256 + b * 65536 + d * 16777216) % 256 = a := by omega
  have p2 : (a + c * 256 + b * 65536 + d * 16777216) / 256 % 256 = c := by rw [q2]; omega
  have p3 : (a + c * 256 + b * 65536 + d * 16777216) / 65536 % 256 = b := by rw [q3]; omega
  have p4 : (a + c * 256 + b * 65536 + d * 16777216) / 16777216 % 256 = d := by rw [q4]; omega
  have p5 : (a + c * 256 + b * 65536 + d * 16777216) / 256 / 65536 % 256 = d := by rw [q2]; omega
  rw [and_mask _ (by omega), and_mask _ h, p1, p2, p3, p5, show (a + b * 65536) * 256 % 4294967296 = a * 256 + b * 16777216 from by omega, rev_half a b c d ha hb hc hd] at hy
  have e1 : y * 65536 % 4294967296 = (a * 256 + c) * 2 ^ 16 := by rw [hy]; omega
  have e2 : y / 65536 = b * 256 + d := by rw [hy]; omega
  have k5 : (a * 256 + c) * 65536 + (b * 256 + d) = a * 16777216 + c * 65536 + b * 256 + d := by omega
  have e3 := or_low 16 (a * 256 + c) (b * 256 + d) (by omega)
  rw [e1, e2, Nat.or_comm, e3]
  unfold rev4
  rw [p1, p2, p3, p4]
  simp only [Nat.reducePow]
  exact k5
def sealF (l : List UInt8) : List UInt8 := l ++ be (rev4 (csum l)) 4
def openB (l : List UInt8) : Bool := decide (4 ≤ l.length ∧ num (l.drop (l.length - 4)) = rev4 (csum (l.take (l.length - 4))))
def openL (l : List UInt8) : List UInt8 := if openB l = true then l.take (l.length - 4) else []
theorem num_be4 (x : Nat) (h : x < 4294967296) : num (be x 4) = x := by rw [num_be]; exact Nat.mod_eq_of_lt h
theorem sealF_len (l : List UInt8) : (sealF l).length = l.length + 4 := by simp [sealF, be_length]
theorem open_sealB (l : List UInt8) : openB (sealF l) = true := by
  simp only [openB, sealF_len, decide_eq_true_eq]
  refine ⟨by omega, ?_⟩
  rw [show l.length + 4 - 4 = l.length from by omega, sealF, List.drop_left, List.take_left, num_be4 _ (rev4_lt _)]
theorem open_sealL (l : List UInt8) : openL (sealF l) = l := by
  rw [openL, if_pos (open_sealB l), sealF_len, show l.length + 4 - 4 = l.length from by omega, sealF, List.take_left]
theorem seal_open (l : List UInt8) (h : openB l = true) : sealF (openL l) = l := by
  rw [openL, if_pos h]
  simp only [openB, decide_eq_true_eq] at h
  have h4 : be (num (l.drop (l.length - 4))) 4 = l.drop (l.length - 4) := by
    have := be_num (l.drop (l.length - 4))
    rwa [List.length_drop, show l.length - (l.length - 4) = 4 from by omega] at this
  rw [sealF, ← h.2, h4]
  exact List.take_append_drop _ _
end Go.Proofs.YtoepfdmloeiobaaDoor
