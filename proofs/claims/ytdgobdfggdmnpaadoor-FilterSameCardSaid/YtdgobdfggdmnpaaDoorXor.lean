/- A number with its last bit turned is another one. No program is named here. -/
import Derived.WalkKit
namespace Go.Proofs.YtdgobdfggdmnpaaDoor
theorem xor1_turn (k : IntKind) (x : Int) (hw : ∀ n : Int, BitVec.ofInt k.bits (k.wrap n) = BitVec.ofInt k.bits n) (h1 : BitVec.ofInt k.bits 1 ≠ 0) : bits .xor k x 1 ≠ x := by
  intro h
  have e : BitVec.ofInt k.bits (bits .xor k x 1) = BitVec.ofInt k.bits x ^^^ BitVec.ofInt k.bits 1 := by
    unfold bits
    rw [hw]
    simp only [BitVec.ofInt_natCast, BitVec.ofNat_toNat, BitVec.setWidth_eq]
  rw [h] at e
  apply h1
  have e2 := congrArg (fun b => BitVec.ofInt k.bits x ^^^ b) e
  simp only [BitVec.xor_self, ← BitVec.xor_assoc, BitVec.zero_xor] at e2
  exact e2.symm
theorem xor1_i32 (x : Int) : bits .xor .i32 x 1 ≠ x := xor1_turn .i32 x (fun n => by
  apply BitVec.eq_of_toNat_eq
  simp only [BitVec.toNat_ofInt, IntKind.wrap, IntKind.bits, IntKind.signed]
  simp
  try omega) (by decide)
theorem xor1_u8 (x : Int) : bits .xor .u8 x 1 ≠ x := xor1_turn .u8 x (fun n => by
  apply BitVec.eq_of_toNat_eq
  simp only [BitVec.toNat_ofInt, IntKind.wrap, IntKind.bits, IntKind.signed]
  simp
  try omega) (by decide)
theorem xor1_u16 (x : Int) : bits .xor .u16 x 1 ≠ x := xor1_turn .u16 x (fun n => by
  apply BitVec.eq_of_toNat_eq
  simp only [BitVec.toNat_ofInt, IntKind.wrap, IntKind.bits, IntKind.signed]
  simp
  try omega) (by decide)
theorem xor1_u32 (x : Int) : bits .xor .u32 x 1 ≠ x := xor1_turn .u32 x (fun n => by
  apply BitVec.eq_of_toNat_eq
  simp only [BitVec.toNat_ofInt, IntKind.wrap, IntKind.bits, IntKind.signed]
  simp
  try omega) (by decide)
end Go.Proofs.YtdgobdfggdmnpaaDoor
