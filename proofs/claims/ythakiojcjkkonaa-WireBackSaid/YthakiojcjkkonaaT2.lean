import Derived.Test.YthakiojcjkkonaaRows
import Derived.Test.YthakiojcjkkonaaT1
import Derived.Test.YthakiojcjkkonaaNum
namespace Go.Proofs.Ythakiojcjkkonaa
open Go.RowKit
theorem or_byte (x : Nat) (u : UInt8) (hx : x < 72057594037927936) : bits .or .u64 ((x : Int) * 256) (u.toNat : Int) = ((x * 256 + u.toNat : Nat) : Int) := by
  have hu := u.toNat_lt
  have e : (x : Int) * 256 = ((x * 256 : Nat) : Int) := by omega
  rw [e, u64_or_nat _ _ (by omega) (by omega)]
  have := Nat.shiftLeft_add_eq_or_of_lt (i := 8) (b := u.toNat) (by omega) x
  rw [Nat.shiftLeft_eq] at this
  rw [show x * 256 = x * 2 ^ 8 from rfl, ← this]
theorem lit_int {k : IntKind} {a b : Int} (h : a = b) : Value.int k a = Value.int k b := by rw [h]

theorem number_any (A : Option Addr) (n c k : Nat) (l : List UInt8) (w : World) (h : Sl w k A n c l) (h8 : n ≤ 8) :
    Calls Try.prog 23 #[.slice A n c] w fun e w' => e = .returned (.int .u64 (num l : Nat)) ∧ w = w' := by
  have hl : n = l.length := by simpa using h.len
  have H := h.at_
  have HL : Hid (n = l.length) := hl
  clear hl h
  go_enter Try.func23, Try.ntmps23
  go_wp2
  go_loop [3, 7] (fun x i => ∃ j : Nat, j ≤ n ∧ i = .int .i64 j ∧ x = .int .u64 (num (l.take j) : Nat)) (fun _ i => n - (intOf i).toNat)
  case atStart => exact ⟨0, Nat.zero_le _, rfl, rfl⟩
  case round =>
    obtain ⟨j, hj, rfl, rfl⟩ := hrel
    by_cases hlt : j < n
    · obtain ⟨b, off, rfl, hb, hc⟩ := H (by omega)
      have hjl : j < l.length := by rw [← HL.out]; exact hlt
      have hcell : w.cell? ⟨b, off + j, none⟩ = some (.int .u8 ((l[j]).toNat : Nat)) := hc j _ (by simp [List.getElem?_eq_getElem hjl, Bv])
      have HS : Hid (num (l.take (j + 1)) = num (l.take j) * 256 + (l[j]).toNat) := num_take_succ l j hjl
      have hn : num (l.take j) < 72057594037927936 := num_take_lt l j 7 (by omega)
      have hu := (l[j]).toNat_lt
      clear hc H
      generalize num (l.take j) = x at *
      generalize l[j] = u at *
      clear hjl
      go_wp2
      go_round
      case rel => exact ⟨j + 1, by omega, by go_num, by rw [HS.out, or_byte x u hn]⟩
      case measure => simp [intOf]; omega
    · go_wp2
      go_ret
      exact ⟨by rw [List.take_of_length_le (by rw [← HL.out]; omega)]; rfl, rfl⟩

end Go.Proofs.Ythakiojcjkkonaa
