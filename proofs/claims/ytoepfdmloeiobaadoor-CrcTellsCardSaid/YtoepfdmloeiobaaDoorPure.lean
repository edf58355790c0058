/- What the calls of layer 1 come to, on lists of bytes. -/
import Derived.Test.YtoepfdmloeiobaaDoorNum
namespace Go.Proofs.YtoepfdmloeiobaaDoor
def putF (l : List UInt8) (x : Nat) (m : Int) : List UInt8 := if 1 ≤ m ∧ m ≤ 8 then l ++ be x m.toNat else l
def takeB (l : List UInt8) (m : Int) : Bool := decide (1 ≤ m ∧ m ≤ 8 ∧ m ≤ (l.length : Int))
def takeN (l : List UInt8) (m : Int) : Nat := if takeB l m = true then num (l.take m.toNat) else 0
def takeR (l : List UInt8) (m : Int) : List UInt8 := if takeB l m = true then l.drop m.toNat else []
def putTextF (l t : List UInt8) : List UInt8 := if t.length ≤ 65535 then l ++ be t.length 2 ++ t else l
def textB (l : List UInt8) (m : Int) : Bool := decide (2 ≤ l.length ∧ (num (l.take 2) : Int) ≤ m ∧ num (l.take 2) ≤ l.length - 2)
def textT (l : List UInt8) (m : Int) : List UInt8 := if textB l m = true then (l.drop 2).take (num (l.take 2)) else []
def textR (l : List UInt8) (m : Int) : List UInt8 := if textB l m = true then (l.drop 2).drop (num (l.take 2)) else []
theorem putF_yes (l : List UInt8) (x : Nat) (m : Int) (h : 1 ≤ m ∧ m ≤ 8) : putF l x m = l ++ be x m.toNat := by simp [putF, h]
theorem putF_no (l : List UInt8) (x : Nat) (m : Int) (h : ¬ (1 ≤ m ∧ m ≤ 8)) : putF l x m = l := by simp [putF, h]
theorem takeB_yes {l : List UInt8} {m : Int} (h : takeB l m = true) : 1 ≤ m ∧ m ≤ 8 ∧ m ≤ (l.length : Int) := by simpa [takeB] using h
theorem takeB_no {l : List UInt8} {m : Int} (h : takeB l m = false) : ¬ (1 ≤ m ∧ m ≤ 8 ∧ m ≤ (l.length : Int)) := by simpa [takeB, Classical.not_and_iff_not_or_not] using h
theorem num_two (a b : UInt8) : num [a, b] = a.toNat * 256 + b.toNat := by simp [num]
end Go.Proofs.YtoepfdmloeiobaaDoor
