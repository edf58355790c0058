/- Walks of CrcTells and CrcParts. -/
import Derived.Test.YtoepfdmloeiobaaDoorCrc2
import Derived.Test.YtoepfdmloeiobaaDoorCrcTab
namespace Go.Proofs.YtoepfdmloeiobaaDoor
open Go.RowKit
set_option linter.unusedVariables false

set_option maxHeartbeats 400000 in
theorem tells_any (s : Nat) (A : Option Addr) (n c : Nat) (l : List UInt8) (w : World) (h : Sl w w.heap.size A n c l) (hT : Tab w) (hs : s < 4294967296) (hn : (n : Int) ≤ 300) :
    Calls Tryd.prog 3 #[.int .u32 s, .slice A n c] w fun e w' => e = .returned (.bool true) ∧ Below w.heap.size w w' := by
  have E : Env w [(A, n, c, l.map Bv)] := (Env.nil w).add h
  have hB := Below.refl w.heap.size w
  have HT : Hid (Tab w) := hT
  have hs' : (s : Int) ≤ 4294967295 := by omega
  clear h hT
  go_enter Tryd.func3, Tryd.ntmps3
  go_wp2_with (first
    | (go_at_call 8; go_must (refine (open_any _ _ _ l _ (E.of (by repeat (first | exact List.Mem.head _ | apply List.Mem.tail))) HT.out (by omega)).mono ?_); rintro e w1 ⟨A1, c1, rfl, o1, b1⟩; replace E := (E.next b1).add o1.sv; replace hB := thn hB b1; replace HT : Hid (Tab w1) := HT.out.next b1; clear b1 o1)
    | (go_at_call 9; go_must (refine (refOpen_any _ _ _ l _ (E.of (by repeat (first | exact List.Mem.head _ | apply List.Mem.tail))) (by omega)).mono ?_); rintro e w1 ⟨A1, c1, rfl, o1, b1⟩; replace E := (E.next b1).add o1.sv; replace hB := thn hB b1; replace HT : Hid (Tab w1) := HT.out.next b1; clear b1 o1)
    | (go_at_call 10; go_must (refine (sum_any _ _ _ _ l _ (E.of (by repeat (first | exact List.Mem.head _ | apply List.Mem.tail))) HT.out).mono ?_); rintro e w1 ⟨rfl, rfl⟩)
    | (go_at_call 11; go_must (refine (refSum_any _ _ _ _ l _ (E.of (by repeat (first | exact List.Mem.head _ | apply List.Mem.tail)))).mono ?_); rintro e w1 ⟨rfl, rfl⟩)
    | (go_at_call 12; go_must (refine (more_any _ _ _ _ _ l _ (E.of (by repeat (first | exact List.Mem.head _ | apply List.Mem.tail))) HT.out hs).mono ?_); rintro e w1 ⟨rfl, rfl⟩)
    | (go_at_call 13; go_must (refine (refMore_any _ _ _ _ _ l _ (E.of (by repeat (first | exact List.Mem.head _ | apply List.Mem.tail))) hs).mono ?_); rintro e w1 ⟨rfl, rfl⟩)
    | (go_at_call 15; go_must (refine (seal_made _ _ _ _ l _ (E.of (by repeat (first | exact List.Mem.head _ | apply List.Mem.tail))) (Nat.le_refl _) HT.out (by omega)).mono ?_); rintro e w1 ⟨A1, c1, rfl, o1, b1⟩; replace E := (E.next b1).add o1.sv; replace hB := thn hB b1; replace HT : Hid (Tab w1) := HT.out.next b1; clear b1 o1)
    | (go_at_call 16; go_must (refine (refSeal_made _ _ _ _ l _ (E.of (by repeat (first | exact List.Mem.head _ | apply List.Mem.tail))) (Nat.le_refl _) (by omega)).mono ?_); rintro e w1 ⟨A1, c1, rfl, o1, b1⟩; replace E := (E.next b1).add o1.sv; replace hB := thn hB b1; replace HT : Hid (Tab w1) := HT.out.next b1; clear b1 o1)
    | (go_at_call 14; go_must (refine (same_eq _ _ _ _ _ _ _ _ _ _ _ (E.of (by repeat (first | exact List.Mem.head _ | apply List.Mem.tail))) (E.of (by repeat (first | exact List.Mem.head _ | apply List.Mem.tail))) rfl).mono ?_); rintro e w1 ⟨rfl, rfl⟩)
    | (go_at_call 7; go_must (refine (awake_any _ HT.out).mono ?_); rintro e w1 ⟨rfl, b1⟩; replace hB := thn hB b1; clear b1))
  go_ret
  exact ⟨rfl, hB⟩
theorem tells_full (s : Int) (A : Option Addr) (n c : Nat) (l : List UInt8) (w : World) (h : Sl w w.heap.size A n c l) (hT : Tab w) (hs : 0 ≤ s ∧ s ≤ 4294967295) :
    Calls Tryd.prog 3 #[.int .u32 s, .slice A n c] w fun e w' => e = .returned (.bool true) ∧ Below w.heap.size w w' := by
  by_cases hn : 300 < (n : Int)
  · clear hs
    go_enter Tryd.func3, Tryd.ntmps3
    go_wp2_with (go_at_call 7; go_must (refine (awake_any _ hT).mono ?_); rintro e w1 ⟨rfl, b1⟩)
    go_ret
    exact ⟨rfl, b1⟩
  · obtain ⟨s, rfl⟩ := Int.eq_ofNat_of_zero_le hs.1
    exact tells_any s A n c l w h hT (by omega) (by omega)
end Go.Proofs.YtoepfdmloeiobaaDoor
