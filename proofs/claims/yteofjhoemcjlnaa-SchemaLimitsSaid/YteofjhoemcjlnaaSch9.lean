/- Layer 3: contracts over events. -/
import Derived.Test.YteofjhoemcjlnaaSch8
namespace Go.Proofs.Yteofjhoemcjlnaa
open Go.RowKit
set_option linter.unusedVariables false
def eventB (ps : List (Int × Int)) (e : Ev) : Bool := fitsB ps e.xs && namedB e.node e.inc e.seq && decide (e.l.length ≤ 64)
theorem event_any (A : Option Addr) (n c : Nat) (ps : List (Int × Int)) (v : Value) (e : Ev) (w : World) (h : Sp w w.heap.size A n c ps) (hr : ∀ p ∈ ps, p.1 ≤ p.2) (hv : EvR w v e) :
    Calls Try.prog 20 #[.slice A n c, v] w fun r w' => r = .returned (.bool (eventB ps e)) ∧ Below w.heap.size w w' := by
  obtain ⟨V, vn, vc, D, dn, dc, rfl, h1, h2⟩ := hv
  have HV : Hid (Si w w.heap.size V vn vc e.xs) := h1
  have HL : Hid (dn = e.l.length) := sl_len h2
  have HS : Hid (Sp w w.heap.size A n c ps) := h
  have HR : Hid (∀ p ∈ ps, p.1 ≤ p.2) := hr
  have hb0 := Go.Joins.below_alloc1 w (.cells #[.int .u8 e.node, .int .u16 e.inc, .int .u32 e.seq, .slice V vn vc, .slice D dn dc] 31)
  have K0 : Hid ((w.alloc (.cells #[.int .u8 e.node, .int .u16 e.inc, .int .u32 e.seq, .slice V vn vc, .slice D dn dc] 31)).heap[w.heap.size]? = some (.cells #[.int .u8 e.node, .int .u16 e.inc, .int .u32 e.seq, .slice V vn vc, .slice D dn dc] 31 (0, 0))) := heap_alloc_new w _
  have hz : w.heap.size < (w.alloc (.cells #[.int .u8 e.node, .int .u16 e.inc, .int .u32 e.seq, .slice V vn vc, .slice D dn dc] 31)).heap.size := by simp
  clear h1 h2 h hr
  go_enter Try.func20, Try.ntmps20
  go_wp2_with fail
  have F := fits_any _ _ _ _ ps _ _ _ _ e.xs (w.alloc (.cells #[.int .u8 e.node, .int .u16 e.inc, .int .u32 e.seq, .slice V vn vc, .slice D dn dc] 31)) (HS.out.next hb0) (Nat.le_refl _) (HV.out.next hb0) (Nat.le_refl _) HR.out
  generalize w.alloc (.cells #[.int .u8 e.node, .int .u16 e.inc, .int .u32 e.seq, .slice V vn vc, .slice D dn dc] 31) = W at *
  refine F.mono ?_
  clear F
  rintro r w1 ⟨rfl, b1⟩
  have k1 := (b1.block w.heap.size hz).trans K0.out
  have hz1 := b1.size
  have bb := hb0.trans (b1.mono hb0.size)
  obtain ⟨c0, c1, c2, c3, c4⟩ := ev_cells k1
  have K1 := Lib.hid k1
  clear k1
  cases hf : fitsB ps e.xs with
  | false =>
    have HF : Hid (eventB ps e = false) := by unfold Hid eventB; rw [hf]; rfl
    clear hf
    go_wp2
    go_ret
    exact ⟨ret_bool HF.out.symm, bb⟩
  | true =>
    have HF : Hid (eventB ps e = (namedB e.node e.inc e.seq && decide (e.l.length ≤ 64))) := by unfold Hid eventB; rw [hf]; rfl
    clear hf
    go_wp2_with fail
    refine (named_any e.node e.inc e.seq w1).mono ?_
    rintro r w2 ⟨rfl, b2⟩
    have k2 := (b2.block w.heap.size (by omega)).trans K1.out
    have bb2 := bb.trans (b2.mono (by omega))
    obtain ⟨d0, d1, d2, d3, d4⟩ := ev_cells k2
    clear k2
    cases hg : namedB e.node e.inc e.seq with
    | false =>
      have HF2 : Hid (eventB ps e = false) := by unfold Hid; rw [HF.out, hg]; rfl
      clear hg
      go_wp2
      go_ret
      exact ⟨ret_bool HF2.out.symm, bb2⟩
    | true =>
      have HF2 : Hid (eventB ps e = decide (dn ≤ 64)) := by unfold Hid; rw [HF.out, hg, HL.out]; rfl
      clear hg
      go_wp2
      go_ret
      exact ⟨ret_bool (by rw [HF2.out]; exact decide_eq_decide.2 (by omega)), bb2⟩

theorem refEvent_any (A : Option Addr) (n c : Nat) (ps : List (Int × Int)) (v : Value) (e : Ev) (w : World) (h : Sp w w.heap.size A n c ps) (hv : EvR w v e) :
    Calls Try.prog 21 #[.slice A n c, v] w fun r w' => r = .returned (.bool (eventB ps e)) ∧ Below w.heap.size w w' := by
  obtain ⟨V, vn, vc, D, dn, dc, rfl, h1, h2⟩ := hv
  have HV : Hid (Si w w.heap.size V vn vc e.xs) := h1
  have HL : Hid (dn = e.l.length) := sl_len h2
  have HS : Hid (Sp w w.heap.size A n c ps) := h
  have hb0 := Go.Joins.below_alloc1 w (.cells #[.int .u8 e.node, .int .u16 e.inc, .int .u32 e.seq, .slice V vn vc, .slice D dn dc] 31)
  have K0 : Hid ((w.alloc (.cells #[.int .u8 e.node, .int .u16 e.inc, .int .u32 e.seq, .slice V vn vc, .slice D dn dc] 31)).heap[w.heap.size]? = some (.cells #[.int .u8 e.node, .int .u16 e.inc, .int .u32 e.seq, .slice V vn vc, .slice D dn dc] 31 (0, 0))) := heap_alloc_new w _
  have hz : w.heap.size < (w.alloc (.cells #[.int .u8 e.node, .int .u16 e.inc, .int .u32 e.seq, .slice V vn vc, .slice D dn dc] 31)).heap.size := by simp
  clear h1 h2 h
  go_enter Try.func21, Try.ntmps21
  go_wp2_with fail
  have F := refFits_any _ _ _ _ ps _ _ _ _ e.xs (w.alloc (.cells #[.int .u8 e.node, .int .u16 e.inc, .int .u32 e.seq, .slice V vn vc, .slice D dn dc] 31)) (HS.out.next hb0) (Nat.le_refl _) (HV.out.next hb0) (Nat.le_refl _)
  generalize w.alloc (.cells #[.int .u8 e.node, .int .u16 e.inc, .int .u32 e.seq, .slice V vn vc, .slice D dn dc] 31) = W at *
  refine F.mono ?_
  clear F
  rintro r w1 ⟨rfl, b1⟩
  have k1 := (b1.block w.heap.size hz).trans K0.out
  have hz1 := b1.size
  have bb := hb0.trans (b1.mono hb0.size)
  obtain ⟨c0, c1, c2, c3, c4⟩ := ev_cells k1
  clear k1
  cases hf : fitsB ps e.xs with
  | false =>
    have HF : Hid (eventB ps e = false) := by unfold Hid eventB; rw [hf]; rfl
    clear hf
    go_wp2
    go_ret
    exact ⟨ret_bool HF.out.symm, bb⟩
  | true =>
    have HF : Hid (eventB ps e = (namedB e.node e.inc e.seq && decide (dn ≤ 64))) := by unfold Hid eventB; rw [hf, HL.out]; rfl
    clear hf
    go_wp2
    all_goals
      go_ret
      refine ⟨ret_bool ?_, bb⟩
      rw [HF.out, Bool.eq_iff_iff]
      simp only [namedB, Bool.and_eq_true, decide_eq_true_eq, Bool.false_eq_true, false_iff]
      omega

def sameB (e f : Ev) : Bool := (decide (e.node = f.node) && decide (e.inc = f.inc) && decide (e.seq = f.seq)) && decide (e.xs = f.xs) && (e.l == f.l)
end Go.Proofs.Yteofjhoemcjlnaa
