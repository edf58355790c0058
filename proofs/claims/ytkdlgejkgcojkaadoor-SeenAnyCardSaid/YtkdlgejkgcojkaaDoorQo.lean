/- Layer 8: what a call's arguments are: rows; numbers of one cell; the library's table. -/
import Derived.Test.YtkdlgejkgcojkaaDoorOi
import Derived.Test.YtkdlgejkgcojkaaDoorQd
import Derived.Test.YtkdlgejkgcojkaaDoorRows
import Derived.Lib.LaidTab
import Derived.LaidMore
import Derived.ProofKit
import Derived.OpenShut
namespace Go.Proofs.YtkdlgejkgcojkaaDoor
open Go.RowKit Go.ChangeShapes Go.WideShapes Go.Deep
theorem tab_of_laid {W : World} (h : laidMetH Tryd.prog [("math/bits.deBruijn64tab", Rows.laid_math_bits_deBruijn64tab)] W) : Tab W := by
  rw [MakeChecks.laidMetH_plain _ _ _ (by kernel_rfl)] at h
  have hT : Lib.TabIs Tryd.prog W "math/bits.deBruijn64tab" .u8 (Lib.deBruijn64tab.map fun (x : Nat) => (x : Int)) :=
    Lib.tabIs_of_head (g := 0) (by kernel_rfl) (by kernel_rfl) Tryd.underlying61 Tryd.underlying5 (by kernel_rfl) (by kernel_rfl) h
  have hall : TabAt 0 Lib.deBruijn64tab W := fun k hk => by
    have := hT.cell (g := 0) (by kernel_rfl) k (by simpa using hk)
    rw [this]
    congr 2
    simp [List.getD, List.getElem?_eq_getElem hk]
  exact ⟨hall, World.block_lt_of_cell? W _ (hall 0 (by decide))⟩
section
variable {H : Type} {enc : TypeId × Value → H} {w : World} {held : Bool}
theorem open_row3 {fuel : Nat} {cs : List Value} {x : DataW H × List MemPlace} (h : DataW.trod enc Tryd.prog w 0 (fun _ => true) held fuel 26 cs = some x) :
    ∃ p : Row3, cs = [.int .u16 p.1, .int .u32 p.2.1, .int .u64 p.2.2] ∧ rowR p := by
  obtain ⟨y0, y1, y2, n, _, hl, h0, h1, h2⟩ := trod_struct3 Tryd.underlying26 h
  have hl' : cs.length = 3 := hl.trans (by kernel_rfl)
  match cs, hl' with
  | [u0, u1, u2], _ =>
    rw [show Tryd.prog.cellsOf 22 = 1 by kernel_rfl] at h0
    rw [show Tryd.prog.cellsOf 23 = 1 by kernel_rfl] at h1
    rw [show Tryd.prog.cellsOf 24 = 1 by kernel_rfl] at h2
    obtain ⟨z0, e0, _, w0⟩ := DataW.trod_int Tryd.underlying22 h0
    obtain ⟨z1, e1, _, w1⟩ := DataW.trod_int Tryd.underlying23 h1
    obtain ⟨z2, e2, _, w2⟩ := DataW.trod_int Tryd.underlying24 h2
    simp at e0 e1 e2
    subst e0 e1 e2
    have := wf_u64 w2
    exact ⟨(z0, z1, z2), rfl, wf_u16 w0, wf_u32 w1, by show 0 ≤ z2; omega, by show z2 ≤ _; omega⟩
theorem open_rowv {r : Reach} {b0 : Nat} {v : Value} {d : DataW H} {p : List MemPlace} (hv : Value.okWide Tryd.prog w r b0 26 v) (h : DataW.Trod enc Tryd.prog w 0 (fun _ => true) held 26 v d p) :
    ∃ x : Row3, v = (.agg #[.int .u16 x.1, .int .u32 x.2.1, .int .u64 x.2.2]) ∧ rowR x := by
  obtain ⟨cs, rfl, hsz⟩ := okWide_struct Tryd.underlying26 hv
  obtain ⟨fuel, hf⟩ := h
  obtain ⟨x, hcs, hx⟩ := open_row3 hf
  obtain ⟨l⟩ := cs
  simp [Value.cells] at hcs
  subst hcs
  exact ⟨x, rfl, hx⟩
end
end Go.Proofs.YtkdlgejkgcojkaaDoor
