/- From the listed variable to the walks' fact; a span that comes in. -/
import Derived.Test.YtofphdodihbijaaDoorSp
import Derived.Test.YtofphdodihbijaaDoorRows
import Derived.Lib.LaidTab
import Derived.LaidMore
import Derived.ProofKit
import Derived.OpenShut
namespace Go.Proofs.YtofphdodihbijaaDoor
open Go.RowKit Go.ChangeShapes Go.WideShapes
theorem tab_of_laid {W : World} (h : laidMetH Tryd.prog [("grapevine/span.empty", Rows.laid_grapevine_span_empty)] W) : Tab W := by
  rw [MakeChecks.laidMetH_plain _ _ _ (by kernel_rfl)] at h
  obtain ⟨ps, ⟨g', t', cs, fuel, p, q, hg', ht', hvar, hd, _, _⟩, _⟩ := h
  have hg : Tryd.prog.globalNamed "grapevine/span.empty" = some 0 := by kernel_rfl
  obtain rfl := Option.some.inj (hg.symm.trans hg')
  have hty : (Tryd.prog.globals[0]?).map (·.type) = some 23 := by kernel_rfl
  obtain rfl := Option.some.inj (hty.symm.trans ht')
  obtain ⟨y0, y1, n, hx, hl, h0, h1⟩ := trod_struct2 Tryd.underlying23 hd
  obtain ⟨l⟩ := cs
  have hl' : l.length = 2 := hl.trans (by kernel_rfl)
  match l, hl' with
  | [u0, u1], _ =>
    rw [show Tryd.prog.cellsOf 21 = 1 by kernel_rfl] at h0 h1
    obtain ⟨z0, e0, a0, w0⟩ := DataW.trod_int Tryd.underlying21 h0
    obtain ⟨z1, e1, a1, w1⟩ := DataW.trod_int Tryd.underlying21 h1
    simp at e0 e1
    subst e0 e1 a0 a1
    simp [Rows.laid_grapevine_span_empty] at hx
    obtain ⟨⟨rfl, rfl⟩, _⟩ := hx
    have c0 := World.var?_cell hg hvar 0
    have c1 := World.var?_cell hg hvar 1
    exact ⟨by simpa using c0, by simpa using c1, World.block_lt_of_cell? W _ c0⟩
section
variable {H : Type} {enc : TypeId × Value → H} {w : World} {held : Bool}
/-- A span that comes in: two numbers in their range. -/
theorem open_sp {r : Reach} {b0 : Nat} {v : Value} {d : DataW H} {p : List MemPlace} (hv : Value.okWide Tryd.prog w r b0 23 v) (h : DataW.Trod enc Tryd.prog w 0 (fun _ => true) held 23 v d p) :
    ∃ s : Int × Int, v = .agg #[.int .i32 s.1, .int .i32 s.2] ∧ inR s := by
  obtain ⟨cs, rfl, hsz⟩ := okWide_struct Tryd.underlying23 hv
  have hsz' : cs.size = 2 := hsz.trans (by kernel_rfl)
  obtain ⟨fuel, hf⟩ := h
  obtain ⟨y0, y1, n, _, hl, h0, h1⟩ := trod_struct2 Tryd.underlying23 hf
  obtain ⟨l⟩ := cs
  match l, hsz' with
  | [u0, u1], _ =>
    rw [show Tryd.prog.cellsOf 21 = 1 by kernel_rfl] at h0 h1
    obtain ⟨z0, e0, _, w0⟩ := DataW.trod_int Tryd.underlying21 h0
    obtain ⟨z1, e1, _, w1⟩ := DataW.trod_int Tryd.underlying21 h1
    simp [Value.cells] at e0 e1
    subst e0 e1
    exact ⟨(z0, z1), rfl, wf_i32 w0, wf_i32 w1⟩
end
end Go.Proofs.YtofphdodihbijaaDoor
