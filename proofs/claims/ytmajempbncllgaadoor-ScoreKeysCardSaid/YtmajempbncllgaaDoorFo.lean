/- From the listed variable to the walks' fact; filters and values that come in. -/
import Derived.Test.YtmajempbncllgaaDoorOpn
import Derived.Test.YtmajempbncllgaaDoorFp
import Derived.Test.YtmajempbncllgaaDoorRows
import Derived.Lib.LaidTab
import Derived.LaidMore
import Derived.ProofKit
import Derived.OpenShut
namespace Go.Proofs.YtmajempbncllgaaDoor
open Go.RowKit Go.ChangeShapes Go.WideShapes
theorem tab_of_laid {W : World} (h : laidMetH Tryd.prog [("grapevine/span.empty", Rows.laid_grapevine_span_empty)] W) : Tab W := by
  rw [MakeChecks.laidMetH_plain _ _ _ (by kernel_rfl)] at h
  obtain ⟨ps, ⟨g', t', cs, fuel, p, q, hg', ht', hvar, hd, _, _⟩, _⟩ := h
  have hg : Tryd.prog.globalNamed "grapevine/span.empty" = some 0 := by kernel_rfl
  obtain rfl := Option.some.inj (hg.symm.trans hg')
  have hty : (Tryd.prog.globals[0]?).map (·.type) = some 36 := by kernel_rfl
  obtain rfl := Option.some.inj (hty.symm.trans ht')
  obtain ⟨y0, y1, n, hx, hl, h0, h1⟩ := trod_struct2 Tryd.underlying36 hd
  obtain ⟨l⟩ := cs
  have hl' : l.length = 2 := hl.trans (by kernel_rfl)
  match l, hl' with
  | [u0, u1], _ =>
    rw [show Tryd.prog.cellsOf 21 = 1 by kernel_rfl] at h0 h1
    obtain ⟨z0, e0, a0, w0⟩ := DataW.trod_int Tryd.underlying21 h0
    obtain ⟨z1, e1, a1, w1⟩ := DataW.trod_int Tryd.underlying21 h1
    simp at e0 e1
    subst e0 e1 a0 a1
    simp [Rows.laid_grapevine_span_empty] at hx
    obtain ⟨⟨rfl, rfl⟩, _⟩ := hx
    have c0 := World.var?_cell hg hvar 0
    have c1 := World.var?_cell hg hvar 1
    exact ⟨by simpa using c0, by simpa using c1, World.block_lt_of_cell? W _ c0⟩
section
variable {H : Type} {enc : TypeId × Value → H} {w : World} {held : Bool}
theorem open_span {fuel : Nat} {t : TypeId} {cs : List Value} {x : DataW H × List MemPlace} (ht : Tryd.prog.underlying t = some (.slice 36)) (h : DataW.trod enc Tryd.prog w 0 (fun _ => true) held fuel t cs = some x) :
    ∃ a len cap ps, cs = [.slice a len cap] ∧ Sp w w.heap.size a len cap ps ∧ ∀ p ∈ ps, inR p := by
  obtain ⟨a, len, cap, ps, h1, h2, h3⟩ := Go.Proofs.YtmajempbncllgaaDoor.open_spans ht Tryd.underlying36 Tryd.underlying21 Tryd.underlying21 rfl rfl (by kernel_rfl) (by kernel_rfl) (by kernel_rfl) h
  exact ⟨a, len, cap, ps, h1, h2, fun p hp => ⟨wf_i32 (h3 p hp).1, wf_i32 (h3 p hp).2⟩⟩
end
end Go.Proofs.YtmajempbncllgaaDoor
