/- An array of three spans that comes in. -/
import Derived.Test.YtmajempbncllgaaDoorKc
import Derived.Test.YtmajempbncllgaaDoorFo
namespace Go.Proofs.YtmajempbncllgaaDoor
open Go.RowKit Go.ChangeShapes Go.WideShapes
section
variable {H : Type} {enc : TypeId × Value → H} {w : World} {held : Bool}
theorem open_two {m : Nat} {u0 u1 : Value} {x : DataW H × List MemPlace} (h : DataW.trod enc Tryd.prog w 0 (fun _ => true) held m 36 [u0, u1] = some x) :
    ∃ s : Int × Int, u0 = .int .i32 s.1 ∧ u1 = .int .i32 s.2 ∧ inR s := by
  obtain ⟨y0, y1, n, _, hl, h0, h1⟩ := trod_struct2 Tryd.underlying36 h
  rw [show Tryd.prog.cellsOf 21 = 1 by kernel_rfl] at h0 h1
  obtain ⟨z0, e0, _, w0⟩ := DataW.trod_int Tryd.underlying21 h0
  obtain ⟨z1, e1, _, w1⟩ := DataW.trod_int Tryd.underlying21 h1
  simp at e0 e1
  exact ⟨(z0, z1), e0, e1, wf_i32 w0, wf_i32 w1⟩
theorem open_arr3 {r : Reach} {b0 : Nat} {v : Value} {d : DataW H} {p : List MemPlace} (hv : Value.okWide Tryd.prog w r b0 37 v) (h : DataW.Trod enc Tryd.prog w 0 (fun _ => true) held 37 v d p) :
    ∃ p0 p1 p2 : Int × Int, v = arr3 p0 p1 p2 ∧ inR p0 ∧ inR p1 ∧ inR p2 := by
  have hu := Tryd.underlying37
  simp only [Value.okWide, hu] at hv
  obtain ⟨cs, rfl, hsz, _⟩ := hv
  have hsz' : cs.size = 6 := hsz.trans (by kernel_rfl)
  obtain ⟨fuel, hf⟩ := h
  obtain ⟨xs, m, _, _, _, hx, hi⟩ := DataW.trod_array hu hf
  rw [show Tryd.prog.cellsOf 36 = 2 by kernel_rfl] at hi
  obtain ⟨l⟩ := cs
  match l, hsz' with
  | [a0, a1, a2, a3, a4, a5], _ =>
    have g0 := hi 0 (by decide)
    have g1 := hi 1 (by decide)
    have g2 := hi 2 (by decide)
    rw [List.getElem?_eq_getElem (by omega)] at g0 g1 g2
    simp [Value.cells] at g0 g1 g2
    obtain ⟨s0, rfl, rfl, r0⟩ := open_two g0
    obtain ⟨s1, rfl, rfl, r1⟩ := open_two g1
    obtain ⟨s2, rfl, rfl, r2⟩ := open_two g2
    exact ⟨s0, s1, s2, rfl, r0, r1, r2⟩
end
end Go.Proofs.YtmajempbncllgaaDoor
