/- What a call's arguments are: events and their ids. -/
import Derived.Test.YteofjhoemcjlnaaOpn
import Derived.Test.YteofjhoemcjlnaaSch8
namespace Go.Proofs.Yteofjhoemcjlnaa
open Go.RowKit Go.ChangeShapes Go.WideShapes Go.Deep Go.Joins
section
variable {H : Type} {enc : TypeId × Value → H} {w : World} {held : Bool}
theorem open_id {fuel : Nat} {cs : List Value} {x : DataW H × List MemPlace} (h : DataW.trod enc Try.prog w 0 (fun _ => true) held fuel 27 cs = some x) :
    ∃ n i s : Int, cs = [.int .u8 n, .int .u16 i, .int .u32 s] ∧ (Lit.int .u8 n).wf = true ∧ (Lit.int .u16 i).wf = true ∧ (Lit.int .u32 s).wf = true := by
  obtain ⟨y0, y1, y2, n, _, hl, h0, h1, h2⟩ := trod_struct3 Try.underlying27 h
  have hl' : cs.length = 3 := hl.trans (by kernel_rfl)
  match cs, hl' with
  | [u0, u1, u2], _ =>
    rw [show Try.prog.cellsOf 5 = 1 by kernel_rfl] at h0
    rw [show Try.prog.cellsOf 24 = 1 by kernel_rfl] at h1
    rw [show Try.prog.cellsOf 25 = 1 by kernel_rfl] at h2
    obtain ⟨z0, e0, _, w0⟩ := DataW.trod_int Try.underlying5 h0
    obtain ⟨z1, e1, _, w1⟩ := DataW.trod_int Try.underlying24 h1
    obtain ⟨z2, e2, _, w2⟩ := DataW.trod_int Try.underlying25 h2
    simp at e0 e1 e2
    subst e0 e1 e2
    exact ⟨z0, z1, z2, rfl, w0, w1, w2⟩
theorem open_event {r : Reach} {b0 : Nat} {v : Value} {d : DataW H} {p : List MemPlace} (hv : Value.okWide Try.prog w r b0 31 v) (h : DataW.Trod enc Try.prog w 0 (fun _ => true) held 31 v d p) :
    ∃ (e : Ev) (V : Option Addr) (vn vc : Nat) (D : Option Addr) (dn dc : Nat), v = .agg #[.int .u8 e.node, .int .u16 e.inc, .int .u32 e.seq, .slice V vn vc, .slice D dn dc] ∧ Si w w.heap.size V vn vc e.xs ∧ Sl w w.heap.size D dn dc e.l ∧
      ((Lit.int .u8 e.node).wf = true ∧ (Lit.int .u16 e.inc).wf = true ∧ (Lit.int .u32 e.seq).wf = true) ∧ ∀ z ∈ e.xs, (Lit.int .i32 z).wf = true := by
  obtain ⟨cs, rfl, hsz⟩ := okWide_struct Try.underlying31 hv
  have hsz' : cs.size = 5 := hsz.trans (by kernel_rfl)
  obtain ⟨fuel, hf⟩ := h
  obtain ⟨y0, y1, y2, n, _, hl, h0, h1, h2⟩ := trod_struct3 Try.underlying31 hf
  obtain ⟨l⟩ := cs
  match l, hsz' with
  | [u0, u1, u2, u3, u4], _ =>
    rw [show Try.prog.cellsOf 27 = 3 by kernel_rfl] at h0
    rw [show Try.prog.cellsOf 28 = 1 by kernel_rfl] at h1
    rw [show Try.prog.cellsOf 29 = 1 by kernel_rfl] at h2
    obtain ⟨n', i', s', e0, w0, w1, w2⟩ := open_id h0
    obtain ⟨V, vn, vc, xs, e1, s1, wx⟩ := open_nums Try.underlying28 Try.underlying21 (by kernel_rfl) h1
    obtain ⟨D, dn, dc, l, e2, s2⟩ := open_u8s Try.underlying29 Try.underlying5 (by kernel_rfl) h2
    simp [Value.cells] at e0 e1 e2
    obtain ⟨rfl, rfl, rfl⟩ := e0
    subst e1 e2
    exact ⟨⟨n', i', s', xs, l⟩, V, vn, vc, D, dn, dc, rfl, s1, s2, ⟨w0, w1, w2⟩, wx⟩
theorem open_span {fuel : Nat} {t : TypeId} {cs : List Value} {x : DataW H × List MemPlace} (ht : Try.prog.underlying t = some (.slice 44)) (h : DataW.trod enc Try.prog w 0 (fun _ => true) held fuel t cs = some x) :
    ∃ a len cap ps, cs = [.slice a len cap] ∧ Sp w w.heap.size a len cap ps ∧ ∀ p ∈ ps, (Lit.int .i32 p.1).wf = true ∧ (Lit.int .i32 p.2).wf = true :=
  open_spans ht Try.underlying44 Try.underlying21 Try.underlying21 rfl rfl (by kernel_rfl) (by kernel_rfl) (by kernel_rfl) h
end
end Go.Proofs.Yteofjhoemcjlnaa
