/- Layer 9: what a call's arguments are: descriptors, slices of them. -/
import Derived.Test.YtdkchiodepdclaaOpn
import Derived.Test.YtdkchiodepdclaaRw
namespace Go.Proofs.Ytdkchiodepdclaa
open Go.RowKit Go.ChangeShapes Go.WideShapes Go.Deep Go.Joins
section
variable {H : Type} {enc : TypeId × Value → H} {w : World} {held : Bool}
theorem open_filter {fuel : Nat} {cs : List Value} {x : DataW H × List MemPlace} (h : DataW.trod enc Try.prog w 0 (fun _ => true) held fuel 25 cs = some x) :
    ∃ a len cap ps, cs = [.slice a len cap] ∧ Sp w w.heap.size a len cap ps := by
  obtain ⟨a, len, cap, ps, h1, h2, _⟩ := open_spans Try.underlying25 Try.underlying52 Try.underlying21 Try.underlying21 rfl rfl (by kernel_rfl) (by kernel_rfl) (by kernel_rfl) h
  exact ⟨a, len, cap, ps, h1, h2⟩
theorem open_desc4 {fuel : Nat} {cs : List Value} {x : DataW H × List MemPlace} (h : DataW.trod enc Try.prog w 0 (fun _ => true) held fuel 27 cs = some x) :
    ∃ p : Dsc × Hd, cs = dcl p ∧ Fl w p ∧ dscR p.1 := by
  obtain ⟨y0, y1, y2, y3, n, _, hl, h0, h1, h2, h3⟩ := trod_struct4 Try.underlying27 h
  have hl' : cs.length = 4 := hl.trans (by kernel_rfl)
  match cs, hl' with
  | [u0, u1, u2, u3], _ =>
    rw [show Try.prog.cellsOf 5 = 1 by kernel_rfl] at h0 h2
    rw [show Try.prog.cellsOf 22 = 1 by kernel_rfl] at h1
    rw [show Try.prog.cellsOf 25 = 1 by kernel_rfl] at h3
    obtain ⟨z0, e0, _, w0⟩ := DataW.trod_int Try.underlying5 h0
    obtain ⟨z1, e1, _, w1⟩ := DataW.trod_int Try.underlying22 h1
    obtain ⟨z2, e2, _, w2⟩ := DataW.trod_int Try.underlying5 h2
    obtain ⟨a, len, cap, ps, e3, s3⟩ := open_filter h3
    simp at e0 e1 e2 e3
    subst e0 e1 e2 e3
    exact ⟨((z0, z1, z2, ps), (a, len, cap)), rfl, s3, wf_u8 w0, wf_u16 w1, wf_u8 w2⟩
theorem open_descv {r : Reach} {b0 : Nat} {v : Value} {d : DataW H} {p : List MemPlace} (hv : Value.okWide Try.prog w r b0 27 v) (h : DataW.Trod enc Try.prog w 0 (fun _ => true) held 27 v d p) :
    ∃ (x : Dsc) (hx : Hd), v = (.agg #[.int .u8 x.1, .int .u16 x.2.1, .int .u8 x.2.2.1, .slice hx.1 hx.2.1 hx.2.2]) ∧ Fl w (x, hx) ∧ dscR x := by
  obtain ⟨cs, rfl, hsz⟩ := okWide_struct Try.underlying27 hv
  obtain ⟨fuel, hf⟩ := h
  obtain ⟨⟨x, hx⟩, hcs, h1, h2⟩ := open_desc4 hf
  obtain ⟨l⟩ := cs
  simp [Value.cells] at hcs
  subst hcs
  exact ⟨x, hx, rfl, h1, h2⟩
theorem open_descs {fuel : Nat} {t : TypeId} {cs : List Value} {x : DataW H × List MemPlace} (ht : Try.prog.underlying t = some (.slice 27)) (h : DataW.trod enc Try.prog w 0 (fun _ => true) held fuel t cs = some x) :
    ∃ a len cap ps, cs = [.slice a len cap] ∧ Sds w a len cap ps ∧ ∀ p ∈ ps, dscR p.1 := by
  rcases open_slice ht h with ⟨hcs, _⟩ | ⟨a, len, cap, m, n, D, Pl, hcs, _, hl, hm, hmm, _, hi⟩
  · exact ⟨none, 0, 0, [], hcs, Sds.nil w, fun z hz => by cases hz⟩
  · have hmc : m = cap := by simpa using hmm
    subst hmc
    have key : ∀ i, i < m → ∃ p : Dsc × Hd, (w.cell? (a.add (i * 4)) = some (.int .u8 p.1.1) ∧ w.cell? ((a.add (i * 4)).add 1) = some (.int .u16 p.1.2.1) ∧ w.cell? ((a.add (i * 4)).add 2) = some (.int .u8 p.1.2.2.1) ∧ w.cell? ((a.add (i * 4)).add 3) = some (.slice p.2.1 p.2.2.1 p.2.2.2)) ∧ Fl w p ∧ dscR p.1 := fun i him => by
      obtain ⟨cs', hc, ht'⟩ := hi i him
      rw [show Try.prog.cellsOf 27 = 4 by kernel_rfl] at hc
      obtain ⟨_, hcl, hat⟩ := World.cells?_some hc
      obtain ⟨p, hp, hr⟩ := open_desc4 ht'
      have a0 := hat 0 (by omega)
      have a1 := hat 1 (by omega)
      have a2 := hat 2 (by omega)
      have a3 := hat 3 (by omega)
      have ea : (a.add (i * 4)).add 0 = a.add (i * 4) := by simp [Addr.add]
      rw [ea] at a0
      subst hp
      exact ⟨p, ⟨by simpa [dcl] using a0, by simpa [dcl] using a1, by simpa [dcl] using a2, by simpa [dcl] using a3⟩, hr⟩
    obtain ⟨f, hf⟩ := choose_lt key
    refine ⟨some a, len, m, (List.range len).map f, hcs, ⟨⟨by rw [dcs_length]; simp, hl, hm, fun hn => ?_⟩, fun p hp => ?_⟩, fun p hp => ?_⟩
    · have h0 := (hf 0 (by omega)).1.1
      have e0 : a.add (0 * 4) = a := by simp [Addr.add]
      rw [e0] at h0
      obtain ⟨b, off, rfl, hb⟩ := addr_of h0
      refine ⟨b, off, rfl, hb, fun j u hu => ?_⟩
      have hj : j < len * 4 := by
        rcases Nat.lt_or_ge j (len * 4) with h | h
        · exact h
        · rw [List.getElem?_eq_none (by rw [dcs_length]; simpa using h)] at hu; cases hu
      have hj2 : j / 4 < len := by omega
      have hp : ((List.range len).map f)[j / 4]? = some (f (j / 4)) := by simp [hj2]
      obtain ⟨s1, s2, s3, s4⟩ := dcs_at _ _ _ hp
      have hh := (hf (j / 4) (by omega)).1
      rw [Addr.add_lit] at hh
      rw [Addr.add_lit, Addr.add_lit, Addr.add_lit] at hh
      rcases (by omega : j = j / 4 * 4 ∨ j = j / 4 * 4 + 1 ∨ j = j / 4 * 4 + 2 ∨ j = j / 4 * 4 + 3) with e | e | e | e
      · rw [e] at hu ⊢
        rw [s1] at hu
        rw [← hu]; exact hh.1
      · rw [e] at hu ⊢
        rw [s2] at hu
        rw [← hu, ← Nat.add_assoc]; exact hh.2.1
      · rw [e] at hu ⊢
        rw [s3] at hu
        rw [← hu, ← Nat.add_assoc]; exact hh.2.2.1
      · rw [e] at hu ⊢
        rw [s4] at hu
        rw [← hu, ← Nat.add_assoc]; exact hh.2.2.2
    · obtain ⟨i, hi, rfl⟩ := List.mem_map.1 hp
      exact (hf i (by have := List.mem_range.1 hi; omega)).2.1
    · obtain ⟨i, hi, rfl⟩ := List.mem_map.1 hp
      exact (hf i (by have := List.mem_range.1 hi; omega)).2.2
end
end Go.Proofs.Ytdkchiodepdclaa
