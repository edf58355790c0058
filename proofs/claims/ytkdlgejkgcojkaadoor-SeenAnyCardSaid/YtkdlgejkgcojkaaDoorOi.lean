/- What a call's arguments are: ids, slices of ids. -/
import Derived.Test.YtkdlgejkgcojkaaDoorOpn
import Derived.Test.YtkdlgejkgcojkaaDoorI
namespace Go.Proofs.YtkdlgejkgcojkaaDoor
open Go.RowKit Go.ChangeShapes Go.WideShapes Go.Deep
def idR (p : Id3) : Prop := (0 ≤ p.1 ∧ p.1 ≤ 255) ∧ (0 ≤ p.2.1 ∧ p.2.1 ≤ 65535) ∧ (0 ≤ p.2.2 ∧ p.2.2 ≤ 4294967295)
section
variable {H : Type} {enc : TypeId × Value → H} {w : World} {held : Bool}
theorem open_id3 {fuel : Nat} {cs : List Value} {x : DataW H × List MemPlace} (h : DataW.trod enc Tryd.prog w 0 (fun _ => true) held fuel 28 cs = some x) :
    ∃ p : Id3, cs = idv p ∧ idR p := by
  obtain ⟨y0, y1, y2, n, _, hl, h0, h1, h2⟩ := trod_struct3 Tryd.underlying28 h
  have hl' : cs.length = 3 := hl.trans (by kernel_rfl)
  match cs, hl' with
  | [u0, u1, u2], _ =>
    rw [show Tryd.prog.cellsOf 5 = 1 by kernel_rfl] at h0
    rw [show Tryd.prog.cellsOf 22 = 1 by kernel_rfl] at h1
    rw [show Tryd.prog.cellsOf 23 = 1 by kernel_rfl] at h2
    obtain ⟨z0, e0, _, w0⟩ := DataW.trod_int Tryd.underlying5 h0
    obtain ⟨z1, e1, _, w1⟩ := DataW.trod_int Tryd.underlying22 h1
    obtain ⟨z2, e2, _, w2⟩ := DataW.trod_int Tryd.underlying23 h2
    simp at e0 e1 e2
    subst e0 e1 e2
    exact ⟨(z0, z1, z2), rfl, wf_u8 w0, wf_u16 w1, wf_u32 w2⟩
theorem open_idv {r : Reach} {b0 : Nat} {v : Value} {d : DataW H} {p : List MemPlace} (hv : Value.okWide Tryd.prog w r b0 28 v) (h : DataW.Trod enc Tryd.prog w 0 (fun _ => true) held 28 v d p) :
    ∃ x : Id3, v = (.agg #[.int .u8 x.1, .int .u16 x.2.1, .int .u32 x.2.2]) ∧ idR x := by
  obtain ⟨cs, rfl, hsz⟩ := okWide_struct Tryd.underlying28 hv
  obtain ⟨fuel, hf⟩ := h
  obtain ⟨x, hcs, hx⟩ := open_id3 hf
  obtain ⟨l⟩ := cs
  simp [Value.cells] at hcs
  subst hcs
  exact ⟨x, rfl, hx⟩
theorem open_ids {fuel : Nat} {t : TypeId} {cs : List Value} {x : DataW H × List MemPlace} (ht : Tryd.prog.underlying t = some (.slice 28)) (h : DataW.trod enc Tryd.prog w 0 (fun _ => true) held fuel t cs = some x) :
    ∃ a len cap ps, cs = [.slice a len cap] ∧ Sd w w.heap.size a len cap ps ∧ ∀ p ∈ ps, idR p := by
  rcases open_slice ht h with ⟨hcs, _⟩ | ⟨a, len, cap, m, n, D, Pl, hcs, _, hl, hm, hmm, _, hi⟩
  · exact ⟨none, 0, 0, [], hcs, Sn.nil rfl, fun z hz => by cases hz⟩
  · have hmc : m = cap := by simpa using hmm
    subst hmc
    have key : ∀ i, i < m → ∃ p : Id3, w.cell? (a.add (i * 3)) = some (.int .u8 p.1) ∧ w.cell? ((a.add (i * 3)).add 1) = some (.int .u16 p.2.1) ∧ w.cell? ((a.add (i * 3)).add 2) = some (.int .u32 p.2.2) ∧ idR p := fun i him => by
      obtain ⟨cs', hc, ht'⟩ := hi i him
      rw [show Tryd.prog.cellsOf 28 = 3 by kernel_rfl] at hc
      obtain ⟨_, hcl, hat⟩ := World.cells?_some hc
      obtain ⟨p, hp, hr⟩ := open_id3 ht'
      have a0 := hat 0 (by omega)
      have a1 := hat 1 (by omega)
      have a2 := hat 2 (by omega)
      have ea : (a.add (i * 3)).add 0 = a.add (i * 3) := by simp [Addr.add]
      rw [ea] at a0
      subst hp
      exact ⟨p, by simpa [idv] using a0, by simpa [idv] using a1, by simpa [idv] using a2, hr⟩
    obtain ⟨f, hf⟩ := choose_lt key
    refine ⟨some a, len, m, (List.range len).map f, hcs, ⟨by rw [idl_length]; simp, hl, hm, fun hn => ?_⟩, fun p hp => ?_⟩
    · have h0 := (hf 0 (by omega)).1
      have e0 : a.add (0 * 3) = a := by simp [Addr.add]
      rw [e0] at h0
      obtain ⟨b, off, rfl, hb⟩ := addr_of h0
      refine ⟨b, off, rfl, hb, fun j u hu => ?_⟩
      have hj : j < len * 3 := by
        rcases Nat.lt_or_ge j (len * 3) with h | h
        · exact h
        · rw [List.getElem?_eq_none (by rw [idl_length]; simpa using h)] at hu; cases hu
      have hj2 : j / 3 < len := by omega
      have hp : ((List.range len).map f)[j / 3]? = some (f (j / 3)) := by simp [hj2]
      obtain ⟨s1, s2, s3⟩ := idl_at _ _ _ hp
      have hh := hf (j / 3) (by omega)
      rw [Addr.add_lit] at hh
      rw [Addr.add_lit, Addr.add_lit] at hh
      rcases (by omega : j = j / 3 * 3 ∨ j = j / 3 * 3 + 1 ∨ j = j / 3 * 3 + 2) with e | e | e
      · rw [e] at hu ⊢
        rw [s1] at hu
        rw [← hu]; exact hh.1
      · rw [e] at hu ⊢
        rw [s2] at hu
        rw [← hu, ← Nat.add_assoc]; exact hh.2.1
      · rw [e] at hu ⊢
        rw [s3] at hu
        rw [← hu, ← Nat.add_assoc]; exact hh.2.2.1
    · obtain ⟨i, hi, rfl⟩ := List.mem_map.1 hp
      exact (hf i (by have := List.mem_range.1 hi; omega)).2.2.2
end
end Go.Proofs.YtkdlgejkgcojkaaDoor
