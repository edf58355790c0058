/- What a call's arguments are: slices of numbers, of bytes, of pairs of numbers. No program is named here. -/
import Derived.Test.YtdkchiodepdclaaGs
import Derived.ProofKit
import Derived.OpenShut
namespace Go.Proofs.Ytdkchiodepdclaa
open Go.RowKit Go.ChangeShapes Go.WideShapes Go.Deep
section
variable {H : Type} {enc : TypeId × Value → H} {P : Program} {w : World} {held : Bool} {fuel : Nat} {t e : TypeId} {cs : List Value} {x : DataW H × List MemPlace}
theorem addr_of {w : World} {a : Addr} {v : Value} (h : w.cell? a = some v) : ∃ b off, a = ⟨b, off, none⟩ ∧ b < w.heap.size := by
  obtain ⟨b, off, spot⟩ := a
  have hspot : spot = none := World.cell?_spot h
  subst hspot
  exact ⟨b, off, rfl, World.block_lt_of_cell? w _ h⟩
theorem open_nums {k : IntKind} (ht : P.underlying t = some (.slice e)) (he : P.underlying e = some (.int k)) (hc : P.cellsOf e = 1) (h : DataW.trod enc P w 0 (fun _ => true) held fuel t cs = some x) :
    ∃ a len cap zs, cs = [.slice a len cap] ∧ Sv w w.heap.size a len cap (Nl k zs) ∧ ∀ z ∈ zs, (Lit.int k z).wf = true := by
  rcases open_ints ht he hc h with ⟨hcs, _⟩ | ⟨a, len, cap, zs, hcs, _, hl, hm, hz, _, hcell, hwf⟩
  · exact ⟨none, 0, 0, [], hcs, Sv.nil rfl, fun z hz => by cases hz⟩
  · have hz' : zs.length = cap := by simpa using hz
    refine ⟨some a, len, cap, zs.take len, hcs, ⟨by simp [Nl]; omega, hl, hm, fun hn => ?_⟩, fun z hz => hwf z (List.mem_of_mem_take hz)⟩
    have h0 := hcell 0 (by omega)
    have e0 : a.add 0 = a := by simp [Addr.add]
    rw [e0] at h0
    obtain ⟨b, off, rfl, hb⟩ := addr_of h0
    refine ⟨b, off, rfl, hb, fun j u hu => ?_⟩
    have hj : j < len := by
      rcases Nat.lt_or_ge j len with h | h
      · exact h
      · rw [List.getElem?_eq_none (by simp [Nl]; omega)] at hu; cases hu
    have hjz : j < zs.length := by omega
    have h1 := hcell j hjz
    rw [Addr.add_lit] at h1
    rw [h1, ← hu]
    unfold Nl
    rw [List.getElem?_map, List.getElem?_take, if_pos hj, List.getElem?_eq_getElem hjz]
    simp [List.getD, List.getElem?_eq_getElem hjz]
theorem open_u8s (ht : P.underlying t = some (.slice e)) (he : P.underlying e = some (.int .u8)) (hc : P.cellsOf e = 1) (h : DataW.trod enc P w 0 (fun _ => true) held fuel t cs = some x) :
    ∃ a len cap l, cs = [.slice a len cap] ∧ Sl w w.heap.size a len cap l := by
  obtain ⟨a, len, cap, zs, hcs, hs, hw⟩ := open_nums ht he hc h
  refine ⟨a, len, cap, zs.map fun z => UInt8.ofNat z.toNat, hcs, ?_⟩
  have : Nl .u8 zs = (zs.map fun z => UInt8.ofNat z.toNat).map Bv := by
    unfold Nl
    rw [List.map_map]
    refine List.map_congr_left fun z hz => ?_
    have := wf_u8 (hw z hz)
    simp only [Function.comp, Bv, UInt8.toNat_ofNat']
    congr 1
    omega
  rw [this] at hs
  exact hs
theorem open_spans {f0 f1 : Field} (ht : P.underlying t = some (.slice e)) (he : P.underlying e = some (.struct #[f0, f1])) (k0 : P.underlying f0.type = some (.int .i32)) (k1 : P.underlying f1.type = some (.int .i32))
    (o0 : f0.offset = 0) (o1 : f1.offset = 1) (c0 : P.cellsOf f0.type = 1) (c1 : P.cellsOf f1.type = 1) (hC : P.cellsOf e = 2) (h : DataW.trod enc P w 0 (fun _ => true) held fuel t cs = some x) :
    ∃ a len cap ps, cs = [.slice a len cap] ∧ Sp w w.heap.size a len cap ps ∧ ∀ p ∈ ps, (Lit.int .i32 p.1).wf = true ∧ (Lit.int .i32 p.2).wf = true := by
  rcases open_slice ht h with ⟨hcs, _⟩ | ⟨a, len, cap, m, n, D, Pl, hcs, _, hl, hm, hmm, _, hi⟩
  · exact ⟨none, 0, 0, [], hcs, Sn.nil rfl, fun z hz => by cases hz⟩
  · have hmc : m = cap := by simpa using hmm
    subst hmc
    have key : ∀ i, i < m → ∃ p : Int × Int, w.cell? (a.add (i * 2)) = some (.int .i32 p.1) ∧ w.cell? ((a.add (i * 2)).add 1) = some (.int .i32 p.2) ∧ (Lit.int .i32 p.1).wf = true ∧ (Lit.int .i32 p.2).wf = true := fun i him => by
      obtain ⟨cs', hc, ht'⟩ := hi i him
      rw [hC] at hc
      obtain ⟨_, hcl, hat⟩ := World.cells?_some hc
      obtain ⟨y0, y1, n', _, _, h0, h1⟩ := trod_struct2 he ht'
      rw [o0, c0] at h0
      rw [o1, c1] at h1
      obtain ⟨z0, e0, _, w0⟩ := DataW.trod_int k0 h0
      obtain ⟨z1, e1, _, w1⟩ := DataW.trod_int k1 h1
      match cs', hcl with
      | [u0, u1], _ =>
        simp at e0 e1
        subst e0 e1
        have a0 := hat 0 (by omega)
        have a1 := hat 1 (by omega)
        have ea : (a.add (i * 2)).add 0 = a.add (i * 2) := by simp [Addr.add]
        rw [ea] at a0
        exact ⟨(z0, z1), by simpa using a0, by simpa using a1, w0, w1⟩
    obtain ⟨f, hf⟩ := choose_lt key
    refine ⟨some a, len, m, (List.range len).map f, hcs, ⟨by rw [spl_length]; simp, hl, hm, fun hn => ?_⟩, fun p hp => ?_⟩
    · have h0 := (hf 0 (by omega)).1
      have e0 : a.add (0 * 2) = a := by simp [Addr.add]
      rw [e0] at h0
      obtain ⟨b, off, rfl, hb⟩ := addr_of h0
      refine ⟨b, off, rfl, hb, fun j u hu => ?_⟩
      have hj : j < len * 2 := by
        rcases Nat.lt_or_ge j (len * 2) with h | h
        · exact h
        · rw [List.getElem?_eq_none (by rw [spl_length]; simpa using h)] at hu; cases hu
      have hj2 : j / 2 < len := by omega
      have hp : ((List.range len).map f)[j / 2]? = some (f (j / 2)) := by simp [hj2]
      obtain ⟨s1, s2⟩ := spl_at _ _ _ hp
      have hh := hf (j / 2) (by omega)
      rw [Addr.add_lit] at hh
      rcases Nat.mod_two_eq_zero_or_one j with hz | hz
      · have ej : j / 2 * 2 = j := by omega
        rw [ej] at s1 hh
        rw [hu] at s1
        injection s1 with s1
        rw [s1]
        exact hh.1
      · have ej : j / 2 * 2 + 1 = j := by omega
        rw [ej] at s2
        rw [hu] at s2
        injection s2 with s2
        have h3 := hh.2.1
        rw [Addr.add_lit, show off + j / 2 * 2 + 1 = off + j by omega] at h3
        rw [s2]
        exact h3
    · obtain ⟨i, hi', rfl⟩ := List.mem_map.1 hp
      have := hf i (by have := List.mem_range.1 hi'; omega)
      exact this.2.2
end
end Go.Proofs.Ytdkchiodepdclaa
