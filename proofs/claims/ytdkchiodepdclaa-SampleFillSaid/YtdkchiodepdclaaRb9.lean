/- Layer 9: DescBounds. -/
import Derived.Test.YtdkchiodepdclaaRn
import Derived.Deep.CutRange
namespace Go.Proofs.Ytdkchiodepdclaa
open Go.RowKit
set_option linter.unusedVariables false
/-- What a view is known by. -/
structure Vw (w : World) (A : Option Addr) (n c : Nat) (vs : List (Dsc × Hd)) (me room : Int) : Prop where
  sds : Sds w A n c vs
  right : RightD (vs.map (·.1)) me room
  all : ∀ d ∈ vs.map (·.1), Fit1 d
theorem Vw.next {w w' : World} {A : Option Addr} {n c : Nat} {vs : List (Dsc × Hd)} {me room : Int} (h : Vw w A n c vs me room) (hb : Below w.heap.size w w') : Vw w' A n c vs me room := ⟨h.sds.next hb, h.right, h.all⟩
theorem Vw.fit {w : World} {A : Option Addr} {n c : Nat} {vs : List (Dsc × Hd)} {me room : Int} (h : Vw w A n c vs me room) (hr : room ≤ 1000) : Fit n vs := ⟨by have h1 := h.right.2.2.2; rw [List.length_map] at h1; have := h.sds.len; omega, fun x hx => h.all x.1 (List.mem_map.2 ⟨x, hx, rfl⟩)⟩
theorem Vw.put {w w' : World} {A A2 : Option Addr} {n c n2 c2 : Nat} {vs ps : List (Dsc × Hd)} {me room : Int} {d : Dsc} (h : Vw w A n c vs me room) (s : Sds w' A2 n2 c2 ps) (e : ps.map (·.1) = putD (vs.map (·.1)) d me room) (hd : Fit1 d) : Vw w' A2 n2 c2 ps me room := ⟨s, by rw [e]; exact right_put h.right d, fun f hf => by
  rw [e] at hf
  rcases put_mem h.right hf with rfl | hf
  · exact hd
  · exact h.all f hf⟩
theorem Vw.drop {w w' : World} {A A2 : Option Addr} {n c n2 c2 : Nat} {vs ps : List (Dsc × Hd)} {me room node : Int} (h : Vw w A n c vs me room) (s : Sds w' A2 n2 c2 ps) (e : ps.map (·.1) = dropD (vs.map (·.1)) node) : Vw w' A2 n2 c2 ps me room := ⟨s, by rw [e]; exact right_drop h.right node, fun f hf => by
  rw [e] at hf
  exact h.all f (dropD_mem.1 hf).1⟩
theorem Vw.older {w w' : World} {A A2 : Option Addr} {n c n2 c2 : Nat} {vs ps : List (Dsc × Hd)} {me room : Int} (h : Vw w A n c vs me room) (s : Sds w' A2 n2 c2 ps) (e : ps.map (·.1) = olderD (vs.map (·.1))) : Vw w' A2 n2 c2 ps me room := ⟨s, by rw [e]; exact right_older h.right, fun f hf => by
  rw [e] at hf
  obtain ⟨g, hg, rfl⟩ := List.mem_map.1 hf
  obtain ⟨⟨a, b, c⟩, l⟩ := h.all g hg
  refine ⟨⟨a, b, ?_⟩, l⟩
  unfold oldD; simp only; split <;> omega⟩
/-- What is known of a put. -/
theorem put_known {ds : List Dsc} {d : Dsc} {me room : Int} (hr : RightD ds me room) (hd : dscR d) (hall : ∀ e ∈ ds, Fit1 e) : ∃ kk : Int, findI (putD ds d me room) d.1 = kk ∧ -1 ≤ kk ∧ kk < ((putD ds d me room).length : Int) ∧
    (refuseD ds d me room = false → ∃ k : Nat, kk = k ∧ (putD ds d me room)[k]? = some d) ∧
    (refuseD ds d me room = true → (putD ds d me room = ds) ∧ (d.1 ≠ me → 0 < d.2.1 → kk < 0 → room ≤ (ds.length : Int)) ∧
      (∀ k : Nat, kk = k → ∃ e, (putD ds d me room)[k]? = some e ∧ d.1 ≠ me ∧ ¬ e.2.1 < d.2.1 ∧ (e.2.1 = d.2.1 → ¬ d.2.2.1 < e.2.2.1))) := by
  refine ⟨_, rfl, (findI_range _ _).1, (findI_range _ _).2, fun h => ?_, fun h => ?_⟩
  · obtain ⟨h1, h2⟩ := put_there hr h
    exact ⟨_, (Int.toNat_of_nonneg h1).symm, h2⟩
  · have e := put_yes h
    rw [e]
    obtain ⟨p1, p2, p3⟩ := put_kept hr h
    refine ⟨rfl, fun a b c => p1 a (by omega) c, fun k hk => ?_⟩
    obtain ⟨x, hx, hxd⟩ := findI_hit (ds := ds) (n := d.1) (by omega)
    have hm := List.mem_of_getElem? hx
    have hx2 : ds[k]? = some x := by rw [show k = (findI ds d.1).toNat by omega]; exact hx
    have hr1 := hr.1 x hm
    have hx0 := (hall x hm).1.2.1
    refine ⟨x, hx2, by rw [← hxd]; exact hr1.1, ?_, ?_⟩
    · rcases p2 x (by omega) hx with q | q
      · omega
      · have := hx0.1; omega
    · intro q
      have := p3 x (by omega) hx q (by have := hr1.2; omega)
      omega
end Go.Proofs.Ytdkchiodepdclaa
