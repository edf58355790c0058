/- Layer 9: append that keeps what was appended to (elements of several cells); the law's one. -/
import Derived.Test.YtdkchiodepdclaaRq
namespace Go.Proofs.Ytdkchiodepdclaa
open Go.RowKit
set_option linter.unusedVariables false
section
variable {P : Program} {ops : Array Oper} {Q : Exit → Act → World → Prop} {o : Oper} {rest : List Oper} {a : Act} {w : World}
/-- What was appended to reads as it did. -/
theorem appends_keeps {t ty E : TypeId} {z : Value} {size by_ : Nat} (ht : P.underlying t = some (.slice E)) (hE : (P.info? E).map (fun i => (i.zero, i.size, i.bytes)) = some (some z, size, by_))
    {B : Nat} {A : Option Addr} {n c : Nat} {xs : List Value} (hown : Ows w B E size A n c xs) {b off m c' : Nat} {ys : List Value} (hm : ys.length = m * size) (hc : ∀ j u, ys[j]? = some u → w.cell? ⟨b, off + j, none⟩ = some u) (h1 : ∀ u ∈ ys, u.oneCell' = true)
    (h63 : n + m ≤ maxLen) (hb : (n + m) * by_ ≤ 140737488355328) {v' : Value} {w' : World} (hr : (Builtin.append_ #[t, t] ty #[.slice A n c, .slice (some ⟨b, off, none⟩) m c']).run P w = .ok v' w') : Ows w' B E size A n c xs := by
  obtain ⟨i, hi, hz0, hz1, hz2⟩ := info_parts hE
  simp only [maxLen] at h63
  have hl : ys.length = m * i.size := by rw [hz1, hm]
  have hnews : ∀ j u, ys[j]? = some u → w.cell? ((⟨b, off, none⟩ : Addr).add j) = some u := fun j u hu => by rw [Addr.add_lit]; exact hc j u hu
  refine ⟨hown.1, ?_⟩
  rcases hown.2 with h0 | ⟨g, cap, cur, hv, hB, hg, hnc, hcm, hcs, htake⟩
  · exact .inl h0
  · injection hv with e1 e2 e3
    subst e1 e3
    by_cases hroom : n + m ≤ c
    · have hfit : n * i.size + ys.length ≤ cur.size := by rw [hl, hcs, hz1, ← Nat.add_mul]; exact Nat.mul_le_mul_right _ hroom
      have hr2 := run_append_room (P := P) w t ty E i ht hi g n c cur hg ⟨b, off, none⟩ m c' ys hl hnews h1 hroom hfit
      rw [hr] at hr2
      injection hr2 with _ hw
      subst hw
      refine .inr ⟨g, c, _, rfl, hB, setRow_heap w g cur _ E _ hg, hnc, hcm, ?_, ?_⟩
      · simp only [List.size_toArray, List.length_append, List.length_take, List.length_drop, Array.length_toList]
        omega
      · rw [hz1] at *
        have hx : n * size ≤ cur.toList.length := by simp only [Array.length_toList]; omega
        rw [List.append_assoc, List.take_append_of_le_length (by rw [List.length_take]; omega), List.take_take, Nat.min_self, htake]
    · have holds : ∀ j u, xs[j]? = some u → w.cell? ((⟨g, 0, none⟩ : Addr).add j) = some u := hown.cells (g := g) rfl
      have hr2 := run_append_grow (P := P) w t ty E i z ht hi hz0 ⟨g, 0, none⟩ n c xs (by rw [hz1]; exact hown.1) holds ⟨b, off, none⟩ m c' ys hl hnews (by omega) (by omega) (growslice_fits (by omega) (by rw [hz2]; exact hb))
      rw [hr] at hr2
      injection hr2 with _ hw
      subst hw
      exact .inr ⟨g, c, cur, rfl, hB, by rw [heap_alloc_old w.drew _ (Array.getElem?_eq_some_iff.1 hg).1]; exact hg, hnc, hcm, hcs, htake⟩
theorem wpList_appsk (hgd : Region.wanted o (yielded ops a.tmps) = true) (s x : Operand) (t : TypeId) (ho : o.op = .call { callee := .builtin .append, args := #[s, x], argTypes := #[t, t] })
    {E : TypeId} {z : Value} {size by_ : Nat} (ht : P.underlying t = some (.slice E)) (hE : (P.info? E).map (fun i => (i.zero, i.size, i.bytes)) = some (some z, size, by_)) (hz : z.cells.size = size) (hsz : 0 < size)
    {B : Nat} {A : Option Addr} {n c : Nat} {xs : List Value} (hs : a.eval s = .slice A n c) (hown : Ows w B E size A n c xs)
    {k : Nat} {A' : Option Addr} {m c' : Nat} {ys : List Value} (hx : a.eval x = .slice A' m c') (hsv : Sn w k size A' m c' ys) (h1 : ∀ u ∈ ys, u.oneCell' = true) (hm : 0 < m)
    (hb : (n + m) * by_ ≤ 140737488355328) (hby : 1 ≤ by_) (hB : B ≤ w.heap.size)
    (h : ∀ (A2 : Option Addr) (c2 : Nat) (w' : World), Ows w' B E size A2 (n + m) c2 (xs ++ ys) → Ows w' B E size A n c xs → w.grownBy w' (Value.ownBlock (.slice A n c)) → wpList P ops Q rest (a.put o.dst (.slice A2 (n + m) c2)) w') :
    wpList P ops Q (o :: rest) a w := by
  obtain ⟨i, hi, hz0, hz1, hz2⟩ := info_parts hE
  have hlen := hsv.len
  have hmax : n + m ≤ maxLen := by
    have : (n + m) * 1 ≤ (n + m) * by_ := Nat.mul_le_mul_left _ hby
    simp only [maxLen]
    omega
  obtain ⟨b, off, rfl, _, hc⟩ := hsv.at_ hm
  refine wpList_want hgd fun K hK => ?_
  obtain ⟨v', w', hr, h2, h3, h4⟩ := run_append_own (P := P) w B t o.type E i z size by_ ht hi hz0 hz1 hz2 hz hsz (.slice A n c) n xs hown ⟨b, off, none⟩ m c' ys hlen
    (fun j u hu => by rw [Addr.add_lit]; exact hc j u hu) h1 hmax hb hB
  have hkeep := appends_keeps ht hE hown hlen hc h1 hmax hb hr
  obtain ⟨A2, c2, rfl⟩ := row_shape h2
  unfold Oper.wp execOp
  simp only [ho, resolve, invoke, builtin, Sem.run_bind, Sem.run_pure, Result.andThen_ok, List.map_toArray, List.map_cons, List.map_nil, hs, hx, hr]
  exact hK _ _ (h A2 c2 w' h2 hkeep h3)
end
/-- The descriptors of the chapter's examples. -/
def oneD (n a : Int) : Dsc := (n, 1, a, [(0, 1)])
theorem infoSl (w : World) : Ows (w.alloc (.cells #[.int .i32 0, .int .i32 1] 52)) w.heap.size 52 2 (some ⟨w.heap.size, 0, none⟩) 1 1 (spl [(0, 1)]) :=
  ⟨rfl, .inr ⟨w.heap.size, 1, _, rfl, Nat.le_refl _, heap_alloc_new w _, Nat.le_refl _, by decide, rfl, rfl⟩⟩
end Go.Proofs.Ytdkchiodepdclaa
