/- append of a slice that may be empty, onto a slice of the call's own. No program is named here. -/
import Derived.Test.YtdkchiodepdclaaGn
namespace Go.Proofs.Ytdkchiodepdclaa
open Go.RowKit
set_option linter.unusedVariables false
theorem Ows.lit0 (w : World) (E : TypeId) (s : Nat) : Ows (w.alloc (.cells #[] E)) w.heap.size E s (some ⟨w.heap.size, 0, none⟩) 0 0 [] :=
  ⟨by simp, .inr ⟨w.heap.size, 0, #[], rfl, Nat.le_refl _, heap_alloc_new w _, Nat.le_refl _, by simp [maxLen], by simp, by simp⟩⟩
theorem Ows.mono {w : World} {B B' : Nat} {E : TypeId} {s : Nat} {A : Option Addr} {n c : Nat} {xs : List Value} (h : Ows w B E s A n c xs) (hB : B' ≤ B) : Ows w B' E s A n c xs := by
  obtain ⟨h1, h2⟩ := h
  refine ⟨h1, ?_⟩
  rcases h2 with h2 | ⟨g, cap, cur, hv, hg, r⟩
  · exact .inl h2
  · exact .inr ⟨g, cap, cur, hv, by omega, r⟩
section
variable {P : Program} {ops : Array Oper} {rest : List Oper} {o : Oper} {a : Act} {w : World} {Q : Exit → Act → World → Prop}
/-- 'append(s, x...)' with nothing to append. -/
theorem wpList_apps0 (hgd : Region.wanted o (yielded ops a.tmps) = true) (s x : Operand) (t : TypeId) (ho : o.op = .call { callee := .builtin .append, args := #[s, x], argTypes := #[t, t] })
    {E : TypeId} {z : Value} {size by_ : Nat} (ht : P.underlying t = some (.slice E)) (hE : (P.info? E).map (fun i => (i.zero, i.size, i.bytes)) = some (some z, size, by_))
    {B : Nat} {A : Option Addr} {n c : Nat} {xs : List Value} (hs : a.eval s = .slice A n c) (hown : Ows w B E size A n c xs)
    {A' : Option Addr} {c' : Nat} (hx : a.eval x = .slice A' 0 c')
    (h : wpList P ops Q rest (a.put o.dst (.slice A n c)) w) :
    wpList P ops Q (o :: rest) a w := by
  obtain ⟨i, hi, hz0, hz1, hz2⟩ := info_parts hE
  have hrun : (Builtin.append_ #[t, t] o.type #[.slice A n c, .slice A' 0 c']).run P w = .ok (.slice A n c) w := by
    rcases hown.2 with ⟨hv, h0⟩ | ⟨g, cap, cur, hv, _, hg, hnc, _⟩
    · injection hv with e1 e2 e3
      subst e1 e2 e3
      cases A' <;> simp [Builtin.append_, run_underlying ht, sizeOf, typeInfo, hi, Builtin.lenOf, Builtin.firstCells, loadCells, loadCellsFrom]
    · injection hv with e1 e2 e3
      subst e1 e3
      cases A' <;> simp [Builtin.append_, run_underlying ht, sizeOf, typeInfo, hi, Builtin.lenOf, Builtin.firstCells, hnc, storeCells, loadCells, loadCellsFrom]
  refine wpList_run hgd (v := .slice A n c) (w' := w) ?_ h
  unfold execOp
  simp only [ho, resolve, invoke, builtin, Sem.run_bind, Sem.run_pure, Result.andThen_ok, List.map_toArray, List.map_cons, List.map_nil, hs, hx, hrun]
theorem wpList_appsx (hgd : Region.wanted o (yielded ops a.tmps) = true) (s x : Operand) (t : TypeId) (ho : o.op = .call { callee := .builtin .append, args := #[s, x], argTypes := #[t, t] })
    {E : TypeId} {z : Value} {size by_ : Nat} (ht : P.underlying t = some (.slice E)) (hE : (P.info? E).map (fun i => (i.zero, i.size, i.bytes)) = some (some z, size, by_)) (hz : z.cells.size = size) (hsz : 0 < size)
    {B : Nat} {A : Option Addr} {n c : Nat} {xs : List Value} (hs : a.eval s = .slice A n c) (hown : Ows w B E size A n c xs)
    {k : Nat} {A' : Option Addr} {m c' : Nat} {ys : List Value} (hx : a.eval x = .slice A' m c') (hsv : Sn w k size A' m c' ys) (h1 : ∀ u ∈ ys, u.oneCell' = true)
    (hb : (n + m) * by_ ≤ 140737488355328) (hby : 1 ≤ by_) (hB : B ≤ w.heap.size)
    (h : ∀ (A2 : Option Addr) (c2 : Nat) (w' : World), Ows w' B E size A2 (n + m) c2 (xs ++ ys) → w.grownBy w' (Value.ownBlock (.slice A n c)) → wpList P ops Q rest (a.put o.dst (.slice A2 (n + m) c2)) w') :
    wpList P ops Q (o :: rest) a w := by
  rcases Nat.eq_zero_or_pos m with hm | hm
  · subst hm
    have hys : ys = [] := List.eq_nil_of_length_eq_zero (by rw [hsv.len]; simp)
    subst hys
    refine wpList_apps0 hgd s x t ho ht hE hs hown hx ?_
    simpa using h A c w (by simpa using hown) (World.grownBy.refl w _)
  · exact wpList_apps hgd s x t ho ht hE hz hsz hs hown hx hsv h1 hm hb hby hB h
end
theorem Sn.tail {P : Program} {w : World} {k s : Nat} {A : Option Addr} {n c : Nat} {xs : List Value} (h : Sn w k s A n c xs) {lo : Nat} (hl : lo ≤ n) (t E : TypeId) (ht : P.underlying t = some (.slice E)) (he : P.elem t = E) (hs : ∀ w' : World, (sizeOf E).run P w' = .ok s w') (kl : IntKind) (x : Int) (hx : x = (lo : Int)) :
    ∃ A2, (∀ w' : World, (Instr.slice t (.slice A n c) (some (.int kl x)) none none).run P w' = .ok (.slice A2 (n - lo) (c - lo)) w') ∧ Sn w k s A2 (n - lo) (c - lo) (xs.drop (lo * s)) := by
  refine ⟨_, fun w' => ?_, h.from_ hl⟩
  subst he hx
  rw [run_slice_l (P := P) w' t A n c ht kl (lo : Int) (by omega) (by omega), hs w']
  simp [Result.andThen, sliced]
end Go.Proofs.Ytdkchiodepdclaa
