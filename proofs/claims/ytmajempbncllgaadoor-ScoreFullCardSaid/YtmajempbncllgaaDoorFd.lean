/- Layer 5: filter.Copy; grapevinelaw05.two, Few. -/
import Derived.Test.YtmajempbncllgaaDoorFc
namespace Go.Proofs.YtmajempbncllgaaDoor
open Go.RowKit
set_option linter.unusedVariables false
theorem Ows.lit0 (w : World) (E : TypeId) (s : Nat) : Ows (w.alloc (.cells #[] E)) w.heap.size E s (some ⟨w.heap.size, 0, none⟩) 0 0 [] :=
  ⟨by simp, .inr ⟨w.heap.size, 0, #[], rfl, Nat.le_refl _, heap_alloc_new w _, Nat.le_refl _, by simp [maxLen], by simp, by simp⟩⟩
theorem Ows.mono {w : World} {B B' : Nat} {E : TypeId} {s : Nat} {A : Option Addr} {n c : Nat} {xs : List Value} (h : Ows w B E s A n c xs) (hB : B' ≤ B) : Ows w B' E s A n c xs := by
  obtain ⟨h1, h2⟩ := h
  refine ⟨h1, ?_⟩
  rcases h2 with h2 | ⟨g, cap, cur, hv, hg, r⟩
  · exact .inl h2
  · exact .inr ⟨g, cap, cur, hv, by omega, r⟩
section
variable {P : Program} {ops : Array Oper} {rest : List Oper} {o : Oper} {a : Act} {w : World} {Q : Exit → Act → World → Prop}
/-- 'append(s, x...)' with nothing to append. -/
theorem wpList_apps0 (hgd : Region.wanted o (yielded ops a.tmps) = true) (s x : Operand) (t : TypeId) (ho : o.op = .call { callee := .builtin .append, args := #[s, x], argTypes := #[t, t] })
    {E : TypeId} {z : Value} {size by_ : Nat} (ht : P.underlying t = some (.slice E)) (hE : (P.info? E).map (fun i => (i.zero, i.size, i.bytes)) = some (some z, size, by_))
    {B : Nat} {A : Option Addr} {n c : Nat} {xs : List Value} (hs : a.eval s = .slice A n c) (hown : Ows w B E size A n c xs)
    {A' : Option Addr} {c' : Nat} (hx : a.eval x = .slice A' 0 c')
    (h : wpList P ops Q rest (a.put o.dst (.slice A n c)) w) :
    wpList P ops Q (o :: rest) a w := by
  obtain ⟨i, hi, hz0, hz1, hz2⟩ := info_parts hE
  have hrun : (Builtin.append_ #[t, t] o.type #[.slice A n c, .slice A' 0 c']).run P w = .ok (.slice A n c) w := by
    rcases hown.2 with ⟨hv, h0⟩ | ⟨g, cap, cur, hv, _, hg, hnc, _⟩
    · injection hv with e1 e2 e3
      subst e1 e2 e3
      cases A' <;> simp [Builtin.append_, run_underlying ht, sizeOf, typeInfo, hi, Builtin.lenOf, Builtin.firstCells, loadCells, loadCellsFrom]
    · injection hv with e1 e2 e3
      subst e1 e3
      cases A' <;> simp [Builtin.append_, run_underlying ht, sizeOf, typeInfo, hi, Builtin.lenOf, Builtin.firstCells, hnc, storeCells, loadCells, loadCellsFrom]
  refine wpList_run hgd (v := .slice A n c) (w' := w) ?_ h
  unfold execOp
  simp only [ho, resolve, invoke, builtin, Sem.run_bind, Sem.run_pure, Result.andThen_ok, List.map_toArray, List.map_cons, List.map_nil, hs, hx, hrun]
theorem wpList_appsx (hgd : Region.wanted o (yielded ops a.tmps) = true) (s x : Operand) (t : TypeId) (ho : o.op = .call { callee := .builtin .append, args := #[s, x], argTypes := #[t, t] })
    {E : TypeId} {z : Value} {size by_ : Nat} (ht : P.underlying t = some (.slice E)) (hE : (P.info? E).map (fun i => (i.zero, i.size, i.bytes)) = some (some z, size, by_)) (hz : z.cells.size = size) (hsz : 0 < size)
    {B : Nat} {A : Option Addr} {n c : Nat} {xs : List Value} (hs : a.eval s = .slice A n c) (hown : Ows w B E size A n c xs)
    {k : Nat} {A' : Option Addr} {m c' : Nat} {ys : List Value} (hx : a.eval x = .slice A' m c') (hsv : Sn w k size A' m c' ys) (h1 : ∀ u ∈ ys, u.oneCell' = true)
    (hb : (n + m) * by_ ≤ 140737488355328) (hby : 1 ≤ by_) (hB : B ≤ w.heap.size)
    (h : ∀ (A2 : Option Addr) (c2 : Nat) (w' : World), Ows w' B E size A2 (n + m) c2 (xs ++ ys) → w.grownBy w' (Value.ownBlock (.slice A n c)) → wpList P ops Q rest (a.put o.dst (.slice A2 (n + m) c2)) w') :
    wpList P ops Q (o :: rest) a w := by
  rcases Nat.eq_zero_or_pos m with hm | hm
  · subst hm
    have hys : ys = [] := List.eq_nil_of_length_eq_zero (by rw [hsv.len]; simp)
    subst hys
    refine wpList_apps0 hgd s x t ho ht hE hs hown hx ?_
    simpa using h A c w (by simpa using hown) (World.grownBy.refl w _)
  · exact wpList_apps hgd s x t ho ht hE hz hsz hs hown hx hsv h1 hm hb hby hB h
end
def GaveO (ps : List (Int × Int)) (w : World) (e : Ending) (w' : World) : Prop := ∃ A c, e = .returned (.slice A ps.length c) ∧ Ows w' w.heap.size 36 2 A ps.length c (spl ps) ∧ Below w.heap.size w w'
theorem sclone_any (A : Option Addr) (n c : Nat) (l : List (Int × Int)) (w : World) (h : Sp w w.heap.size A n c l) (hn : n ≤ 1000000) :
    Calls Tryd.prog 37 #[.slice A n c] w (GaveO l w) := by
  have HL := sp_len h
  cases A with
  | none =>
    have hl : l = [] := by
      rcases Nat.eq_zero_or_pos n with h0 | h0
      · exact List.eq_nil_of_length_eq_zero (by omega)
      · obtain ⟨_, _, e, _⟩ := h.at_ h0; cases e
    subst hl
    obtain rfl : n = 0 := HL
    have hnil := fun w' : World => Lib.run_eql_slice_nil (P := Tryd.prog) w' 24 36 none 0 c 0 0 Tryd.underlying24
    go_enter Tryd.func37, Tryd.ntmps37
    go_wp2
    go_ret
    exact ⟨none, 0, rfl, Ows.nil _ _ _ _, Below.refl _ _⟩
  | some a =>
    rcases Nat.eq_zero_or_pos n with h0 | h0
    · have hl : l = [] := List.eq_nil_of_length_eq_zero (by omega)
      subst hl h0
      clear HL h
      have hnil := fun w' : World => Lib.run_eql_slice_nil (P := Tryd.prog) w' 24 36 (some a) 0 c 0 0 Tryd.underlying24
      go_enter Tryd.func37, Tryd.ntmps37
      go_wp2_with (at_builtin; go_must (refine wpList_apps0 rfl _ _ 24 rfl Tryd.underlying24 infoSpan rfl (Ows.lit0 _ 36 2) rfl ?_))
      go_ret
      exact ⟨_, _, rfl, Ows.lit0 _ _ _, below_lit _ _⟩
    · clear HL
      have hnil := fun w' : World => Lib.run_eql_slice_nil (P := Tryd.prog) w' 24 36 (some a) n c 0 0 Tryd.underlying24
      have HL := Lib.hid (sp_len h)
      go_enter Tryd.func37, Tryd.ntmps37
      go_wp2_with (at_builtin; go_must (refine wpList_apps rfl _ _ 24 rfl Tryd.underlying24 infoSpan rfl (by decide) rfl (Ows.lit0 _ 36 2) rfl (h.next (below_lit _ _)) (spl_one _) h0 (by omega) (by decide) (by simp) ?_); intro A1 c1 w1 o1 g1)
      go_ret
      rw [Nat.zero_add, List.nil_append] at o1
      exact ⟨A1, c1, congrArg (fun k => Ending.returned (.slice A1 k c1)) HL.out, by rw [← HL.out]; exact o1, ((Below.refl _ _).alloc (Nat.le_refl _) _).grown g1 (by simp) (Ows.lit0 _ 36 2).lt⟩
theorem copyF_any (A : Option Addr) (n c : Nat) (l : List (Int × Int)) (w : World) (h : Sp w w.heap.size A n c l) (hn : n ≤ 1000000) :
    Calls Tryd.prog 20 #[.slice A n c] w (GaveO l w) := by
  have HC := Lib.hid (sclone_any A n c l w h hn)
  clear h
  go_enter Tryd.func20, Tryd.ntmps20
  go_wp2_with fail
  refine HC.out.mono ?_
  rintro e w5 ⟨A1, c1, rfl, o1, b5⟩
  go_wp2
  go_ret
  exact ⟨A1, c1, rfl, o1, b5⟩
def twoL : List (Int × Int) := [(0, 9), (-5, 5)]
end Go.Proofs.YtmajempbncllgaaDoor
