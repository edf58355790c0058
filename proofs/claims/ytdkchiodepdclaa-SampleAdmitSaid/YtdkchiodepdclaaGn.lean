/- append onto a slice of the call's own whose elements are several cells each. No program is named here. -/
import Derived.Test.YtdkchiodepdclaaGs
namespace Go.Proofs.Ytdkchiodepdclaa
open Go.RowKit
abbrev Ows (w : World) (B : Nat) (E : TypeId) (s : Nat) (A : Option Addr) (n c : Nat) (xs : List Value) : Prop := w.ownsRow B E s (.slice A n c) n xs
theorem Ows.below {w w' : World} {B : Nat} {E : TypeId} {s : Nat} {A : Option Addr} {n c : Nat} {xs : List Value} (h : Ows w B E s A n c xs) (hb : Below w.heap.size w w') : Ows w' B E s A n c xs := by
  obtain ⟨h1, h2⟩ := h
  refine ⟨h1, ?_⟩
  rcases h2 with h2 | ⟨g, cap, cur, hv, hg, hh, r⟩
  · exact .inl h2
  · exact .inr ⟨g, cap, cur, hv, hg, by rw [hb.block g (Array.getElem?_eq_some_iff.1 hh).1]; exact hh, r⟩
theorem Ows.lt {w : World} {B : Nat} {E : TypeId} {s : Nat} {A : Option Addr} {n c : Nat} {xs : List Value} (h : Ows w B E s A n c xs) : ∀ k, Value.ownBlock (.slice A n c) = some k → B ≤ k := fun k hk => (World.ownsRow.lt h k hk).1
theorem Ows.nil (w : World) (B : Nat) (E : TypeId) (s : Nat) : Ows w B E s none 0 0 [] := World.ownsRow_nil _ _ _ _
theorem Sn.lit_at (w : World) (cs : Array Value) (t : TypeId) (fr : Nat × Nat) (s n H : Nat) (hH : w.heap.size = H) (hn : cs.size = n * s) (hm : n ≤ maxLen) : Sn (w.alloc (.cells cs t fr)) (H + 1) s (some ⟨H, 0, none⟩) n n cs.toList := by
  subst hH; exact Sn.lit w cs t fr s n hn hm
theorem Sv.lit_at (w : World) (cs : Array Value) (t : TypeId) (fr : Nat × Nat) (n H : Nat) (hH : w.heap.size = H) (hn : cs.size = n) (hm : n ≤ maxLen) : Sv (w.alloc (.cells cs t fr)) (H + 1) (some ⟨H, 0, none⟩) n n cs.toList := by
  subst hH; exact Sv.lit w cs t fr n hn hm
section
variable {P : Program} {ops : Array Oper} {rest : List Oper} {o : Oper} {a : Act} {w : World} {Q : Exit → Act → World → Prop}
/-- 'append(s, x...)' onto a slice of the call's own, of at least one element of s cells. -/
theorem wpList_apps (hgd : Region.wanted o (yielded ops a.tmps) = true) (s x : Operand) (t : TypeId) (ho : o.op = .call { callee := .builtin .append, args := #[s, x], argTypes := #[t, t] })
    {E : TypeId} {z : Value} {size by_ : Nat} (ht : P.underlying t = some (.slice E)) (hE : (P.info? E).map (fun i => (i.zero, i.size, i.bytes)) = some (some z, size, by_)) (hz : z.cells.size = size) (hsz : 0 < size)
    {B : Nat} {A : Option Addr} {n c : Nat} {xs : List Value} (hs : a.eval s = .slice A n c) (hown : Ows w B E size A n c xs)
    {k : Nat} {A' : Option Addr} {m c' : Nat} {ys : List Value} (hx : a.eval x = .slice A' m c') (hsv : Sn w k size A' m c' ys) (h1 : ∀ u ∈ ys, u.oneCell' = true) (hm : 0 < m)
    (hb : (n + m) * by_ ≤ 140737488355328) (hby : 1 ≤ by_) (hB : B ≤ w.heap.size)
    (h : ∀ (A2 : Option Addr) (c2 : Nat) (w' : World), Ows w' B E size A2 (n + m) c2 (xs ++ ys) → w.grownBy w' (Value.ownBlock (.slice A n c)) → wpList P ops Q rest (a.put o.dst (.slice A2 (n + m) c2)) w') :
    wpList P ops Q (o :: rest) a w := by
  obtain ⟨i, hi, hz0, hz1, hz2⟩ := info_parts hE
  have hlen := hsv.len
  have hmax : n + m ≤ maxLen := by
    have : (n + m) * 1 ≤ (n + m) * by_ := Nat.mul_le_mul_left _ hby
    simp only [maxLen]
    omega
  have shape : ∀ (v' : Value) (w' : World), w'.ownsRow B E size v' (n + m) (xs ++ ys) → ∃ A2 c2, v' = .slice A2 (n + m) c2 := by
    rintro v' w' ⟨_, ⟨rfl, h0⟩ | ⟨g, cap, cur, rfl, _⟩⟩
    · exact ⟨none, 0, by rw [h0]⟩
    · exact ⟨_, _, rfl⟩
  obtain ⟨b, off, rfl, _, hc⟩ := hsv.at_ hm
  refine wpList_want hgd fun K hK => ?_
  obtain ⟨v', w', hr, h2, h3, h4⟩ := run_append_own (P := P) w B t o.type E i z size by_ ht hi hz0 hz1 hz2 hz hsz (.slice A n c) n xs hown ⟨b, off, none⟩ m c' ys hlen
    (fun j u hu => by rw [Addr.add_lit]; exact hc j u hu) h1 hmax hb hB
  unfold Oper.wp execOp
  simp only [ho, resolve, invoke, builtin, Sem.run_bind, Sem.run_pure, Result.andThen_ok, List.map_toArray, List.map_cons, List.map_nil, hs, hx, hr]
  obtain ⟨A2, c2, rfl⟩ := shape v' w' h2
  exact hK _ _ (h A2 c2 w' h2 h3)
end
end Go.Proofs.Ytdkchiodepdclaa
