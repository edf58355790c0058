/- As in XAx, and where the new slice lies; for regions that draw (XReg8). No program is named here. -/
import Derived.Test.YtdkchiodepdclaaAx
import Derived.Test.YtdkchiodepdclaaReg8
import Derived.Maps.AppendAt
namespace Go.Proofs.Ytdkchiodepdclaa
open Go.RowKit
set_option linter.unusedVariables false
theorem Ows.near {w : World} {B : Nat} {E : TypeId} {s : Nat} {A : Option Addr} {n c : Nat} {xs : List Value} (h : Ows w B E s A n c xs) : ∀ g, Value.ownBlock (.slice A n c) = some g → B ≤ g ∧ g < w.heap.size := fun g hg => World.ownsRow.lt h g hg
theorem Ows.same {w w' : World} {B : Nat} {E : TypeId} {s : Nat} {A : Option Addr} {n c : Nat} {xs : List Value} (h : Ows w B E s A n c xs) (hs : ∀ g, Value.ownBlock (.slice A n c) = some g → w'.heap[g]? = w.heap[g]?) : Ows w' B E s A n c xs := by
  obtain ⟨h1, h2⟩ := h
  refine ⟨h1, ?_⟩
  rcases h2 with h2 | ⟨g, cap, cur, hv, hg, hh, r⟩
  · exact .inl h2
  · refine .inr ⟨g, cap, cur, hv, hg, ?_, r⟩
    rw [hs g (by rw [hv]; rfl)]; exact hh
theorem row_shape {W : World} {n0 e size : Nat} {v : Value} {k : Nat} {xs : List Value} (hr : W.ownsRow n0 e size v k xs) : ∃ A2 c2, v = .slice A2 k c2 := by
  rcases hr.2 with ⟨rfl, h0⟩ | ⟨g, cap, cur, rfl, _⟩
  · exact ⟨none, 0, by rw [h0]⟩
  · exact ⟨_, _, rfl⟩
/-- A slice of the call's own, as the type of a value of a region that draws. -/
def tyOws (n0 : Nat) (E : TypeId) (s : Nat) (xs : List Value) (n : Nat) : Tyo := .own (fun v w => ∃ A c, v = .slice A n c ∧ Ows w n0 E s A n c xs) (fun _ _ _ ⟨A, c, h, o⟩ hs => ⟨A, c, h, o.same (by rw [← h]; exact hs)⟩)
section
variable {P : Program} {ops : Array Oper} {rest : List Oper} {o : Oper} {a : Act} {w : World} {Q : Exit → Act → World → Prop}
/-- 'append(s, x...)', x maybe empty: the new slice, and where it lies. -/
theorem wpList_appsy (hgd : o.guard = none) (s x : Operand) (t : TypeId) (ho : o.op = .call { callee := .builtin .append, args := #[s, x], argTypes := #[t, t] })
    {E : TypeId} {z : Value} {size by_ : Nat} (ht : P.underlying t = some (.slice E)) (hE : (P.info? E).map (fun i => (i.zero, i.size, i.bytes)) = some (some z, size, by_)) (hz : z.cells.size = size) (hsz : 0 < size)
    {B : Nat} {A : Option Addr} {n c : Nat} {xs : List Value} (hs : a.eval s = .slice A n c) (hown : Ows w B E size A n c xs)
    {k : Nat} {A' : Option Addr} {m c' : Nat} {ys : List Value} (hx : a.eval x = .slice A' m c') (hsv : Sn w k size A' m c' ys) (h1 : ∀ u ∈ ys, u.oneCell' = true)
    (hb : (n + m) * by_ ≤ 140737488355328) (hby : 1 ≤ by_) (hB : B ≤ w.heap.size)
    (h : ∀ (A2 : Option Addr) (c2 : Nat) (w' : World), Ows w' B E size A2 (n + m) c2 (xs ++ ys) → w.grownBy w' (Value.ownBlock (.slice A n c)) → (∀ q, Value.ownBlock (.slice A2 (n + m) c2) = some q → Value.ownBlock (.slice A n c) = some q ∨ w.heap.size ≤ q) → wpList P ops Q rest (a.put o.dst (.slice A2 (n + m) c2)) w') :
    wpList P ops Q (o :: rest) a w := by
  rcases Nat.eq_zero_or_pos m with hm | hm
  · subst hm
    have hys : ys = [] := List.eq_nil_of_length_eq_zero (by rw [hsv.len]; simp)
    subst hys
    refine wpList_apps0 (by simp [Region.wanted, hgd]) s x t ho ht hE hs hown hx ?_
    simpa using h A c w (by simpa using hown) (World.grownBy.refl w _) (fun q hq => .inl (by simpa using hq))
  · obtain ⟨i, hi, hz0, hz1, hz2⟩ := info_parts hE
    obtain ⟨b, off, rfl, _, hc⟩ := hsv.at_ hm
    have hmax : n + m ≤ maxLen := by
      have : (n + m) * 1 ≤ (n + m) * by_ := Nat.mul_le_mul_left _ hby
      simp only [maxLen]
      omega
    refine wpList_append_own_at _ hgd s x t ho B E i z size by_ ht hi hz0 hz1 hz2 hz hsz (.slice A n c) n xs hs hown ⟨b, off, none⟩ m c' ys hx hsv.len (fun j u hu => by rw [Addr.add_lit]; exact hc j u hu) h1 hmax hb hB ?_
    intro v' w' h2 h3 _ h5
    obtain ⟨A2, c2, rfl⟩ := row_shape h2
    exact h A2 c2 w' h2 h3 fun q hq => by
      rcases h5 with h5 | h5
      · exact .inl (h5.symm.trans hq)
      · rw [h5] at hq; injection hq with hq; exact .inr (Nat.le_of_eq hq)
end
end Go.Proofs.Ytdkchiodepdclaa
