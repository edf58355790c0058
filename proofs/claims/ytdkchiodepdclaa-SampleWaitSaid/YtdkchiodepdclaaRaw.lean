/- Layer 9: the chapter's examples. -/
import Derived.Test.YtdkchiodepdclaaRk
namespace Go.Proofs.Ytdkchiodepdclaa
open Go.RowKit
set_option linter.unusedVariables false
def tyX9 (ds : List Dsc) (n : Nat) : Ty := .pred (fun v u => ∃ A c, v = .slice A n c ∧ ∃ xs : List (Dsc × Hd), xs.map (·.1) = ds ∧ Sds u A n c xs) (fun _ _ _ ⟨A, c, h, xs, h1, h2⟩ hb => ⟨A, c, h, xs, h1, h2.next hb⟩)
abbrev LD : List Dsc := [(1, 1, 4, [(0, 1)]), (3, 1, 4, [(0, 1)])]
abbrev LL (h1 h3 : Hd) : List (Dsc × Hd) := [((1, 1, 4, [(0, 1)]), h1), ((3, 1, 4, [(0, 1)]), h3)]
theorem fitL (h1 h3 : Hd) : Fit 2 (LL h1 h3) := fit_of (ds := LD) rfl (by decide) (by simp [dscR])
/-- A filter below block k. -/
structure FlK (w : World) (k : Nat) (h : Hd) (ps : List (Int × Int)) : Prop where
  sn : Sn w k 2 h.1 h.2.1 h.2.2 (spl ps)
  le : k ≤ w.heap.size
theorem FlK.next {w w' : World} {k : Nat} {h : Hd} {ps : List (Int × Int)} (x : FlK w k h ps) (hb : Below w.heap.size w w') : FlK w' k h ps := ⟨x.sn.keep fun _ hp => hb.cell (Nat.lt_of_lt_of_le hp x.le), Nat.le_trans x.le hb.size⟩
theorem FlK.grown {w w' : World} {k g : Nat} {h : Hd} {ps : List (Int × Int)} (x : FlK w k h ps) (hg : w.grownBy w' (some g)) (hk : k ≤ g) : FlK w' k h ps := x.sn.below (belowG (Below.refl k w) hg x.le hk) |> fun s => ⟨s, Nat.le_trans x.le hg.size⟩
theorem FlK.fl {w : World} {k : Nat} {h : Hd} {ps : List (Int × Int)} (x : FlK w k h ps) : Sp w w.heap.size h.1 h.2.1 h.2.2 ps := x.sn.more x.le
theorem ods2 (w : World) {x y : Dsc × Hd} (hx : Fl (w.alloc (.cells #[.int .u8 x.1.1, .int .u16 x.1.2.1, .int .u8 x.1.2.2.1, .slice x.2.1 x.2.2.1 x.2.2.2, .int .u8 y.1.1, .int .u16 y.1.2.1, .int .u8 y.1.2.2.1, .slice y.2.1 y.2.2.1 y.2.2.2] 27)) x) (hy : Fl (w.alloc (.cells #[.int .u8 x.1.1, .int .u16 x.1.2.1, .int .u8 x.1.2.2.1, .slice x.2.1 x.2.2.1 x.2.2.2, .int .u8 y.1.1, .int .u16 y.1.2.1, .int .u8 y.1.2.2.1, .slice y.2.1 y.2.2.1 y.2.2.2] 27)) y) :
    Ods (w.alloc (.cells #[.int .u8 x.1.1, .int .u16 x.1.2.1, .int .u8 x.1.2.2.1, .slice x.2.1 x.2.2.1 x.2.2.2, .int .u8 y.1.1, .int .u16 y.1.2.1, .int .u8 y.1.2.2.1, .slice y.2.1 y.2.2.1 y.2.2.2] 27)) w.heap.size (some ⟨w.heap.size, 0, none⟩) 2 2 [x, y] :=
  ⟨⟨rfl, .inr ⟨w.heap.size, 2, _, rfl, Nat.le_refl _, heap_alloc_new w _, Nat.le_refl _, by decide, rfl, rfl⟩⟩, fun z hz => by simp at hz; rcases hz with rfl | rfl <;> assumption⟩
end Go.Proofs.Ytdkchiodepdclaa
