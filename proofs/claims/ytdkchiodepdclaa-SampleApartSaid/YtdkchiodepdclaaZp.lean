/- Layer 11: own lists whose ages and spans are written, five of them, beside a wait (SampleApart): plain facts. -/
import Derived.Test.YtdkchiodepdclaaRap
import Derived.Test.YtdkchiodepdclaaZb
namespace Go.Proofs.Ytdkchiodepdclaa
open Go.RowKit
set_option linter.unusedVariables false
theorem spl_setB : ∀ (f : List (Int × Int)) (j : Nat) (a : Int), ∃ f', (spl f).set (j * 2 + 1) (.int .i32 a) = spl f'
  | [], j, a => ⟨[], by simp [spl]⟩
  | p :: f, 0, a => ⟨(p.1, a) :: f, by simp [spl_cons]⟩
  | p :: f, j + 1, a => by
    obtain ⟨f', h⟩ := spl_setB f j a
    refine ⟨p :: f', ?_⟩
    rw [spl_cons, spl_cons, ← h, show (j + 1) * 2 + 1 = j * 2 + 1 + 1 + 1 by omega, List.set_cons_succ, List.set_cons_succ]
theorem DowE.spanB {w : World} {B g : Nat} {A : Option Addr} {n c : Nat} {hs : List Hd} (h : DowE w B A n c hs) (k : TBlk w g 52) (j : Nat) (v : Int) : DowE (w.setCell ⟨g, j * 2 + 1, none⟩ (.int .i32 v)) B A n c hs := by
  obtain ⟨zs, h1, h2⟩ := h
  obtain ⟨ys, e1, e2, e3⟩ := span_list (P := fun h f => Ows (w.setCell ⟨g, j * 2 + 1, none⟩ (.int .i32 v)) B 52 2 h.1 h.2.1 h.2.2 (spl f)) zs fun z hz => by
    rcases (h1.fo z hz).setany (g := g) (j * 2 + 1) (.int .i32 v) with h3 | h3
    · exact ⟨_, h3⟩
    · obtain ⟨f', e⟩ := spl_setB z.1.2.2.2 j v
      rw [e] at h3; exact ⟨f', h3⟩
  exact ⟨ys, ⟨by rw [e1]; exact h1.ow.offT k (by decide) _ _, e3⟩, e2.trans h2⟩
/-- The j-th span of a filter: its end. -/
theorem span_atB {w : World} {B : Nat} {A : Option Addr} {n c : Nat} {f : List (Int × Int)} (h : Ows w B 52 2 A n c (spl f)) {j : Nat} (hj : j < n) : ∃ (q : Nat) (p : Int × Int), A = some ⟨q, 0, none⟩ ∧ TBlk w q 52 ∧ B ≤ q ∧ w.cell? ⟨q, j * 2 + 1, none⟩ = some (.int .i32 p.2) ∧ w.frozen? ⟨q, j * 2 + 1, none⟩ = false := by
  have hs : Sp w w.heap.size A n c f := Sn.of_own h
  rcases h.2 with ⟨hv, h0⟩ | ⟨g, cap, cur, hv, hB, hh, r⟩
  · omega
  · injection hv with e; subst e
    obtain ⟨b, off, p, e, _, _, _, c1⟩ := sp_at hs hj
    injection e with e
    injection e with e1 e2
    subst e1 e2
    rw [Nat.zero_add] at c1
    exact ⟨_, p, rfl, ⟨cur, hh⟩, hB, c1, by simp [World.frozen?, hh]⟩
theorem WBlk.tblk {w : World} {g : Nat} {s : Wn} {h : Hd} (k : WBlk w g s h) : TBlk w g 31 := ⟨_, k⟩
/-- The five lists that the loops go over, and the wait beside them. -/
structure Five (w : World) (gl B gu : Nat) (hu : Hd) : Prop where
  blk : TBlk w gl 23
  all : ∀ j, j < 5 → ∃ A n c hs, w.cell? ⟨gl, j, none⟩ = some (.slice A n c) ∧ DowE w B A n c hs
  u : WBlk w gu wz hu
  ul : DowE w B hu.1 hu.2.1 hu.2.2 []
theorem Five.next {w w' : World} {gl B gu : Nat} {hu : Hd} (h : Five w gl B gu hu) (hb : Below w.heap.size w w') : Five w' gl B gu hu := by
  obtain ⟨⟨cur, hk⟩, ha, h3, h4⟩ := h
  have hl := (Array.getElem?_eq_some_iff.1 hk).1
  refine ⟨⟨cur, (hb.block gl hl).trans hk⟩, fun j hj => ?_, h3.next hb, h4.next hb⟩
  obtain ⟨A, n, c, hs, h1, h2⟩ := ha j hj
  exact ⟨A, n, c, hs, (hb.cell (p := ⟨gl, j, none⟩) hl).trans h1, h2.next hb⟩
theorem WBlk.off {w : World} {g b : Nat} {s : Wn} {h : Hd} (k : WBlk w g s h) (hne : g ≠ b) (i : Nat) (v : Value) : WBlk (w.setCell ⟨b, i, none⟩ v) g s h := by
  unfold WBlk; rw [Below.heap_setCell _ _ _ _ hne]; exact k
theorem Five.age {w : World} {gl B gu g : Nat} {hu : Hd} (h : Five w gl B gu hu) (k : TBlk w g 27) (j : Nat) (v : Int) : Five (w.setCell ⟨g, j * 4 + 2, none⟩ (.int .u8 v)) gl B gu hu := by
  have hne := tblk_ne h.blk k (by decide)
  refine ⟨h.blk.set _ _, fun i hi => ?_, h.u.off (tblk_ne h.u.tblk k (by decide)) _ _, h.ul.age k j v⟩
  obtain ⟨A, n, c, hs, h1, h2⟩ := h.all i hi
  exact ⟨A, n, c, hs, by rw [World.cell?_setCell_other _ _ _ _ (by simp)]; exact h1, h2.age k j v⟩
theorem Five.span {w : World} {gl B gu g : Nat} {hu : Hd} (h : Five w gl B gu hu) (k : TBlk w g 52) (j : Nat) (v : Int) : Five (w.setCell ⟨g, j * 2 + 1, none⟩ (.int .i32 v)) gl B gu hu := by
  have hne := tblk_ne h.blk k (by decide)
  refine ⟨h.blk.set _ _, fun i hi => ?_, h.u.off (tblk_ne h.u.tblk k (by decide)) _ _, h.ul.spanB k j v⟩
  obtain ⟨A, n, c, hs, h1, h2⟩ := h.all i hi
  exact ⟨A, n, c, hs, by rw [World.cell?_setCell_other _ _ _ _ (by simp)]; exact h1, h2.spanB k j v⟩
theorem DowE.nilS {w : World} {B : Nat} {A : Option Addr} {n c : Nat} (h : DowE w B A n c []) : Sds w A n c [] := by
  obtain ⟨zs, h1, h2⟩ := h
  obtain rfl : zs = [] := by cases zs with
    | nil => rfl
    | cons a t => cases h2
  exact h1.sds
theorem Dow.e {w : World} {B B' : Nat} {A : Option Addr} {n c : Nat} {xs : List (Dsc × Hd)} (h : Dow w B A n c xs) (hB : B' ≤ B) : DowE w B' A n c (xs.map (·.2)) := ⟨xs, h.mono hB, rfl⟩
theorem Dow.e0 {w : World} {B B' : Nat} {A : Option Addr} {n c : Nat} {xs : List (Dsc × Hd)} (h : Dow w B A n c xs) (hB : B' ≤ B) (e : xs.map (·.1) = []) : DowE w B' A n c [] := by
  obtain rfl : xs = [] := by cases xs with
    | nil => rfl
    | cons a t => cases e
  exact ⟨[], h.mono hB, rfl⟩
structure FiveL (w : World) (gl B : Nat) : Prop where
  blk : TBlk w gl 23
  all : ∀ j, j < 5 → ∃ A n c hs, w.cell? ⟨gl, j, none⟩ = some (.slice A n c) ∧ DowE w B A n c hs
theorem FiveL.next {w w' : World} {gl B : Nat} (h : FiveL w gl B) (hb : Below w.heap.size w w') : FiveL w' gl B := by
  obtain ⟨⟨cur, hk⟩, ha⟩ := h
  have hl := (Array.getElem?_eq_some_iff.1 hk).1
  refine ⟨⟨cur, (hb.block gl hl).trans hk⟩, fun j hj => ?_⟩
  obtain ⟨A, n, c, hs, h1, h2⟩ := ha j hj
  exact ⟨A, n, c, hs, (hb.cell (p := ⟨gl, j, none⟩) hl).trans h1, h2.next hb⟩
theorem five_lit (w : World) {B : Nat} {A0 A1 A2 A3 A4 : Option Addr} {n0 c0 n1 c1 n2 c2 n3 c3 n4 c4 : Nat} {h0 h1 h2 h3 h4 : List Hd} (E0 : DowE w B A0 n0 c0 h0) (E1 : DowE w B A1 n1 c1 h1) (E2 : DowE w B A2 n2 c2 h2) (E3 : DowE w B A3 n3 c3 h3) (E4 : DowE w B A4 n4 c4 h4) :
    FiveL (w.alloc (.cells #[.slice A0 n0 c0, .slice A1 n1 c1, .slice A2 n2 c2, .slice A3 n3 c3, .slice A4 n4 c4] 23)) w.heap.size B := by
  have hb := below_lit w (.cells #[.slice A0 n0 c0, .slice A1 n1 c1, .slice A2 n2 c2, .slice A3 n3 c3, .slice A4 n4 c4] 23)
  refine ⟨⟨_, heap_alloc_new w _⟩, fun j hj => ?_⟩
  rcases (by omega : j = 0 ∨ j = 1 ∨ j = 2 ∨ j = 3 ∨ j = 4) with rfl | rfl | rfl | rfl | rfl
  · exact ⟨_, _, _, _, (World.cell?_alloc_at (w := w) _ _ _ 0 rfl).trans rfl, E0.next hb⟩
  · exact ⟨_, _, _, _, (World.cell?_alloc_at (w := w) _ _ _ 1 rfl).trans rfl, E1.next hb⟩
  · exact ⟨_, _, _, _, (World.cell?_alloc_at (w := w) _ _ _ 2 rfl).trans rfl, E2.next hb⟩
  · exact ⟨_, _, _, _, (World.cell?_alloc_at (w := w) _ _ _ 3 rfl).trans rfl, E3.next hb⟩
  · exact ⟨_, _, _, _, (World.cell?_alloc_at (w := w) _ _ _ 4 rfl).trans rfl, E4.next hb⟩
def tyFL (B : Nat) : Ty := .pred (fun v u => ∃ gl : Nat, v = .slice (some ⟨gl, 0, none⟩) 5 5 ∧ FiveL u gl B) (fun _ _ _ ⟨gl, h1, h3⟩ hb => ⟨gl, h1, h3.next hb⟩)
def tyDE (B : Nat) : Ty := .pred (fun v u => ∃ (A : Option Addr) (n c : Nat) (hs : List Hd), v = .slice A n c ∧ DowE u B A n c hs) (fun _ _ _ ⟨A, n, c, hs, h1, h3⟩ hb => ⟨A, n, c, hs, h1, h3.next hb⟩)
end Go.Proofs.Ytdkchiodepdclaa
