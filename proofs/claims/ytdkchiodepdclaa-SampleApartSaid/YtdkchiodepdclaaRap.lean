/- Layer 9: what becomes of own lists of descriptors when ages and spans of such lists are written (DescApart): plain facts. -/
import Derived.Test.YtdkchiodepdclaaRn
namespace Go.Proofs.Ytdkchiodepdclaa
open Go.RowKit
set_option linter.unusedVariables false
/-- A block of elements of type t. -/
def TBlk (w : World) (g : Nat) (t : TypeId) : Prop := ∃ cur, w.heap[g]? = some (.cells cur t (0, 0))
theorem TBlk.lt {w : World} {g : Nat} {t : TypeId} (h : TBlk w g t) : g < w.heap.size := by obtain ⟨cur, h⟩ := h; exact (Array.getElem?_eq_some_iff.1 h).1
theorem TBlk.set {w : World} {g b : Nat} {t : TypeId} (h : TBlk w g t) (i : Nat) (u : Value) : TBlk (w.setCell ⟨b, i, none⟩ u) g t := by
  obtain ⟨cur, h⟩ := h
  by_cases e : g = b
  · subst e; exact ⟨cur.setIfInBounds i u, by simp [World.setCell, Array.getElem?_modify, h]⟩
  · exact ⟨cur, by rw [Below.heap_setCell _ _ _ _ e]; exact h⟩
theorem Ows.tblk {w : World} {B g : Nat} {E : TypeId} {s n c : Nat} {xs : List Value} (h : Ows w B E s (some ⟨g, 0, none⟩) n c xs) : TBlk w g E ∧ B ≤ g := by
  rcases h.2 with ⟨hv, _⟩ | ⟨g', cap, cur, hv, hB, hh, _⟩
  · injection hv with e; cases e
  · injection hv with e1 e2 e3
    injection e1 with e1
    injection e1 with e1
    subst e1
    exact ⟨⟨cur, hh⟩, hB⟩
theorem Ows.offT {w : World} {B g : Nat} {E t : TypeId} {s : Nat} {A : Option Addr} {n c : Nat} {xs : List Value} (h : Ows w B E s A n c xs) (k : TBlk w g t) (hne : E ≠ t) (i : Nat) (u : Value) : Ows (w.setCell ⟨g, i, none⟩ u) B E s A n c xs :=
  h.grown (grown_set w g i u) fun q hq e => by
    subst e
    rcases h.2 with ⟨hv, _⟩ | ⟨b1, cap, cur, hv, _, hh, _⟩
    · rw [hv] at hq; cases hq
    · rw [hv] at hq
      injection hq with hq
      have e1 : b1 = q := hq
      subst e1
      obtain ⟨cur2, k⟩ := k
      rw [k] at hh
      injection hh with hh
      injection hh with _ h2
      exact hne h2.symm
theorem Ows.setany {w : World} {B g : Nat} {E : TypeId} {s : Nat} {A : Option Addr} {n c : Nat} {xs : List Value} (h : Ows w B E s A n c xs) (t : Nat) (v : Value) : Ows (w.setCell ⟨g, t, none⟩ v) B E s A n c xs ∨ Ows (w.setCell ⟨g, t, none⟩ v) B E s A n c (xs.set t v) := by
  rcases h.2 with ⟨hv, h0⟩ | ⟨g', cap, cur, hv, hB, hh, h1, h2, h3, h4⟩
  · exact .inl ⟨h.1, .inl ⟨hv, h0⟩⟩
  · by_cases e : g' = g
    · subst e
      refine .inr ⟨by rw [List.length_set]; exact h.1, .inr ⟨g', cap, cur.setIfInBounds t v, hv, hB, ?_, h1, h2, by simp [h3], ?_⟩⟩
      · simp [World.setCell, Array.getElem?_modify, hh]
      · rw [← h4, Array.toList_setIfInBounds, List.take_set]
    · exact .inl ⟨h.1, .inr ⟨g', cap, cur, hv, hB, by rw [Below.heap_setCell _ _ _ _ e]; exact hh, h1, h2, h3, h4⟩⟩
theorem dcs_setA : ∀ (ys : List (Dsc × Hd)) (j : Nat) (a : Int), ∃ zs : List (Dsc × Hd), (dcs ys).set (j * 4 + 2) (.int .u8 a) = dcs zs ∧ zs.map (·.2) = ys.map (·.2) ∧ zs.map (·.1.2.2.2) = ys.map (·.1.2.2.2)
  | [], j, a => ⟨[], by simp [dcs], rfl, rfl⟩
  | q :: ys, 0, a => ⟨((q.1.1, q.1.2.1, a, q.1.2.2.2), q.2) :: ys, by simp [dcs_cons, dcl], rfl, rfl⟩
  | q :: ys, j + 1, a => by
    obtain ⟨zs, h1, h2, h3⟩ := dcs_setA ys j a
    refine ⟨q :: zs, ?_, by simp [h2], by simp [h3]⟩
    rw [dcs_cons, List.set_append_right _ _ (by simp [dcl]; omega), show (j + 1) * 4 + 2 - (dcl q).length = j * 4 + 2 by simp [dcl]; omega, h1, dcs_cons]
theorem spl_setA : ∀ (f : List (Int × Int)) (j : Nat) (a : Int), ∃ f', (spl f).set (j * 2) (.int .i32 a) = spl f'
  | [], j, a => ⟨[], by simp [spl]⟩
  | p :: f, 0, a => ⟨(a, p.2) :: f, by simp [spl_cons]⟩
  | p :: f, j + 1, a => by
    obtain ⟨f', h⟩ := spl_setA f j a
    refine ⟨p :: f', ?_⟩
    rw [spl_cons, spl_cons, ← h, show (j + 1) * 2 = j * 2 + 1 + 1 by omega, List.set_cons_succ, List.set_cons_succ]
/-- An own list of descriptors with those filters' headers. -/
def DowE (w : World) (B : Nat) (A : Option Addr) (n c : Nat) (hs : List Hd) : Prop := ∃ zs, Dow w B A n c zs ∧ zs.map (·.2) = hs
theorem DowE.next {w w' : World} {B : Nat} {A : Option Addr} {n c : Nat} {hs : List Hd} (h : DowE w B A n c hs) (hb : Below w.heap.size w w') : DowE w' B A n c hs := by
  obtain ⟨zs, h1, h2⟩ := h; exact ⟨zs, h1.below hb, h2⟩
theorem fo_list {P : Dsc × Hd → Prop} : ∀ (zs ys : List (Dsc × Hd)), zs.map (·.2) = ys.map (·.2) → zs.map (·.1.2.2.2) = ys.map (·.1.2.2.2) → (∀ y ∈ ys, ∀ z : Dsc × Hd, z.2 = y.2 → z.1.2.2.2 = y.1.2.2.2 → P z) → ∀ z ∈ zs, P z
  | [], _, _, _, _ => fun z hz => by cases hz
  | z :: zs, [], h, _, _ => by simp at h
  | z :: zs, y :: ys, h1, h2, h3 => fun x hx => by
    simp only [List.map_cons, List.cons.injEq] at h1 h2
    rcases List.mem_cons.1 hx with rfl | hx
    · exact h3 y List.mem_cons_self x h1.1 h2.1
    · exact fo_list zs ys h1.2 h2.2 (fun y' hy' => h3 y' (List.mem_cons_of_mem _ hy')) x hx
theorem DowE.age {w : World} {B g : Nat} {A : Option Addr} {n c : Nat} {hs : List Hd} (h : DowE w B A n c hs) (k : TBlk w g 27) (j : Nat) (v : Int) : DowE (w.setCell ⟨g, j * 4 + 2, none⟩ (.int .u8 v)) B A n c hs := by
  obtain ⟨zs, h1, h2⟩ := h
  have hf : ∀ x ∈ zs, Ows (w.setCell ⟨g, j * 4 + 2, none⟩ (.int .u8 v)) B 52 2 x.2.1 x.2.2.1 x.2.2.2 (spl x.1.2.2.2) := fun x hx => (h1.fo x hx).offT k (by decide) _ _
  rcases h1.ow.setany (g := g) (j * 4 + 2) (.int .u8 v) with h3 | h3
  · exact ⟨zs, ⟨h3, hf⟩, h2⟩
  · obtain ⟨ys, e1, e2, e3⟩ := dcs_setA zs j v
    rw [e1] at h3
    refine ⟨ys, ⟨h3, fo_list ys zs e2 e3 fun y hy z ez ef => ?_⟩, e2.trans h2⟩
    rw [ez, ef]; exact hf y hy
theorem span_list {P : Hd → List (Int × Int) → Prop} : ∀ zs : List (Dsc × Hd), (∀ z ∈ zs, ∃ f', P z.2 f') → ∃ ys : List (Dsc × Hd), dcs ys = dcs zs ∧ ys.map (·.2) = zs.map (·.2) ∧ ∀ y ∈ ys, P y.2 y.1.2.2.2
  | [], _ => ⟨[], rfl, rfl, fun y hy => by cases hy⟩
  | z :: zs, h => by
    obtain ⟨f', hf⟩ := h z List.mem_cons_self
    obtain ⟨ys, h1, h2, h3⟩ := span_list zs fun z' hz' => h z' (List.mem_cons_of_mem _ hz')
    refine ⟨((z.1.1, z.1.2.1, z.1.2.2.1, f'), z.2) :: ys, by rw [dcs_cons, dcs_cons, h1]; rfl, by simp [h2], fun y hy => ?_⟩
    rcases List.mem_cons.1 hy with rfl | hy
    · exact hf
    · exact h3 y hy
theorem DowE.span {w : World} {B g : Nat} {A : Option Addr} {n c : Nat} {hs : List Hd} (h : DowE w B A n c hs) (k : TBlk w g 52) (j : Nat) (v : Int) : DowE (w.setCell ⟨g, j * 2, none⟩ (.int .i32 v)) B A n c hs := by
  obtain ⟨zs, h1, h2⟩ := h
  obtain ⟨ys, e1, e2, e3⟩ := span_list (P := fun h f => Ows (w.setCell ⟨g, j * 2, none⟩ (.int .i32 v)) B 52 2 h.1 h.2.1 h.2.2 (spl f)) zs fun z hz => by
    rcases (h1.fo z hz).setany (g := g) (j * 2) (.int .i32 v) with h3 | h3
    · exact ⟨_, h3⟩
    · obtain ⟨f', e⟩ := spl_setA z.1.2.2.2 j v
      rw [e] at h3; exact ⟨f', h3⟩
  exact ⟨ys, ⟨by rw [e1]; exact h1.ow.offT k (by decide) _ _, e3⟩, e2.trans h2⟩
/-- The four lists that the loops go over. -/
structure Four (w : World) (gl B : Nat) : Prop where
  blk : TBlk w gl 23
  all : ∀ j, j < 4 → ∃ A n c hs, w.cell? ⟨gl, j, none⟩ = some (.slice A n c) ∧ DowE w B A n c hs
theorem Four.next {w w' : World} {gl B : Nat} (h : Four w gl B) (hb : Below w.heap.size w w') : Four w' gl B := by
  obtain ⟨⟨cur, hk⟩, ha⟩ := h
  have hl := (Array.getElem?_eq_some_iff.1 hk).1
  refine ⟨⟨cur, (hb.block gl hl).trans hk⟩, fun j hj => ?_⟩
  obtain ⟨A, n, c, hs, h1, h2⟩ := ha j hj
  exact ⟨A, n, c, hs, (hb.cell (p := ⟨gl, j, none⟩) hl).trans h1, h2.next hb⟩
theorem tblk_ne {w : World} {g g' : Nat} {t t' : TypeId} (h : TBlk w g t) (h' : TBlk w g' t') (hne : t ≠ t') : g ≠ g' := by
  rintro rfl
  obtain ⟨c1, h⟩ := h
  obtain ⟨c2, h'⟩ := h'
  rw [h] at h'
  injection h' with h'
  injection h' with _ h'
  exact hne h'
theorem Four.age {w : World} {gl B g : Nat} (h : Four w gl B) (k : TBlk w g 27) (j : Nat) (v : Int) : Four (w.setCell ⟨g, j * 4 + 2, none⟩ (.int .u8 v)) gl B := by
  have hne := tblk_ne h.blk k (by decide)
  refine ⟨h.blk.set _ _, fun i hi => ?_⟩
  obtain ⟨A, n, c, hs, h1, h2⟩ := h.all i hi
  exact ⟨A, n, c, hs, by rw [World.cell?_setCell_other _ _ _ _ (by simp)]; exact h1, h2.age k j v⟩
theorem Four.span {w : World} {gl B g : Nat} (h : Four w gl B) (k : TBlk w g 52) (j : Nat) (v : Int) : Four (w.setCell ⟨g, j * 2, none⟩ (.int .i32 v)) gl B := by
  have hne := tblk_ne h.blk k (by decide)
  refine ⟨h.blk.set _ _, fun i hi => ?_⟩
  obtain ⟨A, n, c, hs, h1, h2⟩ := h.all i hi
  exact ⟨A, n, c, hs, by rw [World.cell?_setCell_other _ _ _ _ (by simp)]; exact h1, h2.span k j v⟩
/-- The i-th one of a list. -/
theorem DowE.at_ {w : World} {B : Nat} {A : Option Addr} {n c : Nat} {hs : List Hd} (h : DowE w B A n c hs) {i : Nat} (hi : i < n) : ∃ (g : Nat) (z : Dsc × Hd), A = some ⟨g, 0, none⟩ ∧ TBlk w g 27 ∧ B ≤ g ∧ n ≤ c ∧ c ≤ maxLen ∧ hs[i]? = some z.2 ∧
    w.cell? ⟨g, i * 4 + 2, none⟩ = some (.int .u8 z.1.2.2.1) ∧ w.frozen? ⟨g, i * 4 + 2, none⟩ = false ∧ w.cell? ⟨g, i * 4 + 3, none⟩ = some (.slice z.2.1 z.2.2.1 z.2.2.2) ∧ Ows w B 52 2 z.2.1 z.2.2.1 z.2.2.2 (spl z.1.2.2.2) := by
  obtain ⟨zs, h1, h2⟩ := h
  have hl := h1.len
  rcases h1.ow.2 with ⟨hv, h0⟩ | ⟨g, cap, cur, hv, hB, hh, r⟩
  · omega
  · injection hv with e; subst e
    obtain ⟨b, off, x, e, hb, hx, hm, c0, c1, c2, c3⟩ := h1.sds.at_ hi
    injection e with e
    injection e with e1 e2
    subst e1 e2
    rw [Nat.zero_add] at c0 c1 c2 c3
    exact ⟨_, x, rfl, ⟨cur, hh⟩, hB, h1.sds.cap, h1.sds.max, by rw [← h2, List.getElem?_map, hx]; rfl, c2, by simp [World.frozen?, hh], c3, h1.fo x hm⟩
/-- The j-th span of a filter. -/
theorem span_at {w : World} {B : Nat} {A : Option Addr} {n c : Nat} {f : List (Int × Int)} (h : Ows w B 52 2 A n c (spl f)) {j : Nat} (hj : j < n) : ∃ (q : Nat) (p : Int × Int), A = some ⟨q, 0, none⟩ ∧ TBlk w q 52 ∧ B ≤ q ∧ w.cell? ⟨q, j * 2, none⟩ = some (.int .i32 p.1) ∧ w.frozen? ⟨q, j * 2, none⟩ = false := by
  have hs : Sp w w.heap.size A n c f := Sn.of_own h
  rcases h.2 with ⟨hv, h0⟩ | ⟨g, cap, cur, hv, hB, hh, r⟩
  · omega
  · injection hv with e; subst e
    obtain ⟨b, off, p, e, _, _, c0, _⟩ := sp_at hs hj
    injection e with e
    injection e with e1 e2
    subst e1 e2
    rw [Nat.zero_add] at c0
    exact ⟨_, p, rfl, ⟨cur, hh⟩, hB, c0, by simp [World.frozen?, hh]⟩
end Go.Proofs.Ytdkchiodepdclaa
