/- Layer 5: filter.every. -/
import Derived.Test.YtmajempbncllgaaDoorWi
import Derived.Test.YtmajempbncllgaaDoorPr
import Derived.Shelf.Abstract
namespace Go.Proofs.YtmajempbncllgaaDoor
open Go.RowKit
set_option linter.unusedVariables false
attribute [local go_sem] Oper.semAt_some
theorem Blk.kept {W W' : World} {row : Option Nat} {b : Nat} {p : Int × Int} (h : Blk W b p) (hg : W.grownBy W' row) (hr : ∀ r, row = some r → ∃ o : Obj, W.heap[r]? = some o ∧ o.isCells = false) : Blk W' b p := by
  refine (hg.block b h.lt fun e => ?_).trans h
  obtain ⟨o, ho, hc⟩ := hr b e.symm
  rw [show W.heap[b]? = _ from h] at ho; cases ho; cases hc
theorem KeepsFrom.of_below {B : Nat} {W W' : World} (h : Below W.heap.size W W') : KeepsFrom B W W' :=
  ⟨h.size, fun k o _ ho _ => (h.block k (Array.getElem?_eq_some_iff.1 ho).1).trans ho⟩
theorem boxed_next {W W' : World} {B : Nat} {t : TypeId} {v : Value} (h : Boxed W B t v) (hb : Below W.heap.size W W') : Boxed W' B t v := (hb.block B h.lt).trans h
theorem pick_f (es : List (Int × Int)) (h : ∀ p ∈ es, inR p) : ∃ f : Nat → Int × Int, (∀ j p, es[j]? = some p → f j = p) ∧ ∀ j, inR (f j) := by
  refine ⟨fun j => es.getD j (0, 0), fun j p hp => by simp [List.getD, hp], fun j => ?_⟩
  rcases Nat.lt_or_ge j es.length with hj | hj
  · simp only [List.getD, List.getElem?_eq_getElem hj, Option.getD_some]; exact h _ (List.getElem_mem hj)
  · simp only [List.getD, List.getElem?_eq_none hj, Option.getD_none]; exact ⟨by simp, by simp⟩
theorem pick_g (xs : List Int) : ∃ f : Nat → Int, ∀ j p, xs[j]? = some p → f j = p := ⟨fun j => xs.getD j 0, fun j p hp => by simp [List.getD, hp]⟩
theorem range_all {α β : Type} (es : List α) (bs : List β) (f : Nat → α) (g : Nat → β) (t : α → β → Bool) (hl : es.length = bs.length) (hf : ∀ j p, es[j]? = some p → f j = p) (hg : ∀ j p, bs[j]? = some p → g j = p) :
    (List.range es.length).all (fun j => t (f j) (g j)) = (es.zip bs).all fun x => t x.1 x.2 := by
  rw [Bool.eq_iff_iff, List.all_eq_true, List.all_eq_true]
  constructor
  · intro h x hx
    obtain ⟨j, hj⟩ := List.mem_iff_getElem?.1 hx
    rw [List.getElem?_zip_eq_some] at hj
    have hlt : j < es.length := (List.getElem?_eq_some_iff.1 hj.1).1
    have := h j (List.mem_range.2 hlt)
    rwa [hf j _ hj.1, hg j _ hj.2] at this
  · intro h j hj
    have hlt := List.mem_range.1 hj
    have h1 : es[j]? = some es[j] := List.getElem?_eq_getElem hlt
    have h2 : bs[j]? = some (bs[j]'(by omega)) := List.getElem?_eq_getElem (by omega)
    rw [hf j _ h1, hg j _ h2]
    exact h (es[j], bs[j]'(by omega)) (List.mem_of_getElem? (i := j) (by rw [List.getElem?_zip_eq_some]; exact ⟨h1, h2⟩))
set_option maxRecDepth 100000 in
set_option maxHeartbeats 4000000 in
theorem everyCov_in (A : Option Addr) (n c : Nat) (es : List (Int × Int)) (A' : Option Addr) (n' c' : Nat) (bs : List (Int × Int)) (w : World) (hT : Tab w) (hr : ∀ p ∈ es, inR p) (hs : ∀ p ∈ bs, inR p) (h : Sp w w.heap.size A n c es) (h' : Sp w w.heap.size A' n' c' bs) :
    CallsIn Fence.wide 6 Tryd.prog 33 #[.slice A n c, .slice A' n' c', .func (.func 34) #[] #[]] w fun e w' => e = .returned (.bool (decide (es.length = bs.length) && (es.zip bs).all fun x => covB x.1 x.2)) ∧ Below w.heap.size w w' := by
  have HL : Hid (n = es.length) := sp_len h
  have HL' : Hid (n' = bs.length) := sp_len h'
  by_cases hn : n = n'
  · subst hn
    obtain ⟨f, hf, hfr⟩ := pick_f es hr
    obtain ⟨g, hg, hgr⟩ := pick_f bs hs
    have HV : Hid ((decide (es.length = bs.length) && (es.zip bs).all fun x => covB x.1 x.2) = (List.range n).all fun j => covB (f j) (g j)) := by
      unfold Hid
      rw [decide_eq_true (HL.out.symm.trans HL'.out), Bool.true_and, HL.out]
      exact (range_all es bs f g covB (HL.out.symm.trans HL'.out) hf hg).symm
    rw [HV.out]
    have HS := Lib.hid h
    have HS' := Lib.hid h'
    have HT := Lib.hid hT
    clear h h' hT hr hs HV HL HL'
    refine callsIn_of_wp_marks Tryd.func33 rfl trivial ?_ rfl
    simp only [Tryd.ntmps33, List.size_toArray, List.length_cons, List.length_nil, Nat.reduceAdd, Nat.reduceSub, Array.replicate_succ, Array.replicate_zero, List.push_toArray, List.append_toArray, List.nil_append, List.cons_append]
    gi_wp2_with (refine ⟨trivial, ?_⟩; gi_at_call 31; refine (callsIn_wide.2 (pairsS_any _ _ _ _ _ _ _)).mono ?_; rintro e w' ⟨rfl, rfl⟩)
    have bF := (((Boxed.new w 58 (.func (.func 34) #[] #[])).alloc (.cells #[.bool false] 4)).alloc (.cells #[.slice A n c] 22)).alloc (.cells #[.slice A' n c'] 22)
    have bR := ((Boxed.new (w.alloc (.cells #[.func (.func 34) #[] #[]] 58)) 4 (.bool false)).alloc (.cells #[.slice A n c] 22)).alloc (.cells #[.slice A' n c'] 22)
    have b1 := (Boxed.new ((w.alloc (.cells #[.func (.func 34) #[] #[]] 58)).alloc (.cells #[.bool false] 4)) 22 (.slice A n c)).alloc (.cells #[.slice A' n c'] 22)
    have b2 := Boxed.new (((w.alloc (.cells #[.func (.func 34) #[] #[]] 58)).alloc (.cells #[.bool false] 4)).alloc (.cells #[.slice A n c] 22)) 22 (.slice A' n c')
    have hB0 : Below w.heap.size w ((((w.alloc (.cells #[.func (.func 34) #[] #[]] 58)).alloc (.cells #[.bool false] 4)).alloc (.cells #[.slice A n c] 22)).alloc (.cells #[.slice A' n c'] 22)) :=
      ((((Below.refl _ w).alloc (Nat.le_refl _) _).alloc (by simp) _).alloc (by simp; omega) _).alloc (by simp; omega) _
    have hsz : ((((w.alloc (.cells #[.func (.func 34) #[] #[]] 58)).alloc (.cells #[.bool false] 4)).alloc (.cells #[.slice A n c] 22)).alloc (.cells #[.slice A' n c'] 22)).heap.size = w.heap.size + 4 := by simp
    simp only [World.size_alloc] at bF bR b1 b2 hB0
    obtain ⟨W0, hW0⟩ : ∃ W0, ((((w.alloc (.cells #[.func (.func 34) #[] #[]] 58)).alloc (.cells #[.bool false] 4)).alloc (.cells #[.slice A n c] 22)).alloc (.cells #[.slice A' n c'] 22)) = W0 := ⟨_, rfl⟩
    rw [hW0] at bF bR b1 b2 hB0 hsz ⊢
    clear hW0
    refine wpIn_rangeFunc_ownH rfl (by decide) (gf := 42) (lb := #[.pointer (some ⟨w.heap.size + 1 + 1, 0, none⟩), .pointer (some ⟨w.heap.size + 1 + 1 + 1, 0, none⟩)]) rfl trivial (enters_of Tryd.func42 (by kernel_rfl) rfl)
      (pairsS_stops 5 (by decide) (w.heap.size + 1 + 1) (w.heap.size + 1 + 1 + 1) w.heap.size A n c A' c' es bs f g hf hg W0 (by omega) b1 b2 (HS.out.below hB0) (HS'.out.below hB0)) KpB.trans (by rw [hsz]; exact kpB_b (by omega) (by omega) (by omega)) (Below.refl _ _) (fun _ => rfl)
      (fun pre W => Hid (pre.all (fun j => covB (f j) (g j)) = true) ∧ Below W0.heap.size W0 W)
      (fun k pre W => Boxed W (w.heap.size + 1) 4 (.bool false) ∧ (k = .ret ∧ Hid (pre.all (fun j => covB (f j) (g j)) = false)) ∧ Below w.heap.size w W)
      (OwnFrom.and (ownFrom_pure _ _) (ownFrom_below (Nat.le_refl _) (Nat.le_refl _)))
      (fun k => OwnFrom.and (Go.Own.from (boxed_own _ _ _) _) (OwnFrom.and (ownFrom_pure _ _) (ownFrom_below (Nat.le_refl _) (by omega))))
      ⟨rfl, Below.refl _ _⟩
      (fun x a' W => ∃ Bx By, w.heap.size + 4 ≤ Bx ∧ w.heap.size + 4 ≤ By ∧ Blk W Bx (f x) ∧ Blk W By (g x) ∧ a' = { tmps := #[.slice A n c, .slice A' n c', .func (.func 34) #[] #[], undef, undef, .pointer (some ⟨w.heap.size, 0, none⟩), .pointer (some ⟨w.heap.size + 1, 0, none⟩), .pointer (some ⟨Bx, 0, none⟩), .pointer (some ⟨By, 0, none⟩), .slice A n c, .int .i64 n, .slice A' n c', .int .i64 n, .bool false, .slice A n c, .slice A' n c', .func (.func 42) #[] #[.pointer (some ⟨w.heap.size + 1 + 1, 0, none⟩), .pointer (some ⟨w.heap.size + 1 + 1 + 1, 0, none⟩)], encS (f x), encS (g x), undef, undef, undef, undef, undef], defers := [] })
      (fun x a' u X Y row hs hg hr => by obtain ⟨Bx, By, e1, e2, e3, e4, e5⟩ := hs; exact ⟨Bx, By, e1, e2, e3.kept hg (fun r e => (hr r e).2), e4.kept hg (fun r e => (hr r e).2), e5⟩)
      ?assign ?body ?done ?stop
    case assign =>
      intro l pre x W K hi hK
      unfold encS
      gi_wp2
      have bb := Go.Joins.below_alloc2 W (.cells #[.int .i32 (f x).1, .int .i32 (f x).2] 36) (.cells #[.int .i32 (g x).1, .int .i32 (g x).2] 36)
      obtain ⟨i3, i4⟩ := hi
      have h4 := i4.size
      refine hK _ _ (KeepsFrom.of_below bb) (KpB.of_below bb (by omega)) ⟨i3, thn i4 bb⟩ ⟨W.heap.size, W.heap.size + 1, by omega, by omega, (Blk.lit W _ _).old _, ?_, rfl⟩
      have := Blk.lit (W.alloc (.cells #[.int .i32 (f x).1, .int .i32 (f x).2] 36)) (g x).1 (g x).2
      simpa using this
    case body =>
      rintro l pre x a' W hl _ ⟨i3, i4⟩ ⟨Bx, By, hx, hy, kx, ky, rfl⟩ hlen
      obtain ⟨z, HZ⟩ : ∃ z, Hid (covB (f x) (g x) = z) := ⟨_, rfl⟩
      have HA : Hid ((pre ++ [x]).all (fun j => covB (f j) (g j)) = z) := by
        unfold Hid
        rw [List.all_append, i3.out, ← HZ.out]; simp
      have c0 := (boxed_next bF i4).cell
      obtain ⟨x0, x1⟩ := kx.cells
      obtain ⟨y0, y1⟩ := ky.cells
      have HTW := Lib.hid (HT.out.next (hB0.trans (i4.mono hB0.size)))
      have I2 := Lib.hid (boxed_next bR i4)
      have I4 := Lib.hid i4
      clear i4 kx ky i3
      unfold encS
      cases z
      · gi_wp2_with (refine ⟨trivial, ?_⟩; gi_at_call 34; refine (CallsIn.inRound l (callsIn_wide.2 (covers_of HTW.out (hfr x) (hgr x) HZ.out))).mono ?_; rintro e w5 ⟨rfl, b5⟩; have J2 := Lib.hid (boxed_next I2.out b5); have c2 := J2.out.cell; have f2 := J2.out.frozen)
        have bb := hB0.trans ((I4.out.trans (b5.mono I4.out.size)).mono hB0.size)
        exact ⟨(KeepsFrom.of_below b5).trans ((KeepsOthers.setCell _ _ _).from _), J2.out.set _, ⟨rfl, HA⟩, bb.setCell (by simp) _⟩
      · gi_wp2_with (refine ⟨trivial, ?_⟩; gi_at_call 34; refine (CallsIn.inRound l (callsIn_wide.2 (covers_of HTW.out (hfr x) (hgr x) HZ.out))).mono ?_; rintro e w5 ⟨rfl, b5⟩)
        exact ⟨KeepsFrom.of_below b5, KpB.of_below b5 (by have := I4.out.size; omega), HA, thn I4.out b5⟩
    case done =>
      rintro D ys W hD rfl ⟨i3, i4⟩ hK
      have I2 := Lib.hid (boxed_next bR i4)
      have c2 := I2.out.cell
      have f2 := I2.out.frozen
      gi_wp2
      have hK' := (KeepsOthers.setCell W ⟨w.heap.size + 1, 0, none⟩ (.bool true)).same D _ hK rfl
      refine ⟨by simp, .inl ⟨_, _, rfl, run_takeDeferred hK', ?_⟩⟩
      have hc5 := cell_kept (I2.out.set (.bool true)).cell (grownBy_putObj' _ D (.deferred none)) (fun r e => by cases e; exact ⟨_, hK', rfl⟩)
      have bb := (hB0.trans (i4.mono hB0.size)).setCell (p := ⟨w.heap.size + 1, 0, none⟩) (by simp) (.bool true)
      refine ⟨.bool true, ?_, by rw [i3.out], bb.trans (belowK_b (w := w) (Nat.le_refl _) _ D _ _ (by omega) hK' rfl rfl)⟩
      simp [results, Tryd.f33, go_sem, hc5]
    case stop =>
      rintro D k pre W hD ⟨m, hm, rfl⟩ ⟨i1, ⟨rfl, i3⟩, i4⟩ hK
      gi_wp2
      refine ⟨by simp, .inl ⟨_, _, rfl, run_takeDeferred hK, ?_⟩⟩
      have hc5 := cell_kept i1.cell (grownBy_putObj' _ D (.deferred none)) (fun r e => by cases e; exact ⟨_, hK, rfl⟩)
      refine ⟨.bool false, ?_, ?_, i4.trans (belowK_b (w := w) (Nat.le_refl _) _ D _ _ (by omega) hK rfl rfl)⟩
      · simp [results, Tryd.f33, go_sem, hc5]
      · congr 2
        refine Eq.symm (Bool.eq_false_iff.2 fun h => ?_)
        rw [List.all_eq_true] at h
        have h2 : (List.range m).all (fun j => covB (f j) (g j)) = true := List.all_eq_true.2 fun j hj => h j (List.mem_range.2 (Nat.lt_of_lt_of_le (List.mem_range.1 hj) hm))
        rw [i3.out] at h2
        cases h2
  · have HV : Hid ((decide (es.length = bs.length) && (es.zip bs).all fun x => covB x.1 x.2) = false) := by
      unfold Hid
      rw [decide_eq_false (fun e => hn (by rw [HL.out, HL'.out, e])), Bool.false_and]
    rw [HV.out]
    refine callsIn_wide.2 ?_
    clear HV HL HL' h h' hr hs hT
    go_enter Tryd.func33, Tryd.ntmps33
    go_wp2
    refine bodyPost_ret (v := .bool false) (by simp [results, Tryd.results33, go_sem]) rfl ⟨rfl, ?_⟩
    first | exact Go.Joins.below_alloc2 w _ _ | exact (Go.Joins.below_alloc2 w _ _).setCell (by simp) _
set_option maxRecDepth 100000 in
set_option maxHeartbeats 4000000 in
theorem everyWit_in (A : Option Addr) (n c : Nat) (es : List (Int × Int)) (A' : Option Addr) (n' c' : Nat) (bs : List (Int × Int)) (w : World) (hT : Tab w) (hr : ∀ p ∈ es, inR p) (hs : ∀ p ∈ bs, inR p) (h : Sp w w.heap.size A n c es) (h' : Sp w w.heap.size A' n' c' bs) :
    CallsIn Fence.wide 6 Tryd.prog 33 #[.slice A n c, .slice A' n' c', .func (.func 41) #[] #[]] w fun e w' => e = .returned (.bool (decide (es.length = bs.length) && (es.zip bs).all fun x => withinB x.1 x.2)) ∧ Below w.heap.size w w' := by
  have HL : Hid (n = es.length) := sp_len h
  have HL' : Hid (n' = bs.length) := sp_len h'
  by_cases hn : n = n'
  · subst hn
    obtain ⟨f, hf, hfr⟩ := pick_f es hr
    obtain ⟨g, hg, hgr⟩ := pick_f bs hs
    have HV : Hid ((decide (es.length = bs.length) && (es.zip bs).all fun x => withinB x.1 x.2) = (List.range n).all fun j => withinB (f j) (g j)) := by
      unfold Hid
      rw [decide_eq_true (HL.out.symm.trans HL'.out), Bool.true_and, HL.out]
      exact (range_all es bs f g withinB (HL.out.symm.trans HL'.out) hf hg).symm
    rw [HV.out]
    have HS := Lib.hid h
    have HS' := Lib.hid h'
    have HT := Lib.hid hT
    clear h h' hT hr hs HV HL HL'
    refine callsIn_of_wp_marks Tryd.func33 rfl trivial ?_ rfl
    simp only [Tryd.ntmps33, List.size_toArray, List.length_cons, List.length_nil, Nat.reduceAdd, Nat.reduceSub, Array.replicate_succ, Array.replicate_zero, List.push_toArray, List.append_toArray, List.nil_append, List.cons_append]
    gi_wp2_with (refine ⟨trivial, ?_⟩; gi_at_call 31; refine (callsIn_wide.2 (pairsS_any _ _ _ _ _ _ _)).mono ?_; rintro e w' ⟨rfl, rfl⟩)
    have bF := (((Boxed.new w 58 (.func (.func 41) #[] #[])).alloc (.cells #[.bool false] 4)).alloc (.cells #[.slice A n c] 22)).alloc (.cells #[.slice A' n c'] 22)
    have bR := ((Boxed.new (w.alloc (.cells #[.func (.func 41) #[] #[]] 58)) 4 (.bool false)).alloc (.cells #[.slice A n c] 22)).alloc (.cells #[.slice A' n c'] 22)
    have b1 := (Boxed.new ((w.alloc (.cells #[.func (.func 41) #[] #[]] 58)).alloc (.cells #[.bool false] 4)) 22 (.slice A n c)).alloc (.cells #[.slice A' n c'] 22)
    have b2 := Boxed.new (((w.alloc (.cells #[.func (.func 41) #[] #[]] 58)).alloc (.cells #[.bool false] 4)).alloc (.cells #[.slice A n c] 22)) 22 (.slice A' n c')
    have hB0 : Below w.heap.size w ((((w.alloc (.cells #[.func (.func 41) #[] #[]] 58)).alloc (.cells #[.bool false] 4)).alloc (.cells #[.slice A n c] 22)).alloc (.cells #[.slice A' n c'] 22)) :=
      ((((Below.refl _ w).alloc (Nat.le_refl _) _).alloc (by simp) _).alloc (by simp; omega) _).alloc (by simp; omega) _
    have hsz : ((((w.alloc (.cells #[.func (.func 41) #[] #[]] 58)).alloc (.cells #[.bool false] 4)).alloc (.cells #[.slice A n c] 22)).alloc (.cells #[.slice A' n c'] 22)).heap.size = w.heap.size + 4 := by simp
    simp only [World.size_alloc] at bF bR b1 b2 hB0
    obtain ⟨W0, hW0⟩ : ∃ W0, ((((w.alloc (.cells #[.func (.func 41) #[] #[]] 58)).alloc (.cells #[.bool false] 4)).alloc (.cells #[.slice A n c] 22)).alloc (.cells #[.slice A' n c'] 22)) = W0 := ⟨_, rfl⟩
    rw [hW0] at bF bR b1 b2 hB0 hsz ⊢
    clear hW0
    refine wpIn_rangeFunc_ownH rfl (by decide) (gf := 42) (lb := #[.pointer (some ⟨w.heap.size + 1 + 1, 0, none⟩), .pointer (some ⟨w.heap.size + 1 + 1 + 1, 0, none⟩)]) rfl trivial (enters_of Tryd.func42 (by kernel_rfl) rfl)
      (pairsS_stops 5 (by decide) (w.heap.size + 1 + 1) (w.heap.size + 1 + 1 + 1) w.heap.size A n c A' c' es bs f g hf hg W0 (by omega) b1 b2 (HS.out.below hB0) (HS'.out.below hB0)) KpB.trans (by rw [hsz]; exact kpB_b (by omega) (by omega) (by omega)) (Below.refl _ _) (fun _ => rfl)
      (fun pre W => Hid (pre.all (fun j => withinB (f j) (g j)) = true) ∧ Below W0.heap.size W0 W)
      (fun k pre W => Boxed W (w.heap.size + 1) 4 (.bool false) ∧ (k = .ret ∧ Hid (pre.all (fun j => withinB (f j) (g j)) = false)) ∧ Below w.heap.size w W)
      (OwnFrom.and (ownFrom_pure _ _) (ownFrom_below (Nat.le_refl _) (Nat.le_refl _)))
      (fun k => OwnFrom.and (Go.Own.from (boxed_own _ _ _) _) (OwnFrom.and (ownFrom_pure _ _) (ownFrom_below (Nat.le_refl _) (by omega))))
      ⟨rfl, Below.refl _ _⟩
      (fun x a' W => ∃ Bx By, w.heap.size + 4 ≤ Bx ∧ w.heap.size + 4 ≤ By ∧ Blk W Bx (f x) ∧ Blk W By (g x) ∧ a' = { tmps := #[.slice A n c, .slice A' n c', .func (.func 41) #[] #[], undef, undef, .pointer (some ⟨w.heap.size, 0, none⟩), .pointer (some ⟨w.heap.size + 1, 0, none⟩), .pointer (some ⟨Bx, 0, none⟩), .pointer (some ⟨By, 0, none⟩), .slice A n c, .int .i64 n, .slice A' n c', .int .i64 n, .bool false, .slice A n c, .slice A' n c', .func (.func 42) #[] #[.pointer (some ⟨w.heap.size + 1 + 1, 0, none⟩), .pointer (some ⟨w.heap.size + 1 + 1 + 1, 0, none⟩)], encS (f x), encS (g x), undef, undef, undef, undef, undef], defers := [] })
      (fun x a' u X Y row hs hg hr => by obtain ⟨Bx, By, e1, e2, e3, e4, e5⟩ := hs; exact ⟨Bx, By, e1, e2, e3.kept hg (fun r e => (hr r e).2), e4.kept hg (fun r e => (hr r e).2), e5⟩)
      ?assign ?body ?done ?stop
    case assign =>
      intro l pre x W K hi hK
      unfold encS
      gi_wp2
      have bb := Go.Joins.below_alloc2 W (.cells #[.int .i32 (f x).1, .int .i32 (f x).2] 36) (.cells #[.int .i32 (g x).1, .int .i32 (g x).2] 36)
      obtain ⟨i3, i4⟩ := hi
      have h4 := i4.size
      refine hK _ _ (KeepsFrom.of_below bb) (KpB.of_below bb (by omega)) ⟨i3, thn i4 bb⟩ ⟨W.heap.size, W.heap.size + 1, by omega, by omega, (Blk.lit W _ _).old _, ?_, rfl⟩
      have := Blk.lit (W.alloc (.cells #[.int .i32 (f x).1, .int .i32 (f x).2] 36)) (g x).1 (g x).2
      simpa using this
    case body =>
      rintro l pre x a' W hl _ ⟨i3, i4⟩ ⟨Bx, By, hx, hy, kx, ky, rfl⟩ hlen
      obtain ⟨z, HZ⟩ : ∃ z, Hid (withinB (f x) (g x) = z) := ⟨_, rfl⟩
      have HA : Hid ((pre ++ [x]).all (fun j => withinB (f j) (g j)) = z) := by
        unfold Hid
        rw [List.all_append, i3.out, ← HZ.out]; simp
      have c0 := (boxed_next bF i4).cell
      obtain ⟨x0, x1⟩ := kx.cells
      obtain ⟨y0, y1⟩ := ky.cells
      have HTW := Lib.hid (HT.out.next (hB0.trans (i4.mono hB0.size)))
      have I2 := Lib.hid (boxed_next bR i4)
      have I4 := Lib.hid i4
      clear i4 kx ky i3
      unfold encS
      cases z
      · gi_wp2_with (refine ⟨trivial, ?_⟩; gi_at_call 41; refine (CallsIn.inRound l (callsIn_wide.2 (within_of HTW.out (hfr x) (hgr x) HZ.out))).mono ?_; rintro e w5 ⟨rfl, b5⟩; have J2 := Lib.hid (boxed_next I2.out b5); have c2 := J2.out.cell; have f2 := J2.out.frozen)
        have bb := hB0.trans ((I4.out.trans (b5.mono I4.out.size)).mono hB0.size)
        exact ⟨(KeepsFrom.of_below b5).trans ((KeepsOthers.setCell _ _ _).from _), J2.out.set _, ⟨rfl, HA⟩, bb.setCell (by simp) _⟩
      · gi_wp2_with (refine ⟨trivial, ?_⟩; gi_at_call 41; refine (CallsIn.inRound l (callsIn_wide.2 (within_of HTW.out (hfr x) (hgr x) HZ.out))).mono ?_; rintro e w5 ⟨rfl, b5⟩)
        exact ⟨KeepsFrom.of_below b5, KpB.of_below b5 (by have := I4.out.size; omega), HA, thn I4.out b5⟩
    case done =>
      rintro D ys W hD rfl ⟨i3, i4⟩ hK
      have I2 := Lib.hid (boxed_next bR i4)
      have c2 := I2.out.cell
      have f2 := I2.out.frozen
      gi_wp2
      have hK' := (KeepsOthers.setCell W ⟨w.heap.size + 1, 0, none⟩ (.bool true)).same D _ hK rfl
      refine ⟨by simp, .inl ⟨_, _, rfl, run_takeDeferred hK', ?_⟩⟩
      have hc5 := cell_kept (I2.out.set (.bool true)).cell (grownBy_putObj' _ D (.deferred none)) (fun r e => by cases e; exact ⟨_, hK', rfl⟩)
      have bb := (hB0.trans (i4.mono hB0.size)).setCell (p := ⟨w.heap.size + 1, 0, none⟩) (by simp) (.bool true)
      refine ⟨.bool true, ?_, by rw [i3.out], bb.trans (belowK_b (w := w) (Nat.le_refl _) _ D _ _ (by omega) hK' rfl rfl)⟩
      simp [results, Tryd.f33, go_sem, hc5]
    case stop =>
      rintro D k pre W hD ⟨m, hm, rfl⟩ ⟨i1, ⟨rfl, i3⟩, i4⟩ hK
      gi_wp2
      refine ⟨by simp, .inl ⟨_, _, rfl, run_takeDeferred hK, ?_⟩⟩
      have hc5 := cell_kept i1.cell (grownBy_putObj' _ D (.deferred none)) (fun r e => by cases e; exact ⟨_, hK, rfl⟩)
      refine ⟨.bool false, ?_, ?_, i4.trans (belowK_b (w := w) (Nat.le_refl _) _ D _ _ (by omega) hK rfl rfl)⟩
      · simp [results, Tryd.f33, go_sem, hc5]
      · congr 2
        refine Eq.symm (Bool.eq_false_iff.2 fun h => ?_)
        rw [List.all_eq_true] at h
        have h2 : (List.range m).all (fun j => withinB (f j) (g j)) = true := List.all_eq_true.2 fun j hj => h j (List.mem_range.2 (Nat.lt_of_lt_of_le (List.mem_range.1 hj) hm))
        rw [i3.out] at h2
        cases h2
  · have HV : Hid ((decide (es.length = bs.length) && (es.zip bs).all fun x => withinB x.1 x.2) = false) := by
      unfold Hid
      rw [decide_eq_false (fun e => hn (by rw [HL.out, HL'.out, e])), Bool.false_and]
    rw [HV.out]
    refine callsIn_wide.2 ?_
    clear HV HL HL' h h' hr hs hT
    go_enter Tryd.func33, Tryd.ntmps33
    go_wp2
    refine bodyPost_ret (v := .bool false) (by simp [results, Tryd.results33, go_sem]) rfl ⟨rfl, ?_⟩
    first | exact Go.Joins.below_alloc2 w _ _ | exact (Go.Joins.below_alloc2 w _ _).setCell (by simp) _
set_option maxRecDepth 100000 in
set_option maxHeartbeats 4000000 in
theorem everyHas_in (A : Option Addr) (n c : Nat) (es : List (Int × Int)) (A' : Option Addr) (n' c' : Nat) (bs : List Int) (w : World) (hr : ∀ p ∈ es, inR p) (h : Sp w w.heap.size A n c es) (h' : Si w w.heap.size A' n' c' bs) :
    CallsIn Fence.wide 6 Tryd.prog 35 #[.slice A n c, .slice A' n' c', .func (.func 36) #[] #[]] w fun e w' => e = .returned (.bool (decide (es.length = bs.length) && (es.zip bs).all fun x => hasB x.1 x.2)) ∧ Below w.heap.size w w' := by
  have HL : Hid (n = es.length) := sp_len h
  have HL' : Hid (n' = bs.length) := si_len h'
  by_cases hn : n = n'
  · subst hn
    obtain ⟨f, hf, hfr⟩ := pick_f es hr
    obtain ⟨g, hg⟩ := pick_g bs
    have HV : Hid ((decide (es.length = bs.length) && (es.zip bs).all fun x => hasB x.1 x.2) = (List.range n).all fun j => hasB (f j) (g j)) := by
      unfold Hid
      rw [decide_eq_true (HL.out.symm.trans HL'.out), Bool.true_and, HL.out]
      exact (range_all es bs f g hasB (HL.out.symm.trans HL'.out) hf hg).symm
    rw [HV.out]
    have HS := Lib.hid h
    have HS' := Lib.hid h'
    clear h h' hr HV HL HL'
    refine callsIn_of_wp_marks Tryd.func35 rfl trivial ?_ rfl
    simp only [Tryd.ntmps35, List.size_toArray, List.length_cons, List.length_nil, Nat.reduceAdd, Nat.reduceSub, Array.replicate_succ, Array.replicate_zero, List.push_toArray, List.append_toArray, List.nil_append, List.cons_append]
    gi_wp2_with (refine ⟨trivial, ?_⟩; gi_at_call 44; refine (callsIn_wide.2 (pairsI_any _ _ _ _ _ _ _)).mono ?_; rintro e w' ⟨rfl, rfl⟩)
    have bF := (((Boxed.new w 60 (.func (.func 36) #[] #[])).alloc (.cells #[.bool false] 4)).alloc (.cells #[.slice A n c] 22)).alloc (.cells #[.slice A' n c'] 39)
    have bR := ((Boxed.new (w.alloc (.cells #[.func (.func 36) #[] #[]] 60)) 4 (.bool false)).alloc (.cells #[.slice A n c] 22)).alloc (.cells #[.slice A' n c'] 39)
    have b1 := (Boxed.new ((w.alloc (.cells #[.func (.func 36) #[] #[]] 60)).alloc (.cells #[.bool false] 4)) 22 (.slice A n c)).alloc (.cells #[.slice A' n c'] 39)
    have b2 := Boxed.new (((w.alloc (.cells #[.func (.func 36) #[] #[]] 60)).alloc (.cells #[.bool false] 4)).alloc (.cells #[.slice A n c] 22)) 39 (.slice A' n c')
    have hB0 : Below w.heap.size w ((((w.alloc (.cells #[.func (.func 36) #[] #[]] 60)).alloc (.cells #[.bool false] 4)).alloc (.cells #[.slice A n c] 22)).alloc (.cells #[.slice A' n c'] 39)) :=
      ((((Below.refl _ w).alloc (Nat.le_refl _) _).alloc (by simp) _).alloc (by simp; omega) _).alloc (by simp; omega) _
    have hsz : ((((w.alloc (.cells #[.func (.func 36) #[] #[]] 60)).alloc (.cells #[.bool false] 4)).alloc (.cells #[.slice A n c] 22)).alloc (.cells #[.slice A' n c'] 39)).heap.size = w.heap.size + 4 := by simp
    simp only [World.size_alloc] at bF bR b1 b2 hB0
    obtain ⟨W0, hW0⟩ : ∃ W0, ((((w.alloc (.cells #[.func (.func 36) #[] #[]] 60)).alloc (.cells #[.bool false] 4)).alloc (.cells #[.slice A n c] 22)).alloc (.cells #[.slice A' n c'] 39)) = W0 := ⟨_, rfl⟩
    rw [hW0] at bF bR b1 b2 hB0 hsz ⊢
    clear hW0
    refine wpIn_rangeFunc_ownH rfl (by decide) (gf := 45) (lb := #[.pointer (some ⟨w.heap.size + 1 + 1, 0, none⟩), .pointer (some ⟨w.heap.size + 1 + 1 + 1, 0, none⟩)]) rfl trivial (enters_of Tryd.func45 (by kernel_rfl) rfl)
      (pairsI_stops 5 (by decide) (w.heap.size + 1 + 1) (w.heap.size + 1 + 1 + 1) w.heap.size A n c A' c' es bs f g hf hg W0 (by omega) b1 b2 (HS.out.below hB0) (HS'.out.below hB0)) KpB.trans (by rw [hsz]; exact kpB_b (by omega) (by omega) (by omega)) (Below.refl _ _) (fun _ => rfl)
      (fun pre W => Hid (pre.all (fun j => hasB (f j) (g j)) = true) ∧ Below W0.heap.size W0 W)
      (fun k pre W => Boxed W (w.heap.size + 1) 4 (.bool false) ∧ (k = .ret ∧ Hid (pre.all (fun j => hasB (f j) (g j)) = false)) ∧ Below w.heap.size w W)
      (OwnFrom.and (ownFrom_pure _ _) (ownFrom_below (Nat.le_refl _) (Nat.le_refl _)))
      (fun k => OwnFrom.and (Go.Own.from (boxed_own _ _ _) _) (OwnFrom.and (ownFrom_pure _ _) (ownFrom_below (Nat.le_refl _) (by omega))))
      ⟨rfl, Below.refl _ _⟩
      (fun x a' W => ∃ Bx, w.heap.size + 4 ≤ Bx ∧ Blk W Bx (f x) ∧ a' = { tmps := #[.slice A n c, .slice A' n c', .func (.func 36) #[] #[], undef, undef, .pointer (some ⟨w.heap.size, 0, none⟩), .pointer (some ⟨w.heap.size + 1, 0, none⟩), .pointer (some ⟨Bx, 0, none⟩), .int .i32 (g x), .slice A n c, .int .i64 n, .slice A' n c', .int .i64 n, .bool false, .slice A n c, .slice A' n c', .func (.func 45) #[] #[.pointer (some ⟨w.heap.size + 1 + 1, 0, none⟩), .pointer (some ⟨w.heap.size + 1 + 1 + 1, 0, none⟩)], encS (f x), .int .i32 (g x), undef, undef, undef, undef, undef], defers := [] })
      (fun x a' u X Y row hs hg hr => by obtain ⟨Bx, e1, e3, e5⟩ := hs; exact ⟨Bx, e1, e3.kept hg (fun r e => (hr r e).2), e5⟩)
      ?assign ?body ?done ?stop
    case assign =>
      intro l pre x W K hi hK
      unfold encS
      gi_wp2
      have bb := below_lit W (.cells #[.int .i32 (f x).1, .int .i32 (f x).2] 36)
      obtain ⟨i3, i4⟩ := hi
      have h4 := i4.size
      refine hK _ _ (KeepsFrom.of_below bb) (KpB.of_below bb (by omega)) ⟨i3, thn i4 bb⟩ ⟨W.heap.size, by omega, Blk.lit W _ _, rfl⟩
    case body =>
      rintro l pre x a' W hl _ ⟨i3, i4⟩ ⟨Bx, hx, kx, rfl⟩ hlen
      obtain ⟨z, HZ⟩ : ∃ z, Hid (hasB (f x) (g x) = z) := ⟨_, rfl⟩
      have HA : Hid ((pre ++ [x]).all (fun j => hasB (f j) (g j)) = z) := by
        unfold Hid
        rw [List.all_append, i3.out, ← HZ.out]; simp
      have c0 := (boxed_next bF i4).cell
      obtain ⟨x0, x1⟩ := kx.cells
      have I2 := Lib.hid (boxed_next bR i4)
      have I4 := Lib.hid i4
      clear i4 kx i3
      unfold encS
      cases z
      · gi_wp2_with (refine ⟨trivial, ?_⟩; gi_at_call 36; refine (CallsIn.inRound l (callsIn_wide.2 (has_of HZ.out))).mono ?_; rintro e w5 ⟨rfl, b5⟩; have J2 := Lib.hid (boxed_next I2.out b5); have c2 := J2.out.cell; have f2 := J2.out.frozen)
        have bb := hB0.trans ((I4.out.trans (b5.mono I4.out.size)).mono hB0.size)
        exact ⟨(KeepsFrom.of_below b5).trans ((KeepsOthers.setCell _ _ _).from _), J2.out.set _, ⟨rfl, HA⟩, bb.setCell (by simp) _⟩
      · gi_wp2_with (refine ⟨trivial, ?_⟩; gi_at_call 36; refine (CallsIn.inRound l (callsIn_wide.2 (has_of HZ.out))).mono ?_; rintro e w5 ⟨rfl, b5⟩)
        exact ⟨KeepsFrom.of_below b5, KpB.of_below b5 (by have := I4.out.size; omega), HA, thn I4.out b5⟩
    case done =>
      rintro D ys W hD rfl ⟨i3, i4⟩ hK
      have I2 := Lib.hid (boxed_next bR i4)
      have c2 := I2.out.cell
      have f2 := I2.out.frozen
      gi_wp2
      have hK' := (KeepsOthers.setCell W ⟨w.heap.size + 1, 0, none⟩ (.bool true)).same D _ hK rfl
      refine ⟨by simp, .inl ⟨_, _, rfl, run_takeDeferred hK', ?_⟩⟩
      have hc5 := cell_kept (I2.out.set (.bool true)).cell (grownBy_putObj' _ D (.deferred none)) (fun r e => by cases e; exact ⟨_, hK', rfl⟩)
      have bb := (hB0.trans (i4.mono hB0.size)).setCell (p := ⟨w.heap.size + 1, 0, none⟩) (by simp) (.bool true)
      refine ⟨.bool true, ?_, by rw [i3.out], bb.trans (belowK_b (w := w) (Nat.le_refl _) _ D _ _ (by omega) hK' rfl rfl)⟩
      simp [results, Tryd.f35, go_sem, hc5]
    case stop =>
      rintro D k pre W hD ⟨m, hm, rfl⟩ ⟨i1, ⟨rfl, i3⟩, i4⟩ hK
      gi_wp2
      refine ⟨by simp, .inl ⟨_, _, rfl, run_takeDeferred hK, ?_⟩⟩
      have hc5 := cell_kept i1.cell (grownBy_putObj' _ D (.deferred none)) (fun r e => by cases e; exact ⟨_, hK, rfl⟩)
      refine ⟨.bool false, ?_, ?_, i4.trans (belowK_b (w := w) (Nat.le_refl _) _ D _ _ (by omega) hK rfl rfl)⟩
      · simp [results, Tryd.f35, go_sem, hc5]
      · congr 2
        refine Eq.symm (Bool.eq_false_iff.2 fun h => ?_)
        rw [List.all_eq_true] at h
        have h2 : (List.range m).all (fun j => hasB (f j) (g j)) = true := List.all_eq_true.2 fun j hj => h j (List.mem_range.2 (Nat.lt_of_lt_of_le (List.mem_range.1 hj) hm))
        rw [i3.out] at h2
        cases h2
  · have HV : Hid ((decide (es.length = bs.length) && (es.zip bs).all fun x => hasB x.1 x.2) = false) := by
      unfold Hid
      rw [decide_eq_false (fun e => hn (by rw [HL.out, HL'.out, e])), Bool.false_and]
    rw [HV.out]
    refine callsIn_wide.2 ?_
    clear HV HL HL' h h' hr
    go_enter Tryd.func35, Tryd.ntmps35
    go_wp2
    refine bodyPost_ret (v := .bool false) (by simp [results, Tryd.results35, go_sem]) rfl ⟨rfl, ?_⟩
    first | exact Go.Joins.below_alloc2 w _ _ | exact (Go.Joins.below_alloc2 w _ _).setCell (by simp) _
theorem everyCov_any (A : Option Addr) (n c : Nat) (es : List (Int × Int)) (A' : Option Addr) (n' c' : Nat) (bs : List (Int × Int)) (w : World) (hT : Tab w) (hr : ∀ p ∈ es, inR p) (hs : ∀ p ∈ bs, inR p) (h : Sp w w.heap.size A n c es) (h' : Sp w w.heap.size A' n' c' bs) :
    Calls Tryd.prog 33 #[.slice A n c, .slice A' n' c', .func (.func 34) #[] #[]] w fun e w' => e = .returned (.bool (decide (es.length = bs.length) && (es.zip bs).all fun x => covB x.1 x.2)) ∧ Below w.heap.size w w' :=
  callsIn_wide.1 (everyCov_in A n c es A' n' c' bs w hT hr hs h h')
theorem everyWit_any (A : Option Addr) (n c : Nat) (es : List (Int × Int)) (A' : Option Addr) (n' c' : Nat) (bs : List (Int × Int)) (w : World) (hT : Tab w) (hr : ∀ p ∈ es, inR p) (hs : ∀ p ∈ bs, inR p) (h : Sp w w.heap.size A n c es) (h' : Sp w w.heap.size A' n' c' bs) :
    Calls Tryd.prog 33 #[.slice A n c, .slice A' n' c', .func (.func 41) #[] #[]] w fun e w' => e = .returned (.bool (decide (es.length = bs.length) && (es.zip bs).all fun x => withinB x.1 x.2)) ∧ Below w.heap.size w w' :=
  callsIn_wide.1 (everyWit_in A n c es A' n' c' bs w hT hr hs h h')
theorem everyHas_any (A : Option Addr) (n c : Nat) (es : List (Int × Int)) (A' : Option Addr) (n' c' : Nat) (bs : List Int) (w : World) (hr : ∀ p ∈ es, inR p) (h : Sp w w.heap.size A n c es) (h' : Si w w.heap.size A' n' c' bs) :
    Calls Tryd.prog 35 #[.slice A n c, .slice A' n' c', .func (.func 36) #[] #[]] w fun e w' => e = .returned (.bool (decide (es.length = bs.length) && (es.zip bs).all fun x => hasB x.1 x.2)) ∧ Below w.heap.size w w' :=
  callsIn_wide.1 (everyHas_in A n c es A' n' c' bs w hr h h')
end Go.Proofs.YtmajempbncllgaaDoor
