/- Layer 5: filter.Meet. -/
import Derived.Test.YtmajempbncllgaaDoorEv
namespace Go.Proofs.YtmajempbncllgaaDoor
open Go.RowKit
set_option linter.unusedVariables false
attribute [local go_sem] Oper.semAt_some
theorem range_map {α β γ : Type} (es : List α) (bs : List β) (f : Nat → α) (g : Nat → β) (t : α → β → γ) (hl : es.length = bs.length) (hf : ∀ j p, es[j]? = some p → f j = p) (hg : ∀ j p, bs[j]? = some p → g j = p) :
    (List.range es.length).map (fun j => t (f j) (g j)) = (es.zip bs).map fun x => t x.1 x.2 := by
  apply List.ext_getElem
  · simp [hl]
  · intro j h1 h2
    have hlt : j < es.length := by simpa using h1
    have e1 : es[j]? = some es[j] := List.getElem?_eq_getElem hlt
    have e2 : bs[j]? = some (bs[j]'(by omega)) := List.getElem?_eq_getElem (by omega)
    simp [hf j _ e1, hg j _ e2]
theorem grown_below {W w1 : World} (h : W.grownBy w1 none) : Below W.heap.size W w1 := (Below.refl _ W).grown h (Nat.le_refl _) (fun _ e => by cases e)
theorem ownFrom_size {β : Type} (B H : Nat) : OwnFrom B (fun (_ : β) W => H ≤ W.heap.size) := fun _ _ _ _ hs hg _ => Nat.le_trans hs hg.size
theorem kp_set {n0 B1 B2 B : Nat} {W W' : World} (h : KpB n0 B1 B2 W W') (hn : n0 ≤ B) (h1 : B1 ≠ B) (h2 : B2 ≠ B) (i : Nat) (u : Value) : KpB n0 B1 B2 W (W'.setCell ⟨B, i, none⟩ u) :=
  ⟨h.1.setCell (p := ⟨B, i, none⟩) hn u, fun o ho => (Below.heap_setCell _ _ _ _ h1).trans (h.2.1 o ho), fun o ho => (Below.heap_setCell _ _ _ _ h2).trans (h.2.2 o ho)⟩
theorem row_keeps {W w1 : World} {n0 e size : Nat} {v : Value} {k : Nat} {xs : List Value} (hr : W.ownsRow n0 e size v k xs) (hg : W.grownBy w1 v.ownBlock) : KeepsOthers W w1 :=
  KeepsOthers.of_grownBy hg fun j o ej hj => by
    rcases hr.2 with ⟨rfl, _⟩ | ⟨g, cap, cur, rfl, _, hgb, _⟩
    · simp [Value.ownBlock] at ej
    · obtain rfl : g = j := by simpa [Value.ownBlock] using ej
      rw [hgb] at hj; cases hj; rfl
theorem row_below {W w1 : World} {n0 e size : Nat} {v : Value} {k : Nat} {xs : List Value} (hr : W.ownsRow n0 e size v k xs) (hg : W.grownBy w1 v.ownBlock) (hn : n0 ≤ W.heap.size) : Below n0 W w1 :=
  (Below.refl n0 W).grown hg hn fun j ej => (World.ownsRow.lt hr j ej).1
/-- What a row owns it owns while memory grows. -/
theorem row_next {W W' : World} {n0 e size : Nat} {v : Value} {k : Nat} {xs : List Value} (h : W.ownsRow n0 e size v k xs) (hb : Below W.heap.size W W') : W'.ownsRow n0 e size v k xs := by
  refine ⟨h.1, ?_⟩
  rcases h.2 with h2 | ⟨g, cap, cur, hv, hg, hh, r⟩
  · exact .inl h2
  · exact .inr ⟨g, cap, cur, hv, hg, by rw [hb.block g (Array.getElem?_eq_some_iff.1 hh).1]; exact hh, r⟩
theorem kp_grown {n0 B1 B2 : Nat} {W W' : World} {row : Option Nat} (hg : W.grownBy W' row) (h1 : some B1 ≠ row) (h2 : some B2 ≠ row) (hn : n0 ≤ W.heap.size) (hr : ∀ k, row = some k → n0 ≤ k) : KpB n0 B1 B2 W W' :=
  ⟨(Below.refl n0 W).grown hg hn hr, fun o ho => (hg.block B1 (Array.getElem?_eq_some_iff.1 ho).1 h1).trans ho, fun o ho => (hg.block B2 (Array.getElem?_eq_some_iff.1 ho).1 h2).trans ho⟩
theorem lit_cells (W : World) (x y : Value) (t : TypeId) (H : Nat) (hH : W.heap.size = H) : ∀ j u, [x, y][j]? = some u → (W.alloc (.cells #[x, y] t)).cell? ((⟨H, 0, none⟩ : Addr).add j) = some u := by
  subst hH
  intro j u hu
  rw [Addr.add_lit, Nat.zero_add, cell_of_row _ _ j #[x, y] t (0, 0) (heap_alloc_new W _)]
  simpa using hu
theorem row_shape {W : World} {n0 e size : Nat} {v : Value} {k : Nat} {xs : List Value} (hr : W.ownsRow n0 e size v k xs) : ∃ A2 c2, v = .slice A2 k c2 := by
  rcases hr.2 with ⟨rfl, h0⟩ | ⟨g, cap, cur, rfl, _⟩
  · exact ⟨none, 0, by rw [h0]⟩
  · exact ⟨_, _, rfl⟩
set_option maxRecDepth 100000 in
set_option maxHeartbeats 4000000 in
theorem meetF_in (A : Option Addr) (n c : Nat) (es : List (Int × Int)) (A' : Option Addr) (n' c' : Nat) (bs : List (Int × Int)) (w : World) (hT : Tab w) (hr : ∀ p ∈ es, inR p) (hs : ∀ p ∈ bs, inR p) (h : Sp w w.heap.size A n c es) (h' : Sp w w.heap.size A' n' c' bs) (hn8 : n ≤ 1000000) :
    CallsIn Fence.wide 6 Tryd.prog 16 #[.slice A n c, .slice A' n' c'] w (GaveF (meetF es bs) w) := by
  have HL : Hid (n = es.length) := sp_len h
  have HL' : Hid (n' = bs.length) := sp_len h'
  by_cases hn : n = n'
  · subst hn
    obtain ⟨f, hf, hfr⟩ := pick_f es hr
    obtain ⟨g, hg, hgr⟩ := pick_f bs hs
    have HA : Hid ((List.range n).all (fun j => meetB (f j) (g j)) = (es.zip bs).all fun x => meetB x.1 x.2) := by
      unfold Hid
      rw [HL.out]
      exact range_all es bs f g meetB (HL.out.symm.trans HL'.out) hf hg
    have HM : Hid ((List.range n).map (fun j => meetP (f j) (g j)) = (es.zip bs).map fun x => meetP x.1 x.2) := by
      unfold Hid
      rw [HL.out]
      exact range_map es bs f g meetP (HL.out.symm.trans HL'.out) hf hg
    have HF : Hid (meetF es bs = if ((es.zip bs).all fun x => meetB x.1 x.2) = true then (es.zip bs).map (fun x => meetP x.1 x.2) else []) := by
      unfold Hid meetF
      simp only [HL.out.symm.trans HL'.out, true_and]
    rw [← HA.out, ← HM.out] at HF
    obtain ⟨R, HR⟩ : ∃ R, Hid (meetF es bs = R) := ⟨_, rfl⟩
    rw [HR.out] at HF ⊢
    have HS := Lib.hid h
    have HS' := Lib.hid h'
    have HT := Lib.hid hT
    obtain ⟨i0, hi, hz0, hz1, hz2⟩ := info_parts infoSpan
    clear h h' hT hr hs HL HL' HA HM HR
    refine callsIn_of_wp_marks Tryd.func16 rfl trivial ?_ rfl
    simp only [Tryd.ntmps16, List.size_toArray, List.length_cons, List.length_nil, Nat.reduceAdd, Nat.reduceSub, Array.replicate_succ, Array.replicate_zero, List.push_toArray, List.append_toArray, List.nil_append, List.cons_append]
    gi_wp2_with (first
      | (refine ⟨trivial, ?_⟩; gi_at_call 31; refine (callsIn_wide.2 (pairsS_any _ _ _ _ _ _ _)).mono ?_; rintro e w' ⟨rfl, rfl⟩)
      | (gi_at_make; refine wpListIn_make_own _ rfl _ _ 24 rfl w.heap.size 36 i0 _ 2 Tryd.underlying24 hi hz0 hz1 .i64 .i64 n n rfl rfl rfl (by rw [hz2]; omega) (by simp only [maxLen]; omega) (by simp) ?_; intro w1 o1 g1))
    simp only [World.size_alloc] at o1 ⊢
    have bM := boxed_next (Boxed.new w 24 (.slice none 0 0)) (grown_below g1)
    have hs1 : w.heap.size + 1 < w1.heap.size := by
      rcases o1.2 with ⟨e, _⟩ | ⟨g, cap, cur, e, _, hgb, _⟩
      · cases e
      · injection e with e; injection e with e; injection e with e
        have := (Array.getElem?_eq_some_iff.1 hgb).1
        omega
    have bw1 : Below w.heap.size w w1 := (below_lit w _).trans ((grown_below g1).mono (by simp))
    generalize hvs : Value.slice (some { block := w.heap.size + 1, off := 0 }) 0 n = vs at o1 ⊢
    have W0b : Below w1.heap.size w1 (((w1.alloc (.cells #[vs] 24)).alloc (.cells #[.slice A n c] 22)).alloc (.cells #[.slice A' n c'] 22)) := (((Below.refl _ w1).alloc (Nat.le_refl _) _).alloc (by simp) _).alloc (by simp; omega) _
    have bO := ((Boxed.new w1 24 vs).alloc (.cells #[.slice A n c] 22)).alloc (.cells #[.slice A' n c'] 22)
    have b1 := (Boxed.new (w1.alloc (.cells #[vs] 24)) 22 (.slice A n c)).alloc (.cells #[.slice A' n c'] 22)
    have b2 := Boxed.new ((w1.alloc (.cells #[vs] 24)).alloc (.cells #[.slice A n c] 22)) 22 (.slice A' n c')
    have hsz : (((w1.alloc (.cells #[vs] 24)).alloc (.cells #[.slice A n c] 22)).alloc (.cells #[.slice A' n c'] 22)).heap.size = w1.heap.size + 3 := by simp
    simp only [World.size_alloc] at b1 b2
    obtain ⟨W0, hW0⟩ : ∃ W0, (((w1.alloc (.cells #[vs] 24)).alloc (.cells #[.slice A n c] 22)).alloc (.cells #[.slice A' n c'] 22)) = W0 := ⟨_, rfl⟩
    rw [hW0] at bO b1 b2 W0b hsz ⊢
    clear hW0
    have hB0 : Below w.heap.size w W0 := bw1.trans (W0b.mono bw1.size)
    have o0 := row_next o1 W0b
    have bM0 := boxed_next bM W0b
    clear o1 bM g1
    refine wpIn_rangeFunc_ownH rfl (by decide) (gf := 42) (lb := #[.pointer (some ⟨w1.heap.size + 1, 0, none⟩), .pointer (some ⟨w1.heap.size + 1 + 1, 0, none⟩)]) rfl trivial (enters_of Tryd.func42 (by kernel_rfl) rfl)
      (pairsS_stops 5 (by decide) (w1.heap.size + 1) (w1.heap.size + 1 + 1) w.heap.size A n c A' c' es bs f g hf hg W0 (by omega) b1 b2 (HS.out.below hB0) (HS'.out.below hB0)) KpB.trans (by rw [hsz]; exact kpB_b (by omega) (by omega) (by omega)) (Below.refl _ _) (fun _ => rfl)
      (fun pre W => (∃ v, Boxed W w1.heap.size 24 v ∧ W.ownsRow w.heap.size 36 2 v pre.length (spl (pre.map fun j => meetP (f j) (g j))) ∧ True) ∧ (Boxed W w.heap.size 24 (.slice none 0 0) ∧ Boxed W (w1.heap.size + 1) 22 (.slice A n c) ∧ Boxed W (w1.heap.size + 1 + 1) 22 (.slice A' n c')) ∧ Hid (pre.all (fun j => meetB (f j) (g j)) = true) ∧ Below w.heap.size w W ∧ W0.heap.size ≤ W.heap.size)
      (fun k pre W => Boxed W w.heap.size 24 (.slice none 0 0) ∧ (k = .ret ∧ Hid (pre.all (fun j => meetB (f j) (g j)) = false)) ∧ Below w.heap.size w W)
      (OwnFrom.and (Go.Own.from (holdsRow_own w.heap.size w1.heap.size 24 36 2 (fun pre : List Nat => pre.length) (fun pre : List Nat => spl (pre.map fun j => meetP (f j) (g j))) (fun _ _ => True)) _) (OwnFrom.and (OwnFrom.and (Go.Own.from (boxed_own _ _ _) _) (OwnFrom.and (Go.Own.from (boxed_own _ _ _) _) (Go.Own.from (boxed_own _ _ _) _))) (OwnFrom.and (ownFrom_pure _ _) (OwnFrom.and (ownFrom_below (Nat.le_refl _) (by omega)) (ownFrom_size _ _)))))
      (fun k => OwnFrom.and (Go.Own.from (boxed_own _ _ _) _) (OwnFrom.and (ownFrom_pure _ _) (ownFrom_below (Nat.le_refl _) (by omega))))
      ⟨⟨vs, bO, o0, trivial⟩, ⟨bM0, b1, b2⟩, rfl, hB0, Nat.le_refl _⟩
      (fun x a' W => ∃ Bx By, W0.heap.size ≤ Bx ∧ W0.heap.size ≤ By ∧ Blk W Bx (f x) ∧ Blk W By (g x) ∧ a' = { tmps := #[.slice A n c, .slice A' n c', undef, undef, .pointer (some ⟨w.heap.size, 0, none⟩), .pointer (some ⟨w1.heap.size, 0, none⟩), .pointer (some ⟨Bx, 0, none⟩), .pointer (some ⟨By, 0, none⟩), undef, undef, .slice A n c, .int .i64 n, .slice A' n c', .int .i64 n, .bool false, .slice A n c, .int .i64 n, vs, .slice A n c, .slice A' n c', .func (.func 42) #[] #[.pointer (some ⟨w1.heap.size + 1, 0, none⟩), .pointer (some ⟨w1.heap.size + 1 + 1, 0, none⟩)], encS (f x), encS (g x), undef, undef, undef, undef, undef, undef, undef, undef, undef, undef, undef, undef, undef], defers := [] })
      (fun x a' u X Y row hs hg hr => by obtain ⟨Bx, By, e1, e2, e3, e4, e5⟩ := hs; exact ⟨Bx, By, e1, e2, e3.kept hg (fun r e => (hr r e).2), e4.kept hg (fun r e => (hr r e).2), e5⟩)
      ?assign ?body ?done ?stop
    case assign =>
      intro l pre x W K hi hK
      unfold encS
      gi_wp2
      have bb := Go.Joins.below_alloc2 W (.cells #[.int .i32 (f x).1, .int .i32 (f x).2] 36) (.cells #[.int .i32 (g x).1, .int .i32 (g x).2] 36)
      obtain ⟨⟨v, k1, k2, _⟩, ⟨k3, k4, k5⟩, i3, i4, i5⟩ := hi
      have h4 := i4.size
      refine hK _ _ (KeepsFrom.of_below bb) (KpB.of_below bb (by omega)) ⟨⟨v, boxed_next k1 bb, row_next k2 bb, trivial⟩, ⟨boxed_next k3 bb, boxed_next k4 bb, boxed_next k5 bb⟩, i3, thn i4 bb, Nat.le_trans i5 bb.size⟩ ⟨W.heap.size, W.heap.size + 1, by omega, by omega, (Blk.lit W _ _).old _, ?_, rfl⟩
      have := Blk.lit (W.alloc (.cells #[.int .i32 (f x).1, .int .i32 (f x).2] 36)) (g x).1 (g x).2
      simpa using this
    case body =>
      rintro l pre x a' W hl _ ⟨⟨v, k1, k2, _⟩, ⟨k3, k4, k5⟩, i3, i4, i5⟩ ⟨Bx, By, hx, hy, kx, ky, rfl⟩ hlen
      obtain ⟨z, HZ⟩ : ∃ z, Hid (meetB (f x) (g x) = z) := ⟨_, rfl⟩
      obtain ⟨m, HM⟩ : ∃ m, Hid (meetP (f x) (g x) = m) := ⟨_, rfl⟩
      have HA : Hid ((pre ++ [x]).all (fun j => meetB (f j) (g j)) = z) := by
        unfold Hid
        rw [List.all_append, i3.out, ← HZ.out]; simp
      have HP : Hid (spl ((pre ++ [x]).map fun j => meetP (f j) (g j)) = spl (pre.map fun j => meetP (f j) (g j)) ++ [.int .i32 m.1, .int .i32 m.2]) := by
        unfold Hid
        rw [List.map_append, spl_append, List.map_cons, List.map_nil, HM.out]; rfl
      obtain ⟨x0, x1⟩ := kx.cells
      obtain ⟨y0, y1⟩ := ky.cells
      have HTW := Lib.hid (HT.out.next i4)
      have I1 := Lib.hid k1
      have I2 := Lib.hid k2
      have I3 := Lib.hid k3
      have I4 := Lib.hid k4
      have I5 := Lib.hid k5
      have B4 := Lib.hid i4
      clear k1 k2 k3 k4 k5 i4 kx ky i3
      unfold encS
      cases z
      · gi_wp2_with (refine ⟨trivial, ?_⟩; gi_at_call 32; refine (CallsIn.inRound l (callsIn_wide.2 (meet_of HTW.out (hfr x) (hgr x) HM.out HZ.out))).mono ?_; rintro e w5 ⟨rfl, b5⟩; have b6 := thn b5 (below_lit w5 (.cells #[.int .i32 m.1, .int .i32 m.2] 36)); have J2 := Lib.hid (boxed_next I3.out b6); have c2 := J2.out.cell; have f2 := J2.out.frozen)
        have bb := B4.out.trans (b6.mono B4.out.size)
        exact ⟨(KeepsFrom.of_below b6).trans ((KeepsOthers.setCell _ _ _).from _), J2.out.set _, ⟨rfl, HA⟩, bb.setCell (by simp) _⟩
      · obtain ⟨A2, c4, rfl⟩ := row_shape I2.out
        have hpl : pre.length + 1 ≤ 1000000 := by omega
        have hWs := B4.out.size
        gi_wp2_with (first
          | (refine ⟨trivial, ?_⟩; gi_at_call 32; refine (CallsIn.inRound l (callsIn_wide.2 (meet_of HTW.out (hfr x) (hgr x) HM.out HZ.out))).mono ?_; rintro e w5 ⟨rfl, b5⟩; have b6 := thn b5 (below_lit w5 (.cells #[.int .i32 m.1, .int .i32 m.2] 36)); have J2 := Lib.hid (boxed_next I1.out b6); have O2 := Lib.hid (row_next I2.out b6); have c2 := J2.out.cell; have f2 := J2.out.frozen)
          | (gi_at_builtin; go_must (refine wpListIn_append_own _ rfl _ _ 24 rfl w.heap.size 36 i0 _ 2 8 Tryd.underlying24 hi hz0 hz1 hz2 rfl (by decide) (.slice A2 pre.length c4) pre.length (spl (pre.map fun j => meetP (f j) (g j))) rfl (O2.out.alloc _) ⟨w5.heap.size + 1, 0, none⟩ 1 1 [.int .i32 m.1, .int .i32 m.2] rfl rfl (lit_cells _ _ _ _ _ (by simp only [World.size_alloc])) (span_one _ _) (by simp only [maxLen]; omega) (by omega) (by have := b6.size; simp at this ⊢; omega) ?_); intro v' w8 o8 g8 _; obtain ⟨A8, c8, rfl⟩ := row_shape o8; obtain ⟨h81, h82, h83, h84, h85⟩ := J2.out.appended (by decide) O2.out (by have := b6.size; omega) (by omega) o8 g8; have c8' := h81.cell; have f8' := h81.frozen))
        have J3 := boxed_next I3.out b6
        have J4 := boxed_next I4.out b6
        have J5 := boxed_next I5.out b6
        have K3 := (J3.alloc (.cells #[.int .i32 m.1, .int .i32 m.2] 36)).kept g8 (J3.not_row (by decide) O2.out)
        have K4 := (J4.alloc (.cells #[.int .i32 m.1, .int .i32 m.2] 36)).kept g8 (J4.not_row (by decide) O2.out)
        have K5 := (J5.alloc (.cells #[.int .i32 m.1, .int .i32 m.2] 36)).kept g8 (J5.not_row (by decide) O2.out)
        have h6 := b6.size
        have h8 := h84.size
        have hkp : KpB w.heap.size (w1.heap.size + 1) (w1.heap.size + 1 + 1) W w8 :=
          ((KpB.of_below b6 hWs).trans (KpB.of_below (below_lit _ (.cells #[.int .i32 m.1, .int .i32 m.2] 36)) (by omega))).trans (kp_grown g8 (J4.not_row (by decide) O2.out) (J5.not_row (by decide) O2.out) (by simp only [World.size_alloc] at h6 ⊢; omega) (fun k e => (World.ownsRow.lt O2.out k e).1))
        refine ⟨(KeepsFrom.of_below b6).trans (h84.from _), kp_set hkp (by omega) (by omega) (by omega) 0 _, ⟨_, h82, ?_, trivial⟩, ⟨K3.other (by omega) _, K4.other (by omega) _, K5.other (by omega) _⟩, HA, (B4.out.trans (b6.mono hWs)).trans h85, Nat.le_trans i5 (Nat.le_trans h6 h8)⟩
        simp only [List.length_append, List.length_singleton]
        rw [HP.out]
        exact h83
    case done =>
      rintro D ys W hD rfl ⟨⟨v, k1, k2, _⟩, ⟨k3, k4, k5⟩, i3, i4, i5⟩ hK
      have hl : ((List.range n).map fun j => meetP (f j) (g j)).length = (List.range n).length := List.length_map _
      obtain ⟨A2, c4, rfl⟩ := row_shape k2
      generalize hps : (List.range n).map (fun j => meetP (f j) (g j)) = ps at *
      generalize hnn : (List.range n).length = nn at *
      have hFF : R = ps := HF.out.trans (if_pos i3.out)
      have I2 := Lib.hid k2
      have I3 := Lib.hid k3
      have I4 := Lib.hid i4
      have c1 := k1.cell
      have c3 := k3.cell
      have f3 := k3.frozen
      clear k1 k2 k3 k4 k5 i4
      gi_wp2
      have hK' := (KeepsOthers.setCell W ⟨w.heap.size, 0, none⟩ (.slice A2 nn c4)).same D _ hK rfl
      refine ⟨by simp, .inl ⟨_, _, rfl, run_takeDeferred hK', ?_⟩⟩
      have hc5 := cell_kept (I3.out.set (.slice A2 nn c4)).cell (grownBy_putObj' _ D (.deferred none)) (fun r e => by cases e; exact ⟨_, hK', rfl⟩)
      have bb := I4.out.setCell (p := ⟨w.heap.size, 0, none⟩) (Nat.le_refl _) (.slice A2 nn c4)
      have o2 := ownsRow_putObj (I2.out.kept (grownBy_setCell' W w.heap.size (.slice A2 nn c4)) (.inr (I3.out.not_row (by decide) I2.out).symm)) (.deferred none) hK' rfl
      refine ⟨.slice A2 nn c4, ?_, ?_⟩
      · simp [results, Tryd.f16, go_sem, hc5]
      · rw [hFF]
        exact ⟨A2, c4, by rw [hl], by rw [hl]; exact Sn.of_own o2, bb.trans (belowK_b (w := w) (Nat.le_refl _) _ D _ _ (by omega) hK' rfl rfl)⟩
    case stop =>
      rintro D k pre W hD ⟨m, hm, rfl⟩ ⟨i1, ⟨rfl, i3⟩, i4⟩ hK
      gi_wp2
      refine ⟨by simp, .inl ⟨_, _, rfl, run_takeDeferred hK, ?_⟩⟩
      have hc5 := cell_kept i1.cell (grownBy_putObj' _ D (.deferred none)) (fun r e => by cases e; exact ⟨_, hK, rfl⟩)
      have hFF : R = [] := by
        refine HF.out.trans (if_neg fun h => ?_)
        rw [List.all_eq_true] at h
        have h2 : (List.range m).all (fun j => meetB (f j) (g j)) = true := List.all_eq_true.2 fun j hj => h j (List.mem_range.2 (Nat.lt_of_lt_of_le (List.mem_range.1 hj) hm))
        rw [i3.out] at h2
        cases h2
      refine ⟨.slice none 0 0, ?_, ?_⟩
      · simp [results, Tryd.f16, go_sem, hc5]
      · rw [hFF]
        exact ⟨none, 0, rfl, sp_zero _ _ _, i4.trans (belowK_b (w := w) (Nat.le_refl _) _ D _ _ (by omega) hK rfl rfl)⟩
  · have HV : Hid (meetF es bs = []) := if_neg (fun h => hn (by rw [HL.out, HL'.out, h.1]))
    rw [HV.out]
    refine callsIn_wide.2 ?_
    clear HV HL HL' h h' hr hs hT
    go_enter Tryd.func16, Tryd.ntmps16
    go_wp2
    refine bodyPost_ret (v := .slice none 0 0) (by simp [results, Tryd.results16, go_sem]) rfl ⟨none, 0, rfl, sp_zero _ _ _, ?_⟩
    first | exact below_lit w _ | exact (below_lit w _).setCell (by simp) _
theorem meetF_any (A : Option Addr) (n c : Nat) (es : List (Int × Int)) (A' : Option Addr) (n' c' : Nat) (bs : List (Int × Int)) (w : World) (hT : Tab w) (hr : ∀ p ∈ es, inR p) (hs : ∀ p ∈ bs, inR p) (h : Sp w w.heap.size A n c es) (h' : Sp w w.heap.size A' n' c' bs) (hn8 : n ≤ 1000000) :
    Calls Tryd.prog 16 #[.slice A n c, .slice A' n' c'] w (GaveF (meetF es bs) w) := callsIn_wide.1 (meetF_in A n c es A' n' c' bs w hT hr hs h h' hn8)
end Go.Proofs.YtmajempbncllgaaDoor
