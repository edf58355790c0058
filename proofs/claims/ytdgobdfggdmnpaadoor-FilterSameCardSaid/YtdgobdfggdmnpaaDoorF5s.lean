/- Layer 5: FilterSame. -/
import Derived.Test.YtdgobdfggdmnpaaDoorFq
import Derived.Test.YtdgobdfggdmnpaaDoorXor
namespace Go.Proofs.YtdgobdfggdmnpaaDoor
open Go.RowKit
set_option linter.unusedVariables false
theorem copyN (A : Option Addr) (n c : Nat) (l : List (Int × Int)) (w : World) (h : Sp w w.heap.size A n c l) (hn : n ≤ 1000000) :
    Calls Tryd.prog 19 #[.slice A n c] w fun e w' => ∃ A' c', e = .returned (.slice A' n c') ∧ Ows w' w.heap.size 42 2 A' n c' (spl l) ∧ Below w.heap.size w w' := by
  have hl := sp_len h
  have hc := copyF_any A n c l w h hn
  unfold GaveO at hc
  rwa [← hl] at hc
theorem Ows.at_ {w : World} {B : Nat} {E : TypeId} {s : Nat} {A : Option Addr} {n c : Nat} {xs : List Value} (h : Ows w B E s A n c xs) (hn : 0 < n) : ∃ g cur, A = some ⟨g, 0, none⟩ ∧ B ≤ g ∧ w.heap[g]? = some (.cells cur E (0, 0)) := by
  rcases h.2 with ⟨hv, _⟩ | ⟨g, cap, cur, hv, hB, hh, _⟩
  · injection hv with _ e2 _; omega
  · injection hv with e1 _ _; exact ⟨g, cur, e1, hB, hh⟩
theorem spl_set : ∀ (ps : List (Int × Int)) (j : Nat) (p : Int × Int) (y : Int), ps[j]? = some p → (spl ps).set (j * 2 + 1) (.int .i32 y) = spl (ps.set j (p.1, y))
  | [], j, p, y, h => by simp at h
  | q :: ps, 0, p, y, h => by
    have : q = p := by simpa using h
    subst this
    rfl
  | q :: ps, j + 1, p, y, h => by
    rw [show (j + 1) * 2 + 1 = j * 2 + 1 + 1 + 1 by omega, spl_cons, List.set_cons_succ, List.set_cons_succ, spl_set ps j p y (by simpa using h), List.set_cons_succ, spl_cons]
/-- A number of one span written over. -/
theorem sp_set {w : World} {k : Nat} {b n c : Nat} {es : List (Int × Int)} (h : Sp w k (some ⟨b, 0, none⟩) n c es) {j : Nat} {p : Int × Int} (hp : es[j]? = some p) (hj : j < n) (y : Int) :
    Sp (w.setCell ⟨b, j * 2 + 1, none⟩ (.int .i32 y)) k (some ⟨b, 0, none⟩) n c (es.set j (p.1, y)) := by
  obtain ⟨b', off, e, hb, hc⟩ := h.at_ (by omega)
  injection e with e
  injection e with e1 e2
  subst e1 e2
  have hl := h.len
  refine ⟨by rw [spl_length, List.length_set, ← spl_length]; exact hl, h.cap, h.max, fun hn => ⟨b, 0, rfl, hb, fun i u hu => ?_⟩⟩
  rw [← spl_set es j p y hp] at hu
  have hjl : j * 2 + 1 < (spl es).length := by rw [hl]; omega
  by_cases hi : i = j * 2 + 1
  · subst hi
    rw [List.getElem?_set_self hjl] at hu
    injection hu with hu
    subst hu
    have h0 := hc (j * 2 + 1) _ (List.getElem?_eq_getElem hjl)
    rw [Nat.zero_add] at h0 ⊢
    exact World.cell?_setCell_same' w _ _ (by rw [h0]; rfl)
  · rw [List.getElem?_set_ne (fun e => hi e.symm)] at hu
    have hne : (⟨b, j * 2 + 1, none⟩ : Addr) ≠ ⟨b, 0 + i, none⟩ := fun e => hi (by injection e with _ e; omega)
    rw [World.cell?_setCell_other _ _ _ _ hne]
    exact hc i u hu
theorem set_apart {es : List (Int × Int)} {j : Nat} {p : Int × Int} {y : Int} (hp : es[j]? = some p) (h : y ≠ p.2) : sameF (es.set j (p.1, y)) es = false := by
  refine decide_eq_false fun e => h ?_
  have hj : j < es.length := (List.getElem?_eq_some_iff.1 hp).1
  have h1 : (es.set j (p.1, y))[j]? = some (p.1, y) := List.getElem?_set_self hj
  rw [e, hp] at h1
  injection h1 with h1
  rw [h1]
theorem longer (es : List (Int × Int)) : sameF (es ++ [(0, 0)]) es = false := by
  refine decide_eq_false fun e => ?_
  have := congrArg List.length e
  simp at this
set_option maxHeartbeats 20000000 in
theorem fsame_walk (A1 : Option Addr) (n1 c1 : Nat) (es : List (Int × Int)) (a : Int) (w : World) (hT : Tab w) (i1 : ∀ p ∈ es, inR p) (ha0 : 0 ≤ a) (ha1 : a ≤ 255)
    (h1 : Sp w w.heap.size A1 n1 c1 es) :
    Calls Tryd.prog 8 #[.slice A1 n1 c1, .int .u8 a] w fun e w' => e = .returned (.bool true) ∧ Below w.heap.size w w' := by
  have HT := Lib.hid hT
  have HT0 := Lib.hid hT
  have B := Lib.hid (Below.refl w.heap.size w)
  have S1 := Lib.hid h1
  have S0 := Lib.hid h1
  have HL1 := Lib.hid (sp_len h1)
  have HE := Lib.hid (same_self es)
  have HX := Lib.hid (longer es)
  clear hT h1 i1
  by_cases hn1 : 8 < n1
  · have hn1' : (8 : Int) < n1 := by omega
    go_enter Tryd.func8, Tryd.ntmps8
    go_wp2_with fail
    refine (awake_any w HT.out).mono ?_
    rintro e w1 ⟨rfl, b5⟩
    replace B := Lib.hid (thn B.out b5)
    clear b5
    go_wp2
    go_ret
    exact ⟨rfl, B.out⟩
  have hn1' : (n1 : Int) ≤ 8 := by omega
  have hm1 : n1 ≤ 1000000 := by omega
  by_cases k0 : n1 = 0
  · obtain rfl : es = [] := List.eq_nil_of_length_eq_zero (by rw [← HL1.out]; exact k0)
    subst k0
    go_enter Tryd.func8, Tryd.ntmps8
    go_wp2_with fail
    have hc := copyN A1 0 c1 [] w S1.out hm1
    refine hc.mono ?_
    clear hc
    rintro e w1 ⟨A2, c2, rfl, s2, b5⟩
    have S2 := Lib.hid s2
    clear s2
    replace S1 := Lib.hid (S1.out.next b5)
    replace HT := Lib.hid (HT.out.next b5)
    replace B := Lib.hid (thn B.out b5)
    clear b5
    have SC := Lib.hid S2.out
    have BC := Lib.hid (Below.refl w1.heap.size w1)
    have hw1 := B.out.size
    go_wp2_with fail
    have hc := copyN A1 0 c1 [] w1 S1.out hm1
    refine hc.mono ?_
    clear hc
    rintro e w2 ⟨A3, c3, rfl, s3, b5⟩
    have S3 := Lib.hid s3
    clear s3
    replace S1 := Lib.hid (S1.out.next b5)
    replace S2 := Lib.hid (S2.out.below b5)
    replace HT := Lib.hid (HT.out.next b5)
    replace B := Lib.hid (thn B.out b5)
    replace BC := Lib.hid (thn BC.out b5)
    clear b5
    go_wp2_with fail
    have hc := sameF_any A2 0 c2 [] A1 0 c1 [] w2  (Sn.of_own S2.out) S1.out
    rw [HE.out] at hc
    refine hc.mono ?_
    clear hc
    rintro e w3 ⟨rfl, b5⟩
    replace S1 := Lib.hid (S1.out.next b5)
    replace S2 := Lib.hid (S2.out.below b5)
    replace S3 := Lib.hid (S3.out.below b5)
    replace HT := Lib.hid (HT.out.next b5)
    replace B := Lib.hid (thn B.out b5)
    replace BC := Lib.hid (thn BC.out b5)
    clear b5
    go_wp2_with fail
    refine (copyN A1 0 c1 [] w3 S1.out hm1).mono ?_
    rintro e w4 ⟨A4, c4, rfl, o4, b4⟩
    have hs4 := b4.size
    go_wp2_with (at_builtin; go_must (refine wpList_apps rfl _ _ 24 rfl Tryd.underlying24 infoSpan rfl (by decide) rfl (o4.below (below_lit _ _)) rfl (Sn.lit_at _ _ _ _ 2 1 _ (by simp) rfl (by decide)) (span_one _ _) (by omega) (by omega) (by decide) (by simp only [World.size_alloc]; omega) ?_); intro A9 c9 w5 o9 g9)
    have b5 : Below w3.heap.size w3 w5 := (b4.trans ((below_lit w4 _).mono b4.size)).grown g9 (by simp only [World.size_alloc]; omega) o4.lt
    have S4 : Hid (Ows w5 w3.heap.size 42 2 A9 (0 + 1) c9 (spl ([] ++ [(0, 0)]))) := by unfold Hid; rw [spl_append]; exact o9
    clear o9 g9 b4 o4 hs4
    replace S1 := Lib.hid (S1.out.next b5)
    replace S2 := Lib.hid (S2.out.below b5)
    replace S3 := Lib.hid (S3.out.below b5)
    replace HT := Lib.hid (HT.out.next b5)
    replace B := Lib.hid (thn B.out b5)
    replace BC := Lib.hid (thn BC.out b5)
    clear b5
    have hc := sameF_any A9 (0 + 1) c9 ([] ++ [(0, 0)]) A1 0 c1 [] w5  (Sn.of_own S4.out) S1.out
    rw [HX.out] at hc
    refine hc.mono ?_
    clear hc
    rintro e w6 ⟨rfl, b5⟩
    replace S1 := Lib.hid (S1.out.next b5)
    replace S2 := Lib.hid (S2.out.below b5)
    replace S3 := Lib.hid (S3.out.below b5)
    replace S4 := Lib.hid (S4.out.below b5)
    replace HT := Lib.hid (HT.out.next b5)
    replace B := Lib.hid (thn B.out b5)
    replace BC := Lib.hid (thn BC.out b5)
    clear b5
    go_wp2_with fail
    refine (awake_any w6 HT.out).mono ?_
    rintro e w7 ⟨rfl, b5⟩
    replace B := Lib.hid (thn B.out b5)
    clear b5
    go_wp2
    go_ret
    exact ⟨rfl, B.out⟩
  · have q0 : ((n1 : Int) == 0) = false := by simpa using k0
    have q1 : ¬ ((n1 : Int) = 0) := by omega
    have q2 : (0 : Int) < n1 := by omega
    obtain ⟨j, hj, hjn⟩ : ∃ j : Nat, Int.tmod a n1 = (j : Int) ∧ j < n1 := by
      refine ⟨(Int.tmod a n1).toNat, ?_, ?_⟩
      · have := Int.tmod_nonneg (n1 : Int) ha0
        omega
      · have h1 := Int.tmod_nonneg (n1 : Int) ha0
        have h2 := Int.tmod_lt_of_pos a q2
        omega
    obtain ⟨p, Hp⟩ : ∃ p, Hid (es[j]? = some p) := ⟨es[j]'(by rw [← HL1.out]; exact hjn), List.getElem?_eq_getElem _⟩
    obtain ⟨y, Hy⟩ : ∃ y, bits .xor .i32 p.2 1 = y := ⟨_, rfl⟩
    have HY := Lib.hid (set_apart Hp.out (show y ≠ p.2 from Hy ▸ xor1_i32 p.2))
    go_enter Tryd.func8, Tryd.ntmps8
    go_wp2_with fail
    have hc := copyN A1 n1 c1 es w S1.out hm1
    refine hc.mono ?_
    clear hc
    rintro e w1 ⟨A2, c2, rfl, s2, b5⟩
    have S2 := Lib.hid s2
    clear s2
    replace S1 := Lib.hid (S1.out.next b5)
    replace HT := Lib.hid (HT.out.next b5)
    replace B := Lib.hid (thn B.out b5)
    clear b5
    have SC := Lib.hid S2.out
    have BC := Lib.hid (Below.refl w1.heap.size w1)
    have hw1 := B.out.size
    go_wp2_with fail
    have hc := copyN A1 n1 c1 es w1 S1.out hm1
    refine hc.mono ?_
    clear hc
    rintro e w2 ⟨A3, c3, rfl, s3, b5⟩
    have S3 := Lib.hid s3
    clear s3
    replace S1 := Lib.hid (S1.out.next b5)
    replace S2 := Lib.hid (S2.out.below b5)
    replace HT := Lib.hid (HT.out.next b5)
    replace B := Lib.hid (thn B.out b5)
    replace BC := Lib.hid (thn BC.out b5)
    clear b5
    go_wp2_with fail
    have hc := sameF_any A2 n1 c2 es A1 n1 c1 es w2  (Sn.of_own S2.out) S1.out
    rw [HE.out] at hc
    refine hc.mono ?_
    clear hc
    rintro e w3 ⟨rfl, b5⟩
    replace S1 := Lib.hid (S1.out.next b5)
    replace S2 := Lib.hid (S2.out.below b5)
    replace S3 := Lib.hid (S3.out.below b5)
    replace HT := Lib.hid (HT.out.next b5)
    replace B := Lib.hid (thn B.out b5)
    replace BC := Lib.hid (thn BC.out b5)
    clear b5
    go_wp2_with fail
    refine (copyN A1 n1 c1 es w3 S1.out hm1).mono ?_
    rintro e w4 ⟨A4, c4, rfl, o4, b4⟩
    have hs4 := b4.size
    go_wp2_with (at_builtin; go_must (refine wpList_apps rfl _ _ 24 rfl Tryd.underlying24 infoSpan rfl (by decide) rfl (o4.below (below_lit _ _)) rfl (Sn.lit_at _ _ _ _ 2 1 _ (by simp) rfl (by decide)) (span_one _ _) (by omega) (by omega) (by decide) (by simp only [World.size_alloc]; omega) ?_); intro A9 c9 w5 o9 g9)
    have b5 : Below w3.heap.size w3 w5 := (b4.trans ((below_lit w4 _).mono b4.size)).grown g9 (by simp only [World.size_alloc]; omega) o4.lt
    have S4 : Hid (Ows w5 w3.heap.size 42 2 A9 (n1 + 1) c9 (spl (es ++ [(0, 0)]))) := by unfold Hid; rw [spl_append]; exact o9
    clear o9 g9 b4 o4 hs4
    replace S1 := Lib.hid (S1.out.next b5)
    replace S2 := Lib.hid (S2.out.below b5)
    replace S3 := Lib.hid (S3.out.below b5)
    replace HT := Lib.hid (HT.out.next b5)
    replace B := Lib.hid (thn B.out b5)
    replace BC := Lib.hid (thn BC.out b5)
    clear b5
    have hc := sameF_any A9 (n1 + 1) c9 (es ++ [(0, 0)]) A1 n1 c1 es w5  (Sn.of_own S4.out) S1.out
    rw [HX.out] at hc
    refine hc.mono ?_
    clear hc
    rintro e w6 ⟨rfl, b5⟩
    replace S1 := Lib.hid (S1.out.next b5)
    replace S2 := Lib.hid (S2.out.below b5)
    replace S3 := Lib.hid (S3.out.below b5)
    replace S4 := Lib.hid (S4.out.below b5)
    replace HT := Lib.hid (HT.out.next b5)
    replace B := Lib.hid (thn B.out b5)
    replace BC := Lib.hid (thn BC.out b5)
    clear b5
    obtain ⟨g, cur, rfl, hg, hh⟩ := S3.out.at_ (by omega)
    have fz : w6.frozen? ⟨g, j * 2 + 1, none⟩ = false := by simp [World.frozen?, hh]
    have S3s := Lib.hid (Sn.of_own S3.out)
    obtain ⟨b0, off0, p0, e0, hb0, hp0, cl0, cl1⟩ := sp_at S3s.out hjn
    injection e0 with e0
    injection e0 with e0 e1
    subst e0 e1
    obtain rfl : p = p0 := Option.some.inj (Hp.out.symm.trans hp0)
    rw [Nat.zero_add] at cl0 cl1
    have jj0 : (0 : Int) ≤ (j : Int) := by omega
    have jj1 : (j : Int) < (n1 : Int) := by omega
    have hcm := S3s.out.max
    have hcp := S3s.out.cap
    unfold maxLen at hcm
    have hBC := BC.out.size
    clear hp0 hb0 hh
    go_wp2_with fail
    have B5 : Below w.heap.size w (w6.setCell ⟨g, j * 2 + 1, none⟩ (.int .i32 y)) := B.out.setCell (p := ⟨g, j * 2 + 1, none⟩) (show w.heap.size ≤ g by omega) _
    have BC5 : Below w1.heap.size w1 (w6.setCell ⟨g, j * 2 + 1, none⟩ (.int .i32 y)) := BC.out.setCell (p := ⟨g, j * 2 + 1, none⟩) hg _
    have T3 : Sp (w6.setCell ⟨g, j * 2 + 1, none⟩ (.int .i32 y)) (w6.setCell ⟨g, j * 2 + 1, none⟩ (.int .i32 y)).heap.size (some ⟨g, 0, none⟩) n1 c3 (es.set j (p.1, y)) := (sp_set S3s.out Hp.out hjn y).more (by simp)
    clear S1 S2 S3 S4 S3s HT B BC cl0 cl1 fz hBC
    generalize w6.setCell _ _ = w7 at *
    have B := Lib.hid B5
    have HT := Lib.hid (HT0.out.next B5)
    have S1 := Lib.hid (S0.out.next B5)
    have S2 := Lib.hid ((Sn.of_own SC.out).next BC5)
    have S3 := Lib.hid T3
    clear B5 BC5 T3
    have hc := sameF_any (some ⟨g, 0, none⟩) n1 c3 (es.set j (p.1, y)) A1 n1 c1 es w7  S3.out S1.out
    rw [HY.out] at hc
    refine hc.mono ?_
    clear hc
    rintro e w8 ⟨rfl, b5⟩
    replace S1 := Lib.hid (S1.out.next b5)
    replace S2 := Lib.hid (S2.out.next b5)
    replace S3 := Lib.hid (S3.out.next b5)
    replace HT := Lib.hid (HT.out.next b5)
    replace B := Lib.hid (thn B.out b5)
    clear b5
    go_wp2_with fail
    have hc := sameF_any A2 n1 c2 es A1 n1 c1 es w8  S2.out S1.out
    rw [HE.out] at hc
    refine hc.mono ?_
    clear hc
    rintro e w9 ⟨rfl, b5⟩
    replace S1 := Lib.hid (S1.out.next b5)
    replace S2 := Lib.hid (S2.out.next b5)
    replace S3 := Lib.hid (S3.out.next b5)
    replace HT := Lib.hid (HT.out.next b5)
    replace B := Lib.hid (thn B.out b5)
    clear b5
    go_wp2_with fail
    refine (awake_any w9 HT.out).mono ?_
    rintro e w10 ⟨rfl, b5⟩
    replace B := Lib.hid (thn B.out b5)
    clear b5
    go_wp2
    go_ret
    exact ⟨rfl, B.out⟩
end Go.Proofs.YtdgobdfggdmnpaaDoor
