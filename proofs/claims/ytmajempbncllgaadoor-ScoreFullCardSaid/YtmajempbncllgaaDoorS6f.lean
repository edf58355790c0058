/- Layer 6: ScoreFull. -/
import Derived.Test.YtmajempbncllgaaDoorKw
import Derived.Test.YtmajempbncllgaaDoorReg8
import Derived.Maps.AppendAt
namespace Go.Proofs.YtmajempbncllgaaDoor
open Go.RowKit
set_option linter.unusedVariables false
theorem Ows.near {w : World} {B : Nat} {E : TypeId} {s : Nat} {A : Option Addr} {n c : Nat} {xs : List Value} (h : Ows w B E s A n c xs) : ∀ g, Value.ownBlock (.slice A n c) = some g → B ≤ g ∧ g < w.heap.size := fun g hg => World.ownsRow.lt h g hg
theorem Ows.same {w w' : World} {B : Nat} {E : TypeId} {s : Nat} {A : Option Addr} {n c : Nat} {xs : List Value} (h : Ows w B E s A n c xs) (hs : ∀ g, Value.ownBlock (.slice A n c) = some g → w'.heap[g]? = w.heap[g]?) : Ows w' B E s A n c xs := by
  obtain ⟨h1, h2⟩ := h
  refine ⟨h1, ?_⟩
  rcases h2 with h2 | ⟨g, cap, cur, hv, hg, hh, r⟩
  · exact .inl h2
  · refine .inr ⟨g, cap, cur, hv, hg, ?_, r⟩
    rw [hs g (by rw [hv]; rfl)]; exact hh
def tyOw (n0 : Nat) (xs : List (Int × Int)) (n : Nat) : Tyo := .own (fun v w => ∃ A c, v = .slice A n c ∧ Ows w n0 36 2 A n c (spl xs)) (fun _ _ _ ⟨A, c, h, o⟩ hs => ⟨A, c, h, o.same (by rw [← h]; exact hs)⟩)
theorem lit_near {o : Obj} (w : World) (g : Nat) (h : (some w.heap.size : Option Nat) = some g) : w.heap.size ≤ g ∧ g < (w.alloc o).heap.size := by
  injection h with h; subst h; exact ⟨Nat.le_refl _, by simp⟩
theorem spl_snoc (l : List (Int × Int)) (v : Int) : spl (l ++ [(v, v)]) = spl l ++ [.int .i32 v, .int .i32 v] := by rw [spl_append]; rfl
def tyLit (cs : Array Value) : Tyo := .own (fun v w => ∃ g, v = .slice (some ⟨g, 0, none⟩) 1 1 ∧ w.heap[g]? = some (.cells cs 36 (0, 0))) (fun _ _ _ ⟨g, h, e⟩ hs => ⟨g, h, by rw [hs g (by rw [h]; rfl)]; exact e⟩)
theorem two_news {w : World} {g : Nat} {x y : Value} {t : TypeId} (h : w.heap[g]? = some (.cells #[x, y] t (0, 0))) : ∀ j u, [x, y][j]? = some u → w.cell? ((⟨g, 0, none⟩ : Addr).add j) = some u := by
  intro j u hj
  match j, hj with
  | 0, hj => simp at hj; subst hj; simp [World.cell?, h, Addr.add]
  | 1, hj => simp at hj; subst hj; simp [World.cell?, h, Addr.add]
  | j + 2, hj => simp at hj
abbrev whole : Int × Int := (-2147483648, 2147483647)
theorem over_whole2 : overF [whole, whole] [whole, whole] = 4294967295 := by decide +kernel
theorem over_whole1 : overF [whole] [whole] = 4294967295 := by decide +kernel
theorem whole_in {ps : List (Int × Int)} (h : ∀ p ∈ ps, p = whole) : ∀ p ∈ ps, inR p := fun p hp => by rw [h p hp]; exact ⟨⟨by decide, by decide⟩, by decide, by decide⟩
set_option maxHeartbeats 4000000 in
theorem sfull_walk (A1 : Option Addr) (n1 c1 : Nat) (es : List (Int × Int)) (A2 : Option Addr) (n2 c2 : Nat) (bs : List (Int × Int)) (v : Int) (w : World) (hT : Tab w) (i1 : ∀ p ∈ es, inR p) (i2 : ∀ p ∈ bs, inR p) (hv0 : -2147483648 ≤ v) (hv1 : v ≤ 2147483647)
    (h1 : Sp w w.heap.size A1 n1 c1 es) (h2 : Sp w w.heap.size A2 n2 c2 bs) :
    Calls Tryd.prog 7 #[.slice A1 n1 c1, .slice A2 n2 c2, .int .i32 v] w fun e w' => e = .returned (.bool true) ∧ Below w.heap.size w w' := by
  have HL1 := Lib.hid (sp_len h1)
  have HL2 := Lib.hid (sp_len h2)
  have HT := Lib.hid hT
  have B := Lib.hid (Below.refl w.heap.size w)
  have S1 := Lib.hid h1
  have I1 := Lib.hid i1
  have S2 := Lib.hid h2
  have I2 := Lib.hid i2
  clear hT h1 i1 h2 i2
  by_cases fn1 : n1 ≤ 7
  rotate_left
  · have en1 : (7 : Int) < (n1 : Int) := by omega
    go_enter Tryd.func7, Tryd.ntmps7
    go_wp2_with fail
    refine (awake_any w HT.out).mono ?_
    rintro e w1 ⟨rfl, b5⟩
    replace B := Lib.hid (thn B.out b5)
    clear b5
    go_wp2
    go_ret
    exact ⟨rfl, B.out⟩
  have en1 : (n1 : Int) ≤ 7 := by omega
  by_cases fn2 : n2 ≤ 7
  rotate_left
  · have en2 : (7 : Int) < (n2 : Int) := by omega
    go_enter Tryd.func7, Tryd.ntmps7
    go_wp2_with fail
    refine (awake_any w HT.out).mono ?_
    rintro e w1 ⟨rfl, b5⟩
    replace B := Lib.hid (thn B.out b5)
    clear b5
    go_wp2
    go_ret
    exact ⟨rfl, B.out⟩
  have en2 : (n2 : Int) ≤ 7 := by omega
  have HTa := Lib.hid (HT.out.next (below_lit w (.cells #[.int .i32 (-2147483648), .int .i32 2147483647, .int .i32 (-2147483648), .int .i32 2147483647] 36)))
  have S1a := Lib.hid (S1.out.next (below_lit w (.cells #[.int .i32 (-2147483648), .int .i32 2147483647, .int .i32 (-2147483648), .int .i32 2147483647] 36)))
  have S2a := Lib.hid (S2.out.next (below_lit w (.cells #[.int .i32 (-2147483648), .int .i32 2147483647, .int .i32 (-2147483648), .int .i32 2147483647] 36)))
  have Ba := Lib.hid (thn B.out (below_lit w (.cells #[.int .i32 (-2147483648), .int .i32 2147483647, .int .i32 (-2147483648), .int .i32 2147483647] 36)))
  have SAa : Hid (Sp (w.alloc (.cells #[.int .i32 (-2147483648), .int .i32 2147483647, .int .i32 (-2147483648), .int .i32 2147483647] 36)) (w.alloc (.cells #[.int .i32 (-2147483648), .int .i32 2147483647, .int .i32 (-2147483648), .int .i32 2147483647] 36)).heap.size (some ⟨w.heap.size, 0, none⟩) 2 2 [whole, whole]) := (Sn.lit w _ _ _ 2 2 rfl (by decide)).more (by simp)
  have b1' := below_lit w (.cells #[.int .i32 (-2147483648), .int .i32 2147483647, .int .i32 (-2147483648), .int .i32 2147483647] 36)
  have b2' := below_lit (w.alloc (.cells #[.int .i32 (-2147483648), .int .i32 2147483647, .int .i32 (-2147483648), .int .i32 2147483647] 36)) (.cells #[.int .i32 v, .int .i32 v] 36)
  have HTb := Lib.hid (HTa.out.next b2')
  have S1b := Lib.hid (S1a.out.next b2')
  have S2b := Lib.hid (S2a.out.next b2')
  have SAb := Lib.hid (SAa.out.next b2')
  have Bb := Lib.hid (thn Ba.out b2')
  have K8 : Hid (Blk ((w.alloc (.cells #[.int .i32 (-2147483648), .int .i32 2147483647, .int .i32 (-2147483648), .int .i32 2147483647] 36)).alloc (.cells #[.int .i32 v, .int .i32 v] 36)) (w.heap.size + 1) (v, v)) := by
    have := Blk.lit (w.alloc (.cells #[.int .i32 (-2147483648), .int .i32 2147483647, .int .i32 (-2147483648), .int .i32 2147483647] 36)) v v
    unfold Hid
    simpa using this
  clear HT S1 S2 B HTa S1a S2a SAa Ba b1' b2'
  obtain ⟨i0, hi, hz0, hz1, hz2⟩ := info_parts infoSpan
  go_enter Tryd.func7, Tryd.ntmps7
  go_wp2
  generalize (w.alloc _).alloc _ = W at *
  obtain ⟨g7, hg7⟩ : ∃ g7, w.heap.size = g7 := ⟨_, rfl⟩
  rw [hg7] at K8 SAb ⊢
  refine wp_region_own 10 [(26, .val (.slice A1 n1 c1)), (27, tyOw W.heap.size es n1), (28, .val (.agg #[.int .i32 v, .int .i32 v])), (29, tyLit #[.int .i32 v, .int .i32 v]), (30, tyOw W.heap.size (es ++ [(v, v)]) (n1 + 1)), (31, .val (.slice A2 n2 c2)), (32, tyOw W.heap.size bs n2), (33, .val (.agg #[.int .i32 v, .int .i32 v])), (34, tyLit #[.int .i32 v, .int .i32 v]), (35, tyOw W.heap.size (bs ++ [(v, v)]) (n2 + 1))]
    [[], [], [], [], [27], [], [], [], [], [32]] [[], [26], [], [28], [27, 29], [], [31], [], [33], [32, 34]] (by kernel_rfl) (by kernel_rfl) (by kernel_rfl) ?_ ?_
  rotate_left
  · intro w5 af hb hB
    obtain ⟨A3, c3, h30, o30⟩ : ∃ A c, af.tmps.getD 30 undef = .slice A (n1 + 1) c ∧ Ows w5 W.heap.size 36 2 A (n1 + 1) c (spl (es ++ [(v, v)])) := hB.new 30 (of_decide_eq_true (by kernel_rfl)) (of_decide_eq_true (by kernel_rfl))
    obtain ⟨A4, c4, h35, o35⟩ : ∃ A c, af.tmps.getD 35 undef = .slice A (n2 + 1) c ∧ Ows w5 W.heap.size 36 2 A (n2 + 1) c (spl (bs ++ [(v, v)])) := hB.new 35 (of_decide_eq_true (by kernel_rfl)) (of_decide_eq_true (by kernel_rfl))
    have ef := behindO_ds (ds := [26, 27, 28, 29, 30, 31, 32, 33, 34, 35]) hB (by kernel_rfl)
    clear hB
    rw [ef]
    simp only [fill, h30, h35]
    generalize af.tmps.getD 26 undef = y26
    generalize af.tmps.getD 27 undef = y27
    generalize af.tmps.getD 28 undef = y28
    generalize af.tmps.getD 29 undef = y29
    generalize af.tmps.getD 31 undef = y31
    generalize af.tmps.getD 32 undef = y32
    generalize af.tmps.getD 33 undef = y33
    generalize af.tmps.getD 34 undef = y34
    clear ef h30 h35
    simp only [List.drop_succ_cons, List.drop_zero, put_lit, List.set_cons_succ, List.set_cons_zero]
    have S3 := Lib.hid (Sn.of_own o30)
    have S4 := Lib.hid (Sn.of_own o35)
    have S1 := Lib.hid (S1b.out.next hb)
    have S2 := Lib.hid (S2b.out.next hb)
    have SA := Lib.hid (SAb.out.next hb)
    have HT := Lib.hid (HTb.out.next hb)
    have B := Lib.hid (thn Bb.out hb)
    have I3 : Hid (∀ p ∈ es ++ [(v, v)], inR p) := fun p hp => by
      rcases List.mem_append.1 hp with h | h
      · exact I1.out p h
      · simp only [List.mem_singleton] at h; subst h; exact ⟨⟨hv0, hv1⟩, hv0, hv1⟩
    have I4 : Hid (∀ p ∈ bs ++ [(v, v)], inR p) := fun p hp => by
      rcases List.mem_append.1 hp with h | h
      · exact I2.out p h
      · simp only [List.mem_singleton] at h; subst h; exact ⟨⟨hv0, hv1⟩, hv0, hv1⟩
    have IA2 : Hid (∀ p ∈ [whole, whole], inR p) := whole_in (by simp)
    have IA1 : Hid (∀ p ∈ [whole], inR p) := whole_in (by simp)
    clear o30 o35 hb S1b S2b SAb HTb Bb K8
    by_cases hnn : n1 = n2
    · subst hnn
      by_cases hpos : 0 < n1
      · have hp1 : (0 : Int) < (n1 : Int) := by omega
        obtain ⟨o, Ho⟩ : ∃ o, Hid (overF es bs = o) := ⟨_, rfl⟩
        have Ho' : Hid (overF (es ++ [(v, v)]) (bs ++ [(v, v)]) = o) := (overF_snoc es bs v (HL1.out.symm.trans HL2.out) (by rw [← HL1.out]; exact hpos)).trans Ho.out
        go_wp2_with fail
        have hc := over_any A3 (n1 + 1) c3 (es ++ [(v, v)]) A4 (n1 + 1) c4 (bs ++ [(v, v)]) w5 HT.out I3.out I4.out S3.out S4.out (by omega)
        rw [Ho'.out] at hc
        refine hc.mono ?_
        clear hc
        rintro e w6 ⟨rfl, b6⟩
        replace S1 := Lib.hid (S1.out.next b6)
        replace S2 := Lib.hid (S2.out.next b6)
        replace SA := Lib.hid (SA.out.next b6)
        replace HT := Lib.hid (HT.out.next b6)
        replace B := Lib.hid (thn B.out b6)
        clear b6 S3 S4
        go_wp2_with fail
        have hc := over_any A1 n1 c1 es A2 n1 c2 bs w6 HT.out I1.out I2.out S1.out S2.out (by omega)
        rw [Ho.out] at hc
        refine hc.mono ?_
        clear hc
        rintro e w7 ⟨rfl, b7⟩
        replace SA := Lib.hid (SA.out.next b7)
        replace HT := Lib.hid (HT.out.next b7)
        replace B := Lib.hid (thn B.out b7)
        clear b7 S1 S2
        go_wp2
        have SA1 := Lib.hid (SA.out.upto (hi := 1) (by decide))
        refine wp_region_typed 15 [(55, .val (.slice (some ⟨g7, 0, none⟩) 2 2)), (56, .val (.slice (some ⟨g7, 0, none⟩) 2 2)), (57, .val (.int .u32 4294967295)), (58, .val (.bool true)), (59, .val (.bool true)), (60, .val (.slice (some ⟨g7, 0, none⟩) 2 2)), (61, .val (.slice (some ⟨g7, 0, none⟩) 1 2)), (62, .val (.slice (some ⟨g7, 0, none⟩) 2 2)), (63, .val (.slice (some ⟨g7, 0, none⟩) 1 2)), (64, .val (.int .u32 4294967295)), (65, .val (.bool true)), (66, .val (.bool true)), (67, .val (.bool true)), (68, .val (.bool true)), (69, .val (.bool true))]
          [[], [], [55, 56], [57], [58], [59], [59, 60], [59], [59, 62], [59, 61, 63], [59, 64], [59, 65], [66], [67], [67, 68]] (by kernel_rfl) (by kernel_rfl) ?_ ?_
        rotate_left
        · intro w9 hb
          simp only [List.take_succ_cons, List.take_zero, List.drop_succ_cons, List.drop_zero]
          repeat refine over_val rfl ?_
          refine over_nil ?_
          simp only [put_lit, List.set_cons_succ, List.set_cons_zero]
          have B9 := Lib.hid (thn B.out hb)
          clear hb
          go_wp2
          go_ret
          exact ⟨rfl, B9.out⟩
        simp only [List.take_succ_cons, List.take_zero]
        refine ⟨?r8g0, ?r8g1, ?r8g2, ?r8g3, ?r8g4, ?r8g5, ?r8g6, ?r8g7, ?r8g8, ?r8g9, ?r8g10, ?r8g11, ?r8g12, ?r8g13, ?r8g14, trivial⟩
        case r8g0 =>
          intro w9 hb
          repeat refine over_val rfl ?_
          refine over_nil ?_
          go_wp2
          exact post_of (by rfl) (by rfl) (Below.refl _ _) (by rfl)
        case r8g1 =>
          intro w9 hb
          repeat refine over_val rfl ?_
          refine over_nil ?_
          go_wp2
          exact post_of (by rfl) (by rfl) (Below.refl _ _) (by rfl)
        case r8g2 =>
          intro w9 hb
          repeat refine over_val rfl ?_
          refine over_nil ?_
          go_wp2_with fail
          have hc := over_any (some ⟨g7, 0, none⟩) 2 2 [whole, whole] (some ⟨g7, 0, none⟩) 2 2 [whole, whole] w9 (HT.out.next hb) IA2.out IA2.out (SA.out.next hb) (SA.out.next hb) (by decide)
          rw [over_whole2] at hc
          refine hc.mono ?_
          clear hc
          rintro e w10 ⟨rfl, b10⟩
          go_wp2
          exact post_of (by rfl) (by rfl) b10 (by rfl)
        case r8g3 =>
          intro w9 hb
          repeat refine over_val rfl ?_
          refine over_nil ?_
          go_wp2
          exact post_of (by rfl) (by rfl) (Below.refl _ _) (by rfl)
        case r8g4 =>
          intro w9 hb
          repeat refine over_val rfl ?_
          refine over_nil ?_
          go_wp2
          exact post_of (by rfl) (by rfl) (Below.refl _ _) (by rfl)
        case r8g5 =>
          intro w9 hb
          repeat refine over_val rfl ?_
          refine over_nil ?_
          go_wp2
          exact post_of (by rfl) (by rfl) (Below.refl _ _) (by rfl)
        case r8g6 =>
          intro w9 hb
          repeat refine over_val rfl ?_
          refine over_nil ?_
          go_wp2
          exact post_of (by rfl) (by rfl) (Below.refl _ _) (by rfl)
        case r8g7 =>
          intro w9 hb
          repeat refine over_val rfl ?_
          refine over_nil ?_
          go_wp2
          exact post_of (by rfl) (by rfl) (Below.refl _ _) (by rfl)
        case r8g8 =>
          intro w9 hb
          repeat refine over_val rfl ?_
          refine over_nil ?_
          go_wp2
          exact post_of (by rfl) (by rfl) (Below.refl _ _) (by rfl)
        case r8g9 =>
          intro w9 hb
          repeat refine over_val rfl ?_
          refine over_nil ?_
          go_wp2_with fail
          have hc := over_any (some ⟨g7, 0, none⟩) 1 2 [whole] (some ⟨g7, 0, none⟩) 1 2 [whole] w9 (HT.out.next hb) IA1.out IA1.out (SA1.out.next hb) (SA1.out.next hb) (by decide)
          rw [over_whole1] at hc
          refine hc.mono ?_
          clear hc
          rintro e w10 ⟨rfl, b10⟩
          go_wp2
          exact post_of (by rfl) (by rfl) b10 (by rfl)
        case r8g10 =>
          intro w9 hb
          repeat refine over_val rfl ?_
          refine over_nil ?_
          go_wp2
          exact post_of (by rfl) (by rfl) (Below.refl _ _) (by rfl)
        case r8g11 =>
          intro w9 hb
          repeat refine over_val rfl ?_
          refine over_nil ?_
          go_wp2
          exact post_of (by rfl) (by rfl) (Below.refl _ _) (by rfl)
        case r8g12 =>
          intro w9 hb
          repeat refine over_val rfl ?_
          refine over_nil ?_
          go_wp2
          exact post_of (by rfl) (by rfl) (Below.refl _ _) (by rfl)
        case r8g13 =>
          intro w9 hb
          repeat refine over_val rfl ?_
          refine over_nil ?_
          go_wp2_with fail
          refine (awake_any w9 (HT.out.next hb)).mono ?_
          rintro e w10 ⟨rfl, b10⟩
          go_wp2
          exact post_of (by rfl) (by rfl) b10 (by rfl)
        case r8g14 =>
          intro w9 hb
          repeat refine over_val rfl ?_
          refine over_nil ?_
          go_wp2
          exact post_of (by rfl) (by rfl) (Below.refl _ _) (by rfl)
      · obtain rfl : n1 = 0 := by omega
        go_wp2
        have SA1 := Lib.hid (SA.out.upto (hi := 1) (by decide))
        refine wp_region_typed 15 [(55, .val (.slice (some ⟨g7, 0, none⟩) 2 2)), (56, .val (.slice (some ⟨g7, 0, none⟩) 2 2)), (57, .val (.int .u32 4294967295)), (58, .val (.bool true)), (59, .val (.bool true)), (60, .val (.slice (some ⟨g7, 0, none⟩) 2 2)), (61, .val (.slice (some ⟨g7, 0, none⟩) 1 2)), (62, .val (.slice (some ⟨g7, 0, none⟩) 2 2)), (63, .val (.slice (some ⟨g7, 0, none⟩) 1 2)), (64, .val (.int .u32 4294967295)), (65, .val (.bool true)), (66, .val (.bool true)), (67, .val (.bool true)), (68, .val (.bool true)), (69, .val (.bool true))]
          [[], [], [55, 56], [57], [58], [59], [59, 60], [59], [59, 62], [59, 61, 63], [59, 64], [59, 65], [66], [67], [67, 68]] (by kernel_rfl) (by kernel_rfl) ?_ ?_
        rotate_left
        · intro w9 hb
          simp only [List.take_succ_cons, List.take_zero, List.drop_succ_cons, List.drop_zero]
          repeat refine over_val rfl ?_
          refine over_nil ?_
          simp only [put_lit, List.set_cons_succ, List.set_cons_zero]
          have B9 := Lib.hid (thn B.out hb)
          clear hb
          go_wp2
          go_ret
          exact ⟨rfl, B9.out⟩
        simp only [List.take_succ_cons, List.take_zero]
        refine ⟨?r8g0, ?r8g1, ?r8g2, ?r8g3, ?r8g4, ?r8g5, ?r8g6, ?r8g7, ?r8g8, ?r8g9, ?r8g10, ?r8g11, ?r8g12, ?r8g13, ?r8g14, trivial⟩
        case r8g0 =>
          intro w9 hb
          repeat refine over_val rfl ?_
          refine over_nil ?_
          go_wp2
          exact post_of (by rfl) (by rfl) (Below.refl _ _) (by rfl)
        case r8g1 =>
          intro w9 hb
          repeat refine over_val rfl ?_
          refine over_nil ?_
          go_wp2
          exact post_of (by rfl) (by rfl) (Below.refl _ _) (by rfl)
        case r8g2 =>
          intro w9 hb
          repeat refine over_val rfl ?_
          refine over_nil ?_
          go_wp2_with fail
          have hc := over_any (some ⟨g7, 0, none⟩) 2 2 [whole, whole] (some ⟨g7, 0, none⟩) 2 2 [whole, whole] w9 (HT.out.next hb) IA2.out IA2.out (SA.out.next hb) (SA.out.next hb) (by decide)
          rw [over_whole2] at hc
          refine hc.mono ?_
          clear hc
          rintro e w10 ⟨rfl, b10⟩
          go_wp2
          exact post_of (by rfl) (by rfl) b10 (by rfl)
        case r8g3 =>
          intro w9 hb
          repeat refine over_val rfl ?_
          refine over_nil ?_
          go_wp2
          exact post_of (by rfl) (by rfl) (Below.refl _ _) (by rfl)
        case r8g4 =>
          intro w9 hb
          repeat refine over_val rfl ?_
          refine over_nil ?_
          go_wp2
          exact post_of (by rfl) (by rfl) (Below.refl _ _) (by rfl)
        case r8g5 =>
          intro w9 hb
          repeat refine over_val rfl ?_
          refine over_nil ?_
          go_wp2
          exact post_of (by rfl) (by rfl) (Below.refl _ _) (by rfl)
        case r8g6 =>
          intro w9 hb
          repeat refine over_val rfl ?_
          refine over_nil ?_
          go_wp2
          exact post_of (by rfl) (by rfl) (Below.refl _ _) (by rfl)
        case r8g7 =>
          intro w9 hb
          repeat refine over_val rfl ?_
          refine over_nil ?_
          go_wp2
          exact post_of (by rfl) (by rfl) (Below.refl _ _) (by rfl)
        case r8g8 =>
          intro w9 hb
          repeat refine over_val rfl ?_
          refine over_nil ?_
          go_wp2
          exact post_of (by rfl) (by rfl) (Below.refl _ _) (by rfl)
        case r8g9 =>
          intro w9 hb
          repeat refine over_val rfl ?_
          refine over_nil ?_
          go_wp2_with fail
          have hc := over_any (some ⟨g7, 0, none⟩) 1 2 [whole] (some ⟨g7, 0, none⟩) 1 2 [whole] w9 (HT.out.next hb) IA1.out IA1.out (SA1.out.next hb) (SA1.out.next hb) (by decide)
          rw [over_whole1] at hc
          refine hc.mono ?_
          clear hc
          rintro e w10 ⟨rfl, b10⟩
          go_wp2
          exact post_of (by rfl) (by rfl) b10 (by rfl)
        case r8g10 =>
          intro w9 hb
          repeat refine over_val rfl ?_
          refine over_nil ?_
          go_wp2
          exact post_of (by rfl) (by rfl) (Below.refl _ _) (by rfl)
        case r8g11 =>
          intro w9 hb
          repeat refine over_val rfl ?_
          refine over_nil ?_
          go_wp2
          exact post_of (by rfl) (by rfl) (Below.refl _ _) (by rfl)
        case r8g12 =>
          intro w9 hb
          repeat refine over_val rfl ?_
          refine over_nil ?_
          go_wp2
          exact post_of (by rfl) (by rfl) (Below.refl _ _) (by rfl)
        case r8g13 =>
          intro w9 hb
          repeat refine over_val rfl ?_
          refine over_nil ?_
          go_wp2_with fail
          refine (awake_any w9 (HT.out.next hb)).mono ?_
          rintro e w10 ⟨rfl, b10⟩
          go_wp2
          exact post_of (by rfl) (by rfl) b10 (by rfl)
        case r8g14 =>
          intro w9 hb
          repeat refine over_val rfl ?_
          refine over_nil ?_
          go_wp2
          exact post_of (by rfl) (by rfl) (Below.refl _ _) (by rfl)
    · have hq : ((n1 : Int) == (n2 : Int)) = false := by simp; omega
      go_wp2
      have SA1 := Lib.hid (SA.out.upto (hi := 1) (by decide))
      refine wp_region_typed 15 [(55, .val (.slice (some ⟨g7, 0, none⟩) 2 2)), (56, .val (.slice (some ⟨g7, 0, none⟩) 2 2)), (57, .val (.int .u32 4294967295)), (58, .val (.bool true)), (59, .val (.bool true)), (60, .val (.slice (some ⟨g7, 0, none⟩) 2 2)), (61, .val (.slice (some ⟨g7, 0, none⟩) 1 2)), (62, .val (.slice (some ⟨g7, 0, none⟩) 2 2)), (63, .val (.slice (some ⟨g7, 0, none⟩) 1 2)), (64, .val (.int .u32 4294967295)), (65, .val (.bool true)), (66, .val (.bool true)), (67, .val (.bool true)), (68, .val (.bool true)), (69, .val (.bool true))]
        [[], [], [55, 56], [57], [58], [59], [59, 60], [59], [59, 62], [59, 61, 63], [59, 64], [59, 65], [66], [67], [67, 68]] (by kernel_rfl) (by kernel_rfl) ?_ ?_
      rotate_left
      · intro w9 hb
        simp only [List.take_succ_cons, List.take_zero, List.drop_succ_cons, List.drop_zero]
        repeat refine over_val rfl ?_
        refine over_nil ?_
        simp only [put_lit, List.set_cons_succ, List.set_cons_zero]
        have B9 := Lib.hid (thn B.out hb)
        clear hb
        go_wp2
        go_ret
        exact ⟨rfl, B9.out⟩
      simp only [List.take_succ_cons, List.take_zero]
      refine ⟨?r8g0, ?r8g1, ?r8g2, ?r8g3, ?r8g4, ?r8g5, ?r8g6, ?r8g7, ?r8g8, ?r8g9, ?r8g10, ?r8g11, ?r8g12, ?r8g13, ?r8g14, trivial⟩
      case r8g0 =>
        intro w9 hb
        repeat refine over_val rfl ?_
        refine over_nil ?_
        go_wp2
        exact post_of (by rfl) (by rfl) (Below.refl _ _) (by rfl)
      case r8g1 =>
        intro w9 hb
        repeat refine over_val rfl ?_
        refine over_nil ?_
        go_wp2
        exact post_of (by rfl) (by rfl) (Below.refl _ _) (by rfl)
      case r8g2 =>
        intro w9 hb
        repeat refine over_val rfl ?_
        refine over_nil ?_
        go_wp2_with fail
        have hc := over_any (some ⟨g7, 0, none⟩) 2 2 [whole, whole] (some ⟨g7, 0, none⟩) 2 2 [whole, whole] w9 (HT.out.next hb) IA2.out IA2.out (SA.out.next hb) (SA.out.next hb) (by decide)
        rw [over_whole2] at hc
        refine hc.mono ?_
        clear hc
        rintro e w10 ⟨rfl, b10⟩
        go_wp2
        exact post_of (by rfl) (by rfl) b10 (by rfl)
      case r8g3 =>
        intro w9 hb
        repeat refine over_val rfl ?_
        refine over_nil ?_
        go_wp2
        exact post_of (by rfl) (by rfl) (Below.refl _ _) (by rfl)
      case r8g4 =>
        intro w9 hb
        repeat refine over_val rfl ?_
        refine over_nil ?_
        go_wp2
        exact post_of (by rfl) (by rfl) (Below.refl _ _) (by rfl)
      case r8g5 =>
        intro w9 hb
        repeat refine over_val rfl ?_
        refine over_nil ?_
        go_wp2
        exact post_of (by rfl) (by rfl) (Below.refl _ _) (by rfl)
      case r8g6 =>
        intro w9 hb
        repeat refine over_val rfl ?_
        refine over_nil ?_
        go_wp2
        exact post_of (by rfl) (by rfl) (Below.refl _ _) (by rfl)
      case r8g7 =>
        intro w9 hb
        repeat refine over_val rfl ?_
        refine over_nil ?_
        go_wp2
        exact post_of (by rfl) (by rfl) (Below.refl _ _) (by rfl)
      case r8g8 =>
        intro w9 hb
        repeat refine over_val rfl ?_
        refine over_nil ?_
        go_wp2
        exact post_of (by rfl) (by rfl) (Below.refl _ _) (by rfl)
      case r8g9 =>
        intro w9 hb
        repeat refine over_val rfl ?_
        refine over_nil ?_
        go_wp2_with fail
        have hc := over_any (some ⟨g7, 0, none⟩) 1 2 [whole] (some ⟨g7, 0, none⟩) 1 2 [whole] w9 (HT.out.next hb) IA1.out IA1.out (SA1.out.next hb) (SA1.out.next hb) (by decide)
        rw [over_whole1] at hc
        refine hc.mono ?_
        clear hc
        rintro e w10 ⟨rfl, b10⟩
        go_wp2
        exact post_of (by rfl) (by rfl) b10 (by rfl)
      case r8g10 =>
        intro w9 hb
        repeat refine over_val rfl ?_
        refine over_nil ?_
        go_wp2
        exact post_of (by rfl) (by rfl) (Below.refl _ _) (by rfl)
      case r8g11 =>
        intro w9 hb
        repeat refine over_val rfl ?_
        refine over_nil ?_
        go_wp2
        exact post_of (by rfl) (by rfl) (Below.refl _ _) (by rfl)
      case r8g12 =>
        intro w9 hb
        repeat refine over_val rfl ?_
        refine over_nil ?_
        go_wp2
        exact post_of (by rfl) (by rfl) (Below.refl _ _) (by rfl)
      case r8g13 =>
        intro w9 hb
        repeat refine over_val rfl ?_
        refine over_nil ?_
        go_wp2_with fail
        refine (awake_any w9 (HT.out.next hb)).mono ?_
        rintro e w10 ⟨rfl, b10⟩
        go_wp2
        exact post_of (by rfl) (by rfl) b10 (by rfl)
      case r8g14 =>
        intro w9 hb
        repeat refine over_val rfl ?_
        refine over_nil ?_
        go_wp2
        exact post_of (by rfl) (by rfl) (Below.refl _ _) (by rfl)
  simp only [List.take_succ_cons, List.take_zero]
  refine ⟨?g0, ?g1, ?g2, ?g3, ?g4, ?g5, ?g6, ?g7, ?g8, ?g9, trivial⟩
  case g0 =>
    intro w5 hb
    have hsz := hb.size
    refine overO_nil ?_
    go_wp2
    exact postO_of (by rfl) (by rfl) hsz (Below.refl _ _) (by rfl) (by exact fun _ h => False.elim h)
  case g1 =>
    intro w5 hb
    have hsz := hb.size
    refine overO_val rfl ?_
    refine overO_nil ?_
    go_wp2_with fail
    refine (copyF_any A1 n1 c1 es w5 (S1b.out.next hb) (by omega)).mono ?_
    rintro e w6 ⟨A6, c6, rfl, o6, b6⟩
    rw [← HL1.out] at o6 ⊢
    go_wp2
    exact postO_of (by rfl) (by rfl) hsz b6 (by exact ⟨A6, c6, rfl, Ows.mono o6 hsz⟩) (by exact fun g h => Ows.near o6 g h)
  case g2 =>
    intro w5 hb
    have hsz := hb.size
    refine overO_nil ?_
    obtain ⟨u0, u1⟩ := (K8.out.next hb).cells
    go_wp2
    exact postO_of (by rfl) (by rfl) hsz (Below.refl _ _) (by rfl) (by exact fun _ h => False.elim h)
  case g3 =>
    intro w5 hb
    have hsz := hb.size
    refine overO_val rfl ?_
    refine overO_nil ?_
    go_wp2
    refine postO_of (by rfl) (by rfl) hsz (below_lit _ _) (by exact ⟨_, rfl, World.alloc_heap_new w5 _⟩) (by exact fun g h => lit_near w5 g h)
  case g4 =>
    intro w5 hb
    have hsz := hb.size
    refine overO_own rfl ?_
    rintro _ ⟨A6, c6, rfl, o6⟩ near
    refine overO_own rfl ?_
    rintro _ ⟨g, rfl, hg⟩ near2
    refine overO_nil ?_
    have hn7 : n1 ≤ 7 := fn1
    clear near2
    go_wp2_with (at_builtin; go_must (refine wpList_append_own_at _ rfl _ _ 24 rfl W.heap.size 36 i0 _ 2 8 Tryd.underlying24 hi hz0 hz1 hz2 rfl (by decide) (.slice A6 n1 c6) n1 (spl es) rfl o6 ⟨g, 0, none⟩ 1 1 [.int .i32 v, .int .i32 v] rfl rfl (two_news hg) (span_one _ _) (by simp only [maxLen]; omega) (by omega) hsz ?_); intro v' w6 o7 g6 _ hat)
    obtain ⟨A7, c7, rfl⟩ := row_shape o7
    have near7 := Ows.near o7
    rw [← spl_snoc] at o7
    have hat' : ∀ q, Value.ownBlock (.slice A7 (n1 + 1) c7) = some q → Value.ownBlock (.slice A6 n1 c6) = some q ∨ w5.heap.size ≤ q := fun q hq => by
      rcases hat with h | h
      · exact .inl (h.symm.trans hq)
      · rw [h] at hq; injection hq with hq; exact .inr (Nat.le_of_eq hq)
    exact postO_grown (by rfl) (by rfl) ((Below.refl W.heap.size w5).grown g6 hsz (fun q hq => (near q hq).1)) (by exact fun q hq hno => g6.block q hq (fun e => hno ⟨27, List.mem_singleton.2 rfl, e.symm⟩)) (by exact ⟨A7, c7, rfl, o7⟩) (by exact fun q hq => ⟨(hat' q hq).imp (fun h => ⟨27, List.mem_singleton.2 rfl, h⟩) id, (near7 q hq).2⟩)
  case g5 =>
    intro w5 hb
    have hsz := hb.size
    refine overO_nil ?_
    go_wp2
    exact postO_of (by rfl) (by rfl) hsz (Below.refl _ _) (by rfl) (by exact fun _ h => False.elim h)
  case g6 =>
    intro w5 hb
    have hsz := hb.size
    refine overO_val rfl ?_
    refine overO_nil ?_
    go_wp2_with fail
    refine (copyF_any A2 n2 c2 bs w5 (S2b.out.next hb) (by omega)).mono ?_
    rintro e w6 ⟨A6, c6, rfl, o6, b6⟩
    rw [← HL2.out] at o6 ⊢
    go_wp2
    exact postO_of (by rfl) (by rfl) hsz b6 (by exact ⟨A6, c6, rfl, Ows.mono o6 hsz⟩) (by exact fun g h => Ows.near o6 g h)
  case g7 =>
    intro w5 hb
    have hsz := hb.size
    refine overO_nil ?_
    obtain ⟨u0, u1⟩ := (K8.out.next hb).cells
    go_wp2
    exact postO_of (by rfl) (by rfl) hsz (Below.refl _ _) (by rfl) (by exact fun _ h => False.elim h)
  case g8 =>
    intro w5 hb
    have hsz := hb.size
    refine overO_val rfl ?_
    refine overO_nil ?_
    go_wp2
    refine postO_of (by rfl) (by rfl) hsz (below_lit _ _) (by exact ⟨_, rfl, World.alloc_heap_new w5 _⟩) (by exact fun g h => lit_near w5 g h)
  case g9 =>
    intro w5 hb
    have hsz := hb.size
    refine overO_own rfl ?_
    rintro _ ⟨A6, c6, rfl, o6⟩ near
    refine overO_own rfl ?_
    rintro _ ⟨g, rfl, hg⟩ near2
    refine overO_nil ?_
    have hn7 : n2 ≤ 7 := fn2
    clear near2
    go_wp2_with (at_builtin; go_must (refine wpList_append_own_at _ rfl _ _ 24 rfl W.heap.size 36 i0 _ 2 8 Tryd.underlying24 hi hz0 hz1 hz2 rfl (by decide) (.slice A6 n2 c6) n2 (spl bs) rfl o6 ⟨g, 0, none⟩ 1 1 [.int .i32 v, .int .i32 v] rfl rfl (two_news hg) (span_one _ _) (by simp only [maxLen]; omega) (by omega) hsz ?_); intro v' w6 o7 g6 _ hat)
    obtain ⟨A7, c7, rfl⟩ := row_shape o7
    have near7 := Ows.near o7
    rw [← spl_snoc] at o7
    have hat' : ∀ q, Value.ownBlock (.slice A7 (n2 + 1) c7) = some q → Value.ownBlock (.slice A6 n2 c6) = some q ∨ w5.heap.size ≤ q := fun q hq => by
      rcases hat with h | h
      · exact .inl (h.symm.trans hq)
      · rw [h] at hq; injection hq with hq; exact .inr (Nat.le_of_eq hq)
    exact postO_grown (by rfl) (by rfl) ((Below.refl W.heap.size w5).grown g6 hsz (fun q hq => (near q hq).1)) (by exact fun q hq hno => g6.block q hq (fun e => hno ⟨32, List.mem_singleton.2 rfl, e.symm⟩)) (by exact ⟨A7, c7, rfl, o7⟩) (by exact fun q hq => ⟨(hat' q hq).imp (fun h => ⟨32, List.mem_singleton.2 rfl, h⟩) id, (near7 q hq).2⟩)
end Go.Proofs.YtmajempbncllgaaDoor
