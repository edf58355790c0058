/- Layer 7: the references' Drop and Put. -/
import Derived.Test.YtdpcknfplognmaaIg
namespace Go.Proofs.Ytdpcknfplognmaa
open Go.RowKit
set_option linter.unusedVariables false
theorem infoId : (Try.prog.info? 25).map (fun i => (i.zero, i.size, i.bytes)) = some (some (.agg #[.int .u8 0, .int .u16 0, .int .u32 0]), 3, 8) := by kernel_rfl
theorem id_one (p : Id3) : ∀ u ∈ (#[.int .u8 p.1, .int .u16 p.2.1, .int .u32 p.2.2] : Array Value).toList, u.oneCell' = true := by
  intro u hu
  simp at hu
  rcases hu with rfl | rfl | rfl <;> rfl
def GaveD (l : List Id3) (w : World) (e : Ending) (w' : World) : Prop := ∃ A c, e = .returned (.slice A l.length c) ∧ Sd w' w'.heap.size A l.length c l ∧ Below w.heap.size w w'
theorem gaveD_of {w w' : World} {A : Option Addr} {n c : Nat} {l : List Id3} (s : Sd w' w'.heap.size A n c l) (hb : Below w.heap.size w w') {e : Ending} (he : e = .returned (.slice A n c)) : GaveD l w e w' := by
  obtain rfl := sd_len s
  exact ⟨A, c, he, s, hb⟩
theorem ows_len {w : World} {B : Nat} {E : TypeId} {A : Option Addr} {n c : Nat} {l : List Id3} (h : Ows w B E 3 A n c (idl l)) : n = l.length := by have := h.1; rw [idl_length] at this; omega
theorem dropL_snoc {l : List Id3} {x y : Id3} {j : Nat} (hy : l[j]? = some y) : dropL (l.take (j + 1)) x = dropL (l.take j) x ++ (if y = x then [] else [y]) := by
  rw [List.take_add_one, hy]
  unfold dropL
  rw [List.filter_append]
  congr 1
  by_cases h : y = x <;> simp [h]
theorem refDrop_any (A : Option Addr) (n c : Nat) (l : List Id3) (x : Id3) (w : World) (h : Sd w w.heap.size A n c l) (hn8 : n ≤ 1000000) :
    Calls Try.prog 23 #[.slice A n c, (.agg #[.int .u8 x.1, .int .u16 x.2.1, .int .u32 x.2.2])] w (GaveD (dropL l x) w) := by
  have HL : Hid (n = l.length) := sd_len h
  have hm := h.max
  have hc := h.cap
  unfold maxLen at hm
  have bl := below_lit w (.cells #[.int .u8 x.1, .int .u16 x.2.1, .int .u32 x.2.2] 25)
  have HS := Lib.hid (h.next bl)
  have HX := Lib.hid (IdBlk.new w x)
  have BL := Lib.hid bl
  clear h bl
  go_enter Try.func23, Try.ntmps23
  go_upto_region 1 with fail
  generalize w.alloc _ = W at *
  obtain ⟨g, hg⟩ : ∃ g, w.heap.size = g := ⟨_, rfl⟩
  rw [hg] at HX ⊢
  go_wp2
  go_loopw [5, 6] (fun v i wr => ∃ (j m : Nat) (A2 : Option Addr) (c2 : Nat), j ≤ n ∧ m ≤ j ∧ i = .int .i64 j ∧ v = .slice A2 m c2 ∧ Hid (Ows wr W.heap.size 25 3 A2 m c2 (idl (dropL (l.take j) x))) ∧ Below W.heap.size W wr) (fun _ i _ => n - (intOf i).toNat)
  case atStart => exact ⟨0, 0, none, 0, Nat.zero_le _, Nat.le_refl _, rfl, rfl, Ows.nil _ _ _ _, Below.refl _ _⟩
  case round =>
    obtain ⟨j, m, A2, c2, hj, hmj, rfl, rfl, O3, b1⟩ := hrel
    have i0 : (0 : Int) ≤ (j : Int) := by omega
    by_cases hlt : j < n
    · have i1 : (j : Int) < (n : Int) := by omega
      obtain ⟨b, off, y, rfl, hb, hy, CY⟩ := sd_cells (HS.out.next b1) hlt
      obtain ⟨c0, c1, c3⟩ := CY.out wr (Below.refl _ _)
      obtain ⟨d0, d1, d2⟩ := (HX.out.next b1).cells
      have HD := Lib.hid (dropL_snoc (x := x) hy)
      clear hy
      by_cases hyx : y = x
      · have heq := fun w' : World => (idneq y x w').trans (by rw [decide_eq_true hyx])
        rw [if_pos hyx, List.append_nil] at HD
        rw [← HD.out] at O3
        clear hyx HD
        go_wp2
        go_quiet (fail)
        have b3 := dN b1 nq
        replace O3 := Lib.hid (O3.out.below (dN (Below.refl wr.heap.size wr) nq))
        generalize wr.drewN nq = w2 at *
        go_wp2
        go_roundw
        case rel => exact ⟨j + 1, m, A2, c2, by omega, by omega, by go_num, rfl, O3, b3⟩
        case measure => simp [intOf]; omega
      · have heq := fun w' : World => (idneq y x w').trans (by rw [decide_eq_false hyx])
        rw [if_neg hyx] at HD
        clear hyx
        go_wp2
        go_quiet (fail)
        have b3 := dN b1 nq
        replace O3 := Lib.hid (O3.out.below (dN (Below.refl wr.heap.size wr) nq))
        obtain ⟨e0, e1, e2⟩ := CY.out _ (dN (Below.refl wr.heap.size wr) nq)
        generalize wr.drewN nq = w2 at *
        have hsz := b3.size
        clear c0 c1 c3 d0 d1 d2 heq
        go_wp2_with (at_builtin; go_must (refine wpList_apps rfl _ _ 26 rfl Try.underlying26 infoId rfl (by decide) rfl (O3.out.below (below_lit _ _)) rfl (Sn.lit_at _ _ _ _ 3 1 _ (by simp) rfl (by decide)) (id_one y) (by omega) (by omega) (by decide) (by simp only [World.size_alloc]; omega) ?_); intro A4 c4 w4 o4 g4)
        have O5 : Hid (Ows w4 W.heap.size 25 3 A4 (m + 1) c4 (idl (dropL (l.take (j + 1)) x))) := by
          unfold Hid
          rw [HD.out, idl_append]
          exact o4
        have b4 := (b3.trans ((below_lit w2 _).mono hsz)).grown g4 (by simp only [World.size_alloc]; omega) O3.out.lt
        clear o4 g4
        go_wp2
        go_roundw
        case rel => exact ⟨j + 1, m + 1, A4, c4, by omega, by omega, by go_num, rfl, O5, b4⟩
        case measure => simp [intOf]; omega
    · obtain rfl : j = n := by omega
      rw [List.take_of_length_le (by rw [← HL.out]; exact Nat.le_refl _)] at O3
      go_wp2
      go_ret
      exact gaveD_of (Sn.of_own O3.out) (thn BL.out b1) rfl
def rpS (x : Id3) (s : List Id3 × Bool) (y : Id3) : List Id3 × Bool := if !s.2 && lessB x y then (s.1 ++ [x, y], true) else (s.1 ++ [y], s.2)
def rpE (x : Id3) (s : List Id3 × Bool) : List Id3 := if s.2 then s.1 else s.1 ++ [x]
theorem rp_true (x : Id3) : ∀ (l a : List Id3), rpE x (l.foldl (rpS x) (a, true)) = a ++ l
  | [], a => by simp [rpE]
  | y :: t, a => by
    rw [List.foldl_cons]
    have : rpS x (a, true) y = (a ++ [y], true) := by simp [rpS]
    rw [this, rp_true x t]; simp
theorem rp_false (x : Id3) : ∀ (l a : List Id3), rpE x (l.foldl (rpS x) (a, false)) = a ++ insL x l
  | [], a => by simp [rpE, insL]
  | y :: t, a => by
    rw [List.foldl_cons]
    unfold insL
    cases h : lessB x y
    · have : rpS x (a, false) y = (a ++ [y], false) := by simp [rpS, h]
      rw [this, rp_false x t]; simp
    · have : rpS x (a, false) y = (a ++ [x, y], true) := by simp [rpS, h]
      rw [this, rp_true x t]; simp
def rpAt (x : Id3) (l : List Id3) (j : Nat) : List Id3 × Bool := (l.take j).foldl (rpS x) ([], decide (x ∈ l))
theorem rp_put (x : Id3) (l : List Id3) : rpE x (rpAt x l l.length) = putL l x := by
  unfold rpAt putL
  rw [List.take_length]
  by_cases h : x ∈ l
  · rw [decide_eq_true h, rp_true, if_pos h]; rfl
  · rw [decide_eq_false h, rp_false, if_neg h]; rfl
theorem rpAt_succ {x y : Id3} {l : List Id3} {j : Nat} (hy : l[j]? = some y) : rpAt x l (j + 1) = rpS x (rpAt x l j) y := by
  unfold rpAt
  rw [List.take_add_one, hy, List.foldl_append]; rfl
set_option maxHeartbeats 4000000 in
theorem refPut_any (A : Option Addr) (n c : Nat) (l : List Id3) (x : Id3) (w : World) (h : Sd w w.heap.size A n c l) (hn8 : n ≤ 1000000) :
    Calls Try.prog 21 #[.slice A n c, (.agg #[.int .u8 x.1, .int .u16 x.2.1, .int .u32 x.2.2])] w (GaveD (putL l x) w) := by
  have HL : Hid (n = l.length) := sd_len h
  have hm := h.max
  have hc := h.cap
  unfold maxLen at hm
  have bl := below_lit w (.cells #[.int .u8 x.1, .int .u16 x.2.1, .int .u32 x.2.2] 25)
  have hcall := refHas_any A n c l x _ (h.next bl)
  have HS := Lib.hid (h.next bl)
  have HX := Lib.hid (IdBlk.new w x)
  have BL := Lib.hid bl
  have HP := Lib.hid (rp_put x l)
  have HZ : Hid (rpAt x l 0 = ([], decide (x ∈ l))) := rfl
  generalize decide (x ∈ l) = d0 at *
  clear h bl
  go_enter Try.func21, Try.ntmps21
  go_upto_region 1 with fail
  generalize w.alloc _ = W at *
  obtain ⟨g, hg⟩ : ∃ g, w.heap.size = g := ⟨_, rfl⟩
  rw [hg] at HX ⊢
  obtain ⟨d0', d1', d2'⟩ := HX.out.cells
  go_wp2_with fail
  refine hcall.mono ?_
  rintro e W0 ⟨rfl, b0⟩
  replace HS := Lib.hid (HS.out.next b0)
  replace HX := Lib.hid (HX.out.next b0)
  replace BL := Lib.hid (thn BL.out b0)
  clear b0 d0' d1' d2' hcall
  go_wp2
  go_loopw [5, 6, 7] (fun v q i wr => ∃ (j m : Nat) (A2 : Option Addr) (c2 : Nat) (d : Bool), j ≤ n ∧ m ≤ 2 * j ∧ i = .int .i64 j ∧ v = .slice A2 m c2 ∧ q = .bool d ∧ Hid ((rpAt x l j).2 = d) ∧ Hid (Ows wr W0.heap.size 25 3 A2 m c2 (idl (rpAt x l j).1)) ∧ Hid (Below W0.heap.size W0 wr)) (fun _ _ i _ => n - (intOf i).toNat)
  case atStart => exact ⟨0, 0, none, 0, d0, Nat.zero_le _, Nat.le_refl _, rfl, rfl, rfl, by rw [HZ.out]; exact rfl, by rw [HZ.out]; exact Ows.nil _ _ _ _, Below.refl _ _⟩
  case round =>
    obtain ⟨j, m, A2, c2, d, hj, hmj, rfl, rfl, rfl, HQ, O3, b1⟩ := hrel
    have i0 : (0 : Int) ≤ (j : Int) := by omega
    by_cases hlt : j < n
    · have i1 : (j : Int) < (n : Int) := by omega
      obtain ⟨b, off, y, rfl, hb, hy, CY⟩ := sd_cells HS.out hlt
      have HD := Lib.hid (rpAt_succ (x := x) hy)
      have HXr := Lib.hid (HX.out.next b1.out)
      clear hy
      cases d with
      | true =>
        have HE : Hid (rpAt x l (j + 1) = ((rpAt x l j).1 ++ [y], true)) := by unfold Hid; rw [HD.out]; unfold rpS; rw [HQ.out]; rfl
        clear HD
        go_wp2
        go_quiet (fail)
        have b3 := dN b1.out nq
        replace O3 := Lib.hid (O3.out.below (dN (Below.refl wr.heap.size wr) nq))
        obtain ⟨e0, e1, e2⟩ := CY.out _ b3
        generalize wr.drewN nq = w2 at *
        have hsz := b3.size
        go_wp2_with (at_builtin; go_must (refine wpList_apps rfl _ _ 26 rfl Try.underlying26 infoId rfl (by decide) rfl (O3.out.below (below_lit _ _)) rfl (Sn.lit_at _ _ _ _ 3 1 _ (by simp) rfl (by decide)) (id_one y) (by omega) (by omega) (by decide) (by simp only [World.size_alloc]; omega) ?_); intro A4 c4 w4 o4 g4)
        have O5 : Hid (Ows w4 W0.heap.size 25 3 A4 (m + 1) c4 (idl (rpAt x l (j + 1)).1)) := by
          unfold Hid
          rw [HE.out, idl_append]
          exact o4
        have b4 := (b3.trans ((below_lit w2 _).mono hsz)).grown g4 (by simp only [World.size_alloc]; omega) O3.out.lt
        clear o4 g4
        go_wp2
        go_roundw
        case rel => exact ⟨j + 1, m + 1, A4, c4, true, by omega, by omega, by go_num, rfl, rfl, by rw [HE.out]; exact rfl, O5, b4⟩
        case measure => simp [intOf]; omega
      | false =>
        obtain ⟨q, HK⟩ : ∃ q, Hid (lessB x y = q) := ⟨_, rfl⟩
        go_wp2
        refine wp_region_typed 10 [(17, .val (.bool false)), (18, .val (.bool true)), (19, .val (.bool true)), (20, .val (.agg #[.int .u8 x.1, .int .u16 x.2.1, .int .u32 x.2.2])), (21, .val (.slice (some ⟨b, off, none⟩) n c)), (22, .val (.int .i64 (j : Int))), (23, .val (.pointer (some ⟨b, off + j * 3, none⟩))), (24, .val (.agg #[.int .u8 y.1, .int .u16 y.2.1, .int .u32 y.2.2])), (25, .val (.bool q)), (26, .val (.bool q))]
          [[], [17], [18], [19], [19], [19], [19, 21, 22], [19, 23], [19, 20, 24], [19, 25]] (by kernel_rfl) (by kernel_rfl) ?_ ?_
        rotate_left
        · intro w9 hb
          simp only [List.take_succ_cons, List.take_zero, List.drop_succ_cons, List.drop_zero]
          refine over_ds (ds := [17, 18, 19, 20, 21, 22, 23, 24, 25, 26]) (by kernel_rfl) ?_
          refine over_some (ds1 := [17, 18, 19, 20, 21, 22, 23, 24, 25, 26]) (ds2 := []) [(.bool false), (.bool true), (.bool true), (.agg #[.int .u8 x.1, .int .u16 x.2.1, .int .u32 x.2.2]), (.slice (some ⟨b, off, none⟩) n c), (.int .i64 (j : Int)), (.pointer (some ⟨b, off + j * 3, none⟩)), (.agg #[.int .u8 y.1, .int .u16 y.2.1, .int .u32 y.2.2]), (.bool q), (.bool q)] (by kernel_rfl) ?_
          refine over_nil ?_
          simp only [putAll, put_lit, List.set_cons_succ, List.set_cons_zero]
          have b3 := thn b1.out hb
          replace O3 := Lib.hid (O3.out.below hb)
          replace HXr := Lib.hid (HXr.out.next hb)
          have hsz := b3.size
          clear hb
          cases q with
          | true =>
            have HE : Hid (rpAt x l (j + 1) = ((rpAt x l j).1 ++ [x, y], true)) := by unfold Hid; rw [HD.out]; unfold rpS; rw [HQ.out, HK.out]; rfl
            obtain ⟨e0, e1, e2⟩ := HXr.out.cells
            go_upto_region 9 with (at_builtin; go_must (refine wpList_apps rfl _ _ 26 rfl Try.underlying26 infoId rfl (by decide) rfl (O3.out.below (below_lit _ _)) rfl (Sn.lit_at _ _ _ _ 3 1 _ (by simp) rfl (by decide)) (id_one x) (by omega) (by omega) (by decide) (by simp only [World.size_alloc]; omega) ?_); intro A4 c4 w4 o4 g4)
            have b4 := (b3.trans ((below_lit w9 _).mono hsz)).grown g4 (by simp only [World.size_alloc]; omega) O3.out.lt
            have O5 : Hid (Ows w4 W0.heap.size 25 3 A4 (m + 1) c4 (idl ((rpAt x l j).1 ++ [x]))) := by unfold Hid; rw [idl_append]; exact o4
            have B4 := Lib.hid b4
            have hsz4 := b4.size
            clear e0 e1 e2 o4 g4 b4
            obtain ⟨e0, e1, e2⟩ := CY.out w4 B4.out
            go_wp2_with (at_builtin; go_must (refine wpList_apps rfl _ _ 26 rfl Try.underlying26 infoId rfl (by decide) rfl (O5.out.below (below_lit _ _)) rfl (Sn.lit_at _ _ _ _ 3 1 _ (by simp) rfl (by decide)) (id_one y) (by omega) (by omega) (by decide) (by simp only [World.size_alloc]; omega) ?_); intro A6 c6 w6 o6 g6)
            have O6 : Hid (Ows w6 W0.heap.size 25 3 A6 (m + 1 + 1) c6 (idl (rpAt x l (j + 1)).1)) := by
              unfold Hid
              rw [HE.out, show (rpAt x l j).1 ++ [x, y] = ((rpAt x l j).1 ++ [x]) ++ [y] by simp, idl_append]
              exact o6
            have b6 := (B4.out.trans ((below_lit w4 _).mono hsz4)).grown g6 (by simp only [World.size_alloc]; omega) O5.out.lt
            clear o6 g6
            go_wp2
            go_roundw
            case rel => exact ⟨j + 1, m + 1 + 1, A6, c6, true, by omega, by omega, by go_num, rfl, rfl, by rw [HE.out]; exact rfl, O6, b6⟩
            case measure => simp [intOf]; omega
          | false =>
            have HE : Hid (rpAt x l (j + 1) = ((rpAt x l j).1 ++ [y], false)) := by unfold Hid; rw [HD.out]; unfold rpS; rw [HQ.out, HK.out]; rfl
            obtain ⟨e0, e1, e2⟩ := CY.out w9 b3
            go_wp2_with (at_builtin; go_must (refine wpList_apps rfl _ _ 26 rfl Try.underlying26 infoId rfl (by decide) rfl (O3.out.below (below_lit _ _)) rfl (Sn.lit_at _ _ _ _ 3 1 _ (by simp) rfl (by decide)) (id_one y) (by omega) (by omega) (by decide) (by simp only [World.size_alloc]; omega) ?_); intro A4 c4 w4 o4 g4)
            have O5 : Hid (Ows w4 W0.heap.size 25 3 A4 (m + 1) c4 (idl (rpAt x l (j + 1)).1)) := by unfold Hid; rw [HE.out, idl_append]; exact o4
            have b4 := (b3.trans ((below_lit w9 _).mono hsz)).grown g4 (by simp only [World.size_alloc]; omega) O3.out.lt
            clear o4 g4
            go_wp2
            go_roundw
            case rel => exact ⟨j + 1, m + 1, A4, c4, false, by omega, by omega, by go_num, rfl, rfl, by rw [HE.out]; exact rfl, O5, b4⟩
            case measure => simp [intOf]; omega
        simp only [List.take_succ_cons, List.take_zero]
        refine ⟨?r1g0, ?r1g1, ?r1g2, ?r1g3, ?r1g4, ?r1g5, ?r1g6, ?r1g7, ?r1g8, ?r1g9, trivial⟩
        case r1g0 =>
          intro w9 hb
          refine over_nil ?_
          go_wp2
          first | exact post_of (by rfl) (by rfl) (Below.refl _ _) (by rfl) | exact rfl
        case r1g1 =>
          intro w9 hb
          refine over_some (ds1 := [17]) (ds2 := []) [(.bool false)] (by kernel_rfl) ?_
          refine over_nil ?_
          simp only [putAll, put_lit, List.set_cons_succ, List.set_cons_zero]
          go_wp2
          first | exact post_of (by rfl) (by rfl) (Below.refl _ _) (by rfl) | exact rfl
        case r1g2 =>
          intro w9 hb
          refine over_some (ds1 := [18]) (ds2 := []) [(.bool true)] (by kernel_rfl) ?_
          refine over_nil ?_
          simp only [putAll, put_lit, List.set_cons_succ, List.set_cons_zero]
          go_wp2
          first | exact post_of (by rfl) (by rfl) (Below.refl _ _) (by rfl) | exact rfl
        case r1g3 =>
          intro w9 hb
          refine over_some (ds1 := [19]) (ds2 := []) [(.bool true)] (by kernel_rfl) ?_
          refine over_nil ?_
          simp only [putAll, put_lit, List.set_cons_succ, List.set_cons_zero]
          obtain ⟨c0, c1, c3⟩ := (HXr.out.next hb).cells
          go_wp2
          first | exact post_of (by rfl) (by rfl) (Below.refl _ _) (by rfl) | exact rfl
        case r1g4 =>
          intro w9 hb
          refine over_some (ds1 := [19]) (ds2 := []) [(.bool true)] (by kernel_rfl) ?_
          refine over_nil ?_
          simp only [putAll, put_lit, List.set_cons_succ, List.set_cons_zero]
          go_wp2
          first | exact post_of (by rfl) (by rfl) (Below.refl _ _) (by rfl) | exact rfl
        case r1g5 =>
          intro w9 hb
          refine over_some (ds1 := [19]) (ds2 := []) [(.bool true)] (by kernel_rfl) ?_
          refine over_nil ?_
          simp only [putAll, put_lit, List.set_cons_succ, List.set_cons_zero]
          go_wp2
          first | exact post_of (by rfl) (by rfl) (Below.refl _ _) (by rfl) | exact rfl
        case r1g6 =>
          intro w9 hb
          refine over_some (ds1 := [19, 21, 22]) (ds2 := []) [(.bool true), (.slice (some ⟨b, off, none⟩) n c), (.int .i64 (j : Int))] (by kernel_rfl) ?_
          refine over_nil ?_
          simp only [putAll, put_lit, List.set_cons_succ, List.set_cons_zero]
          go_wp2
          first | exact post_of (by rfl) (by rfl) (Below.refl _ _) (by rfl) | exact rfl
        case r1g7 =>
          intro w9 hb
          refine over_some (ds1 := [19, 23]) (ds2 := []) [(.bool true), (.pointer (some ⟨b, off + j * 3, none⟩))] (by kernel_rfl) ?_
          refine over_nil ?_
          simp only [putAll, put_lit, List.set_cons_succ, List.set_cons_zero]
          obtain ⟨c0, c1, c3⟩ := CY.out w9 (thn b1.out hb)
          go_wp2
          first | exact post_of (by rfl) (by rfl) (Below.refl _ _) (by rfl) | exact rfl
        case r1g8 =>
          intro w9 hb
          refine over_some (ds1 := [19, 20, 24]) (ds2 := []) [(.bool true), (.agg #[.int .u8 x.1, .int .u16 x.2.1, .int .u32 x.2.2]), (.agg #[.int .u8 y.1, .int .u16 y.2.1, .int .u32 y.2.2])] (by kernel_rfl) ?_
          refine over_nil ?_
          simp only [putAll, put_lit, List.set_cons_succ, List.set_cons_zero]
          go_wp2_with fail
          have hc2 := refLess_any x y w9
          rw [HK.out] at hc2
          refine hc2.mono ?_
          rintro e w8 ⟨rfl, b6⟩
          go_wp2
          exact post_of (by rfl) (by rfl) b6 (by rfl)
        case r1g9 =>
          intro w9 hb
          refine over_some (ds1 := [19, 25]) (ds2 := []) [(.bool true), (.bool q)] (by kernel_rfl) ?_
          refine over_nil ?_
          simp only [putAll, put_lit, List.set_cons_succ, List.set_cons_zero]
          go_wp2
          first | exact post_of (by rfl) (by rfl) (Below.refl _ _) (by rfl) | exact rfl
    · obtain rfl : j = n := by omega
      have hsz := b1.out.size
      cases d with
      | true =>
        have HE : Hid ((rpAt x l j).1 = putL l x) := by rw [HL.out] at *; exact (by unfold Hid; rw [← HP.out]; unfold rpE; rw [HQ.out]; rfl)
        rw [HE.out] at O3
        go_wp2
        go_ret
        exact gaveD_of (Sn.of_own O3.out) (thn BL.out b1.out) rfl
      | false =>
        have HE : Hid ((rpAt x l j).1 ++ [x] = putL l x) := by rw [HL.out] at *; exact (by unfold Hid; rw [← HP.out]; unfold rpE; rw [HQ.out]; rfl)
        obtain ⟨e0, e1, e2⟩ := (HX.out.next b1.out).cells
        go_wp2_with (at_builtin; go_must (refine wpList_apps rfl _ _ 26 rfl Try.underlying26 infoId rfl (by decide) rfl (O3.out.below (below_lit _ _)) rfl (Sn.lit_at _ _ _ _ 3 1 _ (by simp) rfl (by decide)) (id_one x) (by omega) (by omega) (by decide) (by simp only [World.size_alloc]; omega) ?_); intro A4 c4 w4 o4 g4)
        have O5 : Hid (Ows w4 W0.heap.size 25 3 A4 (m + 1) c4 (idl (putL l x))) := by unfold Hid; rw [← HE.out, idl_append]; exact o4
        have b4 := (b1.out.trans ((below_lit wr _).mono hsz)).grown g4 (by simp only [World.size_alloc]; omega) O3.out.lt
        clear o4 g4
        go_wp2
        go_ret
        exact gaveD_of (Sn.of_own O5.out) (thn BL.out b4) rfl
end Go.Proofs.Ytdpcknfplognmaa
