/- Layer 9: slices.Equal at spans, desc.Same, newer, slices.Clone at spans, own, Right, Oldest. -/
import Derived.Test.YtdkchiodepdclaaRk
import Derived.Lib.LazyBuf
import Derived.Deep.Cut
namespace Go.Proofs.Ytdkchiodepdclaa
open Go.RowKit
set_option linter.unusedVariables false
theorem isnewer_any (x y : Dsc × Hd) (w : World) : Calls Try.prog 40 #[(.agg #[.int .u8 x.1.1, .int .u16 x.1.2.1, .int .u8 x.1.2.2.1, .slice x.2.1 x.2.2.1 x.2.2.2]), (.agg #[.int .u8 y.1.1, .int .u16 y.1.2.1, .int .u8 y.1.2.2.1, .slice y.2.1 y.2.2.1 y.2.2.2])] w fun e w' => e = .returned (.bool (newerD x.1 y.1)) ∧ Below w.heap.size w w' := by
  obtain ⟨_, _, B⟩ := dboxes2 w x y
  unfold newerD
  by_cases h : x.1.2.1 = y.1.2.1
  · rw [if_pos h]
    have hb : (x.1.2.1 == y.1.2.1) = true := by simpa using h
    have hl : ¬ (y.1.2.1 < x.1.2.1) := by omega
    clear h
    go_enter Try.func40, Try.ntmps40
    go_wp2
    go_ret
    exact ⟨rfl, B.out⟩
  · rw [if_neg h]
    have hb : (x.1.2.1 == y.1.2.1) = false := by simpa using h
    by_cases hl : y.1.2.1 < x.1.2.1
    · rw [decide_eq_true hl]
      clear h
      go_enter Try.func40, Try.ntmps40
      go_wp2
      go_ret
      exact ⟨rfl, B.out⟩
    · rw [decide_eq_false hl]
      clear h
      go_enter Try.func40, Try.ntmps40
      go_wp2
      go_ret
      exact ⟨rfl, B.out⟩
def GaveO (ps : List (Int × Int)) (w : World) (e : Ending) (w' : World) : Prop := ∃ A c, e = .returned (.slice A ps.length c) ∧ Ows w' w.heap.size 52 2 A ps.length c (spl ps) ∧ Below w.heap.size w w'
theorem sclone_any (A : Option Addr) (n c : Nat) (l : List (Int × Int)) (w : World) (h : Sp w w.heap.size A n c l) (hn : n ≤ 1000000) :
    Calls Try.prog 47 #[.slice A n c] w (GaveO l w) := by
  have HL := sp_len h
  cases A with
  | none =>
    have hl : l = [] := by
      rcases Nat.eq_zero_or_pos n with h0 | h0
      · exact List.eq_nil_of_length_eq_zero (by omega)
      · obtain ⟨_, _, e, _⟩ := h.at_ h0; cases e
    subst hl
    obtain rfl : n = 0 := HL
    have hnil := fun w' : World => Lib.run_eql_slice_nil (P := Try.prog) w' 25 52 none 0 c 0 0 Try.underlying25
    go_enter Try.func47, Try.ntmps47
    go_wp2
    go_ret
    exact ⟨none, 0, rfl, Ows.nil _ _ _ _, Below.refl _ _⟩
  | some a =>
    clear HL
    have hnil := fun w' : World => Lib.run_eql_slice_nil (P := Try.prog) w' 25 52 (some a) n c 0 0 Try.underlying25
    have HL := Lib.hid (sp_len h)
    go_enter Try.func47, Try.ntmps47
    go_wp2_with (at_builtin; go_must (refine wpList_appsx rfl _ _ 25 rfl Try.underlying25 infoSp rfl (by decide) rfl (Ows.lit0 _ 52 2) rfl (h.next (below_lit _ _)) (spl_one _) (by omega) (by decide) (by simp) ?_); intro A1 c1 w1 o1 g1)
    go_ret
    rw [Nat.zero_add, List.nil_append] at o1
    exact ⟨A1, c1, congrArg (fun k => Ending.returned (.slice A1 k c1)) HL.out, by rw [← HL.out]; exact o1, ((Below.refl _ _).alloc (Nat.le_refl _) _).grown g1 (by simp) (Ows.lit0 _ 52 2).lt⟩
/-- Two boxes: what is handed in, and the result. -/
theorem ownboxes (w : World) (x : Dsc × Hd) : Hid (DBlk ((w.alloc (.cells #[.int .u8 x.1.1, .int .u16 x.1.2.1, .int .u8 x.1.2.2.1, .slice x.2.1 x.2.2.1 x.2.2.2] 27)).alloc (.cells #[.int .u8 0, .int .u16 0, .int .u8 0, .slice none 0 0] 27)) w.heap.size x.1 x.2) ∧ Hid (DBlk ((w.alloc (.cells #[.int .u8 x.1.1, .int .u16 x.1.2.1, .int .u8 x.1.2.2.1, .slice x.2.1 x.2.2.1 x.2.2.2] 27)).alloc (.cells #[.int .u8 0, .int .u16 0, .int .u8 0, .slice none 0 0] 27)) (w.heap.size + 1) (0, 0, 0, []) (none, 0, 0)) ∧
    Hid (Below w.heap.size w ((w.alloc (.cells #[.int .u8 x.1.1, .int .u16 x.1.2.1, .int .u8 x.1.2.2.1, .slice x.2.1 x.2.2.1 x.2.2.2] 27)).alloc (.cells #[.int .u8 0, .int .u16 0, .int .u8 0, .slice none 0 0] 27))) := by
  unfold Hid
  refine ⟨(DBlk.new w x.1 x.2).next (below_lit _ _), ?_, thn (below_lit _ _) (below_lit _ _)⟩
  have := DBlk.new (w.alloc (.cells #[.int .u8 x.1.1, .int .u16 x.1.2.1, .int .u8 x.1.2.2.1, .slice x.2.1 x.2.2.1 x.2.2.2] 27)) (0, 0, 0, []) (none, 0, 0); simpa using this
theorem DBlk.wrote {w : World} {g : Nat} {d : Dsc} {h : Hd} (k : DBlk w g d h) (e : Dsc) (h2 : Hd) : DBlk ((((w.setCell ⟨g, 0, none⟩ (.int .u8 e.1)).setCell ⟨g, 1, none⟩ (.int .u16 e.2.1)).setCell ⟨g, 2, none⟩ (.int .u8 e.2.2.1)).setCell ⟨g, 3, none⟩ (.slice h2.1 h2.2.1 h2.2.2)) g e h2 := by
  have k0 : DBlk (w.setCell ⟨g, 0, none⟩ (.int .u8 e.1)) g (e.1, d.2) h := Go.Joins.block_setCell (i := 0) k (.int .u8 e.1)
  exact ((k0.put1 e.2.1).put2 e.2.2.1).put3 h2
theorem grown_two {w w1 w2 : World} {g : Nat} (h1 : w.grownBy w1 (some g)) (h2 : w1.grownBy w2 (some g)) : w.grownBy w2 (some g) := ⟨h2.os.trans h1.os, h2.tape.trans h1.tape, h2.output.trans h1.output, Nat.le_trans h1.size h2.size, fun k hk hne => (h2.block k (Nat.lt_of_lt_of_le hk h1.size) hne).trans (h1.block k hk hne)⟩
theorem grown_set4 (w : World) (g : Nat) (e : Dsc) (h2 : Hd) : w.grownBy ((((w.setCell ⟨g, 0, none⟩ (.int .u8 e.1)).setCell ⟨g, 1, none⟩ (.int .u16 e.2.1)).setCell ⟨g, 2, none⟩ (.int .u8 e.2.2.1)).setCell ⟨g, 3, none⟩ (.slice h2.1 h2.2.1 h2.2.2)) (some g) :=
  grown_two (grown_two (grown_two (grown_set _ _ _ _) (grown_set _ _ _ _)) (grown_set _ _ _ _)) (grown_set _ _ _ _)
theorem own_any (x : Dsc × Hd) (w : World) (hx : Fl w x) (hn : x.1.2.2.2.length ≤ 1000000) : Calls Try.prog 38 #[(.agg #[.int .u8 x.1.1, .int .u16 x.1.2.1, .int .u8 x.1.2.2.1, .slice x.2.1 x.2.2.1 x.2.2.2])] w fun e w' => ∃ hd : Hd, e = .returned (.agg #[.int .u8 x.1.1, .int .u16 x.1.2.1, .int .u8 x.1.2.2.1, .slice hd.1 hd.2.1 hd.2.2]) ∧ Ows w' w.heap.size 52 2 hd.1 hd.2.1 hd.2.2 (spl x.1.2.2.2) ∧ Below w.heap.size w w' := by
  obtain ⟨KX, KR, B⟩ := ownboxes w x
  have HF : Hid (Fl ((w.alloc (.cells #[.int .u8 x.1.1, .int .u16 x.1.2.1, .int .u8 x.1.2.2.1, .slice x.2.1 x.2.2.1 x.2.2.2] 27)).alloc (.cells #[.int .u8 0, .int .u16 0, .int .u8 0, .slice none 0 0] 27)) x) := hx.next B.out
  have hl : x.2.2.1 ≤ 1000000 := by have := sp_len hx; omega
  clear hx
  go_enter Try.func38, Try.ntmps38
  go_upto_region 1 with fail
  generalize (w.alloc (.cells #[.int .u8 x.1.1, .int .u16 x.1.2.1, .int .u8 x.1.2.2.1, .slice x.2.1 x.2.2.1 x.2.2.2] 27)).alloc (.cells #[.int .u8 0, .int .u16 0, .int .u8 0, .slice none 0 0] 27) = W at *
  have hc := sclone_any x.2.1 x.2.2.1 x.2.2.2 x.1.2.2.2 W HF.out hl
  obtain ⟨g, hg⟩ : ∃ g, w.heap.size = g := ⟨_, rfl⟩
  obtain ⟨r, hr⟩ : ∃ r, w.heap.size + 1 = r := ⟨_, rfl⟩
  rw [hr] at KR ⊢
  rw [hg] at KX ⊢
  have hne : g ≠ r := by omega
  have hne' : r ≠ g := by omega
  have HG : Hid (w.heap.size ≤ g) := by unfold Hid; omega
  have HR : Hid (w.heap.size ≤ r) := by unfold Hid; omega
  clear hg hr
  obtain ⟨p0, p1, p2, p3⟩ := KX.out.cells
  go_wp2_with fail
  refine hc.mono ?_
  rintro e w2 ⟨A1, c1, rfl, o1, b1⟩
  have hl2 : g < W.heap.size := KX.out.lt
  have hr2 : r < W.heap.size := KR.out.lt
  have B0 := Lib.hid B.out.size
  have KX2 := Lib.hid (KX.out.next b1)
  have KR2 := Lib.hid (KR.out.next b1)
  have B2 := Lib.hid (thn B.out b1)
  have O2 := Lib.hid o1
  clear hc p0 p1 p2 p3 KX KR B HF o1 b1
  obtain ⟨p0, p1, p2, p3⟩ := KX2.out.cells
  have f3 := KX2.out.free 3
  go_upto_region 2 with fail
  have hgs := grown_set w2 g 3 (.slice A1 x.1.2.2.2.length c1)
  have KX3 := Lib.hid (KX2.out.put3 (A1, x.1.2.2.2.length, c1))
  have KR3 := Lib.hid (KR2.out.grown hgs hne')
  have O3 := Lib.hid (O2.out.grown hgs fun q hq => Nat.ne_of_gt (Nat.lt_of_lt_of_le hl2 (O2.out.near q hq).1))
  have B3 := Lib.hid (belowG B2.out hgs B2.out.size HG.out)
  clear p0 p1 p2 p3 f3 KX2 KR2 B2 O2 hgs
  generalize w2.setCell ⟨g, 3, none⟩ (.slice A1 x.1.2.2.2.length c1) = w3 at *
  obtain ⟨p0, p1, p2, p3⟩ := KX3.out.cells
  obtain ⟨q0, q1, q2, q3⟩ := KR3.out.cells
  have f0 := KR3.out.free 0
  have f1 := KR3.out.free 1
  have f2 := KR3.out.free 2
  have f3 := KR3.out.free 3
  go_wp2
  have KR4 := KR3.out.wrote x.1 (A1, x.1.2.2.2.length, c1)
  have hg4 := grown_set4 w3 r x.1 (A1, x.1.2.2.2.length, c1)
  have O4 := O3.out.grown hg4 fun q hq => Nat.ne_of_gt (Nat.lt_of_lt_of_le hr2 (O3.out.near q hq).1)
  have B4 := belowG B3.out hg4 B3.out.size HR.out
  clear p0 p1 p2 p3 q0 q1 q2 q3 f0 f1 f2 f3
  obtain ⟨p0, p1, p2, p3⟩ := KR4.cells
  dsimp only at p0 p1 p2 p3
  refine bodyPost_ret (v := (.agg #[.int .u8 x.1.1, .int .u16 x.1.2.1, .int .u8 x.1.2.2.1, .slice ((A1, x.1.2.2.2.length, c1) : Hd).1 ((A1, x.1.2.2.2.length, c1) : Hd).2.1 ((A1, x.1.2.2.2.length, c1) : Hd).2.2])) (by simp [results, Try.results38, go_sem, p0, p1, p2, p3]) rfl ⟨A1, x.1.2.2.2.length, c1, rfl, O4.mono (Nat.le_trans B0.out (Nat.le_refl _)), B4⟩
set_option maxHeartbeats 2000000 in
theorem right_any (A : Option Addr) (n c : Nat) (xs : List (Dsc × Hd)) (self room : Int) (w : World) (h : Sds w A n c xs) (hR : -1 ≤ room) : Calls Try.prog 24 #[.slice A n c, .int .u8 self, .int .i64 room] w fun e w' => e = .returned (.bool (decide (RightD (xs.map (·.1)) self room))) ∧ Below w.heap.size w w' := by
  have HL : Hid (n = xs.length) := h.len
  have hm := h.max
  have hc := h.cap
  unfold maxLen at hm
  have HS := Lib.hid h
  clear h
  by_cases hr : (n : Int) ≤ room
  rotate_left
  · have HF : Hid (decide (RightD (xs.map (·.1)) self room) = false) := decide_eq_false fun h => hr (by have := h.2.2.2; rw [List.length_map, ← HL.out] at this; exact this)
    replace hr : room < (n : Int) := by omega
    go_enter Try.func24, Try.ntmps24
    go_wp2
    go_ret
    exact ⟨ret_bool HF.out.symm, Below.refl _ _⟩
  · have hr2 : ¬ room < (n : Int) := by omega
    go_enter Try.func24, Try.ntmps24
    go_wp2
    go_loopw [7, 8, 15] (fun _ _ iv wr => ∃ j : Nat, j ≤ n ∧ iv = .int .i64 j ∧ Hid (WellX xs self j) ∧ Hid (Below w.heap.size w wr)) (fun _ _ iv _ => n - (intOf iv).toNat)
    case atStart => exact ⟨0, Nat.zero_le _, rfl, fun i x hi => absurd hi (Nat.not_lt_zero _), Below.refl _ _⟩
    case round =>
      obtain ⟨j, hj, rfl, HB, B⟩ := hrel
      have i0 : (0 : Int) ≤ (j : Int) := by omega
      by_cases hlt : j < n
      · obtain ⟨b, off, x, rfl, hb, hx, hxm, c0, c1, c2, c3⟩ := (HS.out.next B.out).at_ hlt
        have i1 : (j : Int) < (n : Int) := by omega
        have HX := Lib.hid hx
        go_upto_region 6 with fail
        clear c0 c1 c2 c3
        have hbl := below_lit wr (.cells #[.int .u8 x.1.1, .int .u16 x.1.2.1, .int .u8 x.1.2.2.1, .slice x.2.1 x.2.2.1 x.2.2.2] 27)
        have K : Hid (DBlk (wr.alloc (.cells #[.int .u8 x.1.1, .int .u16 x.1.2.1, .int .u8 x.1.2.2.1, .slice x.2.1 x.2.2.1 x.2.2.2] 27)) wr.heap.size x.1 x.2) := DBlk.new wr x.1 x.2
        have B1 := Lib.hid (thn B.out hbl)
        clear hbl B
        generalize wr.alloc (.cells #[.int .u8 x.1.1, .int .u16 x.1.2.1, .int .u8 x.1.2.2.1, .slice x.2.1 x.2.2.1 x.2.2.2] 27) = w1 at *
        obtain ⟨g, hg⟩ : ∃ g, wr.heap.size = g := ⟨_, rfl⟩
        rw [hg] at K ⊢
        clear hg
        obtain ⟨p0, p1, p2, p3⟩ := K.out.cells
        by_cases he : x.1.1 = self
        · have HF : Hid (decide (RightD (xs.map (·.1)) self room) = false) := decide_eq_false (ill_right hx (.inl (.inl he)))
          have heb : (x.1.1 == self) = true := by simpa using he
          clear he hx hxm hb
          go_wp2
          go_quiet (fail)
          have B2 := Lib.hid (dN B1.out nq)
          generalize World.drewN _ nq = w2 at *
          go_wp2
          go_ret
          exact ⟨ret_bool HF.out.symm, B2.out⟩
        · have heb : (x.1.1 == self) = false := by simpa using he
          by_cases he2 : x.1.2.1 = 0
          · have HF : Hid (decide (RightD (xs.map (·.1)) self room) = false) := decide_eq_false (ill_right hx (.inl (.inr he2)))
            have heb2 : (x.1.2.1 == 0) = true := by simpa using he2
            clear he he2 hx hxm hb
            go_wp2
            go_quiet (fail)
            have B2 := Lib.hid (dN B1.out nq)
            generalize World.drewN _ nq = w2 at *
            go_wp2
            go_ret
            exact ⟨ret_bool HF.out.symm, B2.out⟩
          · have heb2 : (x.1.2.1 == 0) = false := by simpa using he2
            have HE : Hid (x.1.1 ≠ self ∧ x.1.2.1 ≠ 0) := ⟨he, he2⟩
            clear he he2
            rcases Nat.eq_zero_or_pos j with h0 | h0
            · subst h0
              have HB2 : Hid (WellX xs self (0 + 1)) := fun i z hi hz => by
                obtain rfl : i = 0 := by omega
                rw [hx] at hz; cases hz
                exact ⟨HE.out, fun k y hk => absurd hk (Nat.not_lt_zero _)⟩
              clear hx hxm hb HX
              go_wp2
              go_quiet (fail)
              have B2 := Lib.hid (dN B1.out nq)
              generalize World.drewN _ nq = w2 at *
              go_wp2
              go_roundw
              case rel => exact ⟨0 + 1, by omega, by go_num, HB2, B2⟩
              case measure => simp [intOf]; omega
            · obtain ⟨b2, off2, y, hA, hy, hym, HCy⟩ := (HS.out.next B1.out).cells (j := j - 1) (by omega)
              injection hA with hA
              injection hA with e1 e2 e3
              subst e1 e2
              clear e3
              obtain ⟨q0, q1, q2, q3⟩ := HCy.out _ (Below.refl _ _)
              have k1 : (0 : Int) < (j : Int) := by omega
              have k2 : ((j - 1 : Nat) : Int) = (j : Int) - 1 := by omega
              have k3 : ((j : Int) - 1).toNat = j - 1 := by omega
              have k4 : (j : Int) - 1 < (n : Int) := by omega
              have k5 : (0 : Int) ≤ (j : Int) - 1 := by omega
              by_cases hle : x.1.1 ≤ y.1.1
              · have HF : Hid (decide (RightD (xs.map (·.1)) self room) = false) := decide_eq_false (ill_right hx (.inr ⟨j - 1, y, by omega, hy, hle⟩))
                clear hx hxm hb HX HCy hy hym
                go_wp2
                go_quiet (fail)
                have B2 := Lib.hid (dN B1.out nq)
                generalize World.drewN _ nq = w2 at *
                go_wp2
                go_ret
                exact ⟨ret_bool HF.out.symm, B2.out⟩
              · replace hle : y.1.1 < x.1.1 := by omega
                have hle2 : ¬ (x.1.1 ≤ y.1.1) := by omega
                have HB2 : Hid (WellX xs self (j + 1)) := fun i z hi hz => by
                  rcases Nat.lt_or_ge i j with h1 | h1
                  · exact HB.out i z h1 hz
                  · obtain rfl : i = j := by omega
                    rw [hx] at hz; cases hz
                    refine ⟨HE.out, fun k u hk hu => ?_⟩
                    rcases Nat.lt_or_ge k (i - 1) with h2 | h2
                    · have := (HB.out (i - 1) y (by omega) hy).2 k u h2 hu; omega
                    · obtain rfl : k = i - 1 := by omega
                      rw [hy] at hu; cases hu; exact hle
                clear hx hxm hb HX HCy hy hym
                go_wp2
                go_quiet (fail)
                have B2 := Lib.hid (dN B1.out nq)
                generalize World.drewN _ nq = w2 at *
                go_wp2
                go_roundw
                case rel => exact ⟨j + 1, by omega, by go_num, HB2, B2⟩
                case measure => simp [intOf]; omega
      · obtain rfl : j = n := by omega
        have hW := HB.out
        rw [HL.out] at hW
        have HF : Hid (decide (RightD (xs.map (·.1)) self room) = true) := decide_eq_true ((well_right hW).2 ⟨by omega, by rw [← HL.out]; exact hr⟩)
        clear hW
        go_wp2
        go_ret
        exact ⟨ret_bool HF.out.symm, B.out⟩
/-- The oldest of the first j. -/
structure OldX (xs : List (Dsc × Hd)) (j k : Nat) (a : Int) : Prop where
  lt : k < j
  at_ : ∃ x, xs[k]? = some x ∧ x.1.2.2.1 = a
  all : ∀ i x, i < j → xs[i]? = some x → x.1.2.2.1 ≤ a
  first : ∀ i x, i < k → xs[i]? = some x → x.1.2.2.1 < a
theorem OldX.done {xs : List (Dsc × Hd)} {k : Nat} {a : Int} (h : OldX xs xs.length k a) : oldI (xs.map (·.1)) = k := by
  obtain ⟨x, hx, hxa⟩ := h.at_
  refine oldI_of (a := a) ⟨⟨x.1, by rw [List.getElem?_map, hx]; rfl, hxa⟩, fun e he => ?_, fun i e hi hie => ?_⟩
  · obtain ⟨y, hy, rfl⟩ := List.mem_map.1 he
    obtain ⟨i, hi⟩ := List.mem_iff_getElem?.1 hy
    exact h.all i y (List.getElem?_eq_some_iff.1 hi).1 hi
  · rw [List.getElem?_map] at hie
    obtain ⟨y, hy, rfl⟩ := Option.map_eq_some_iff.1 hie
    exact h.first i y hi hy
theorem OldX.keep {xs : List (Dsc × Hd)} {j k : Nat} {a : Int} (h : OldX xs j k a) {x : Dsc × Hd} (hx : xs[j]? = some x) (hle : x.1.2.2.1 ≤ a) : OldX xs (j + 1) k a := ⟨Nat.lt_succ_of_lt h.lt, h.at_, fun i y hi hy => by
  rcases Nat.lt_or_ge i j with h1 | h1
  · exact h.all i y h1 hy
  · obtain rfl : i = j := by omega
    rw [hx] at hy; cases hy; exact hle, h.first⟩
theorem OldX.take {xs : List (Dsc × Hd)} {j k : Nat} {a : Int} (h : OldX xs j k a) {x : Dsc × Hd} (hx : xs[j]? = some x) (hlt : a < x.1.2.2.1) : OldX xs (j + 1) j x.1.2.2.1 := ⟨Nat.lt_succ_self _, ⟨x, hx, rfl⟩, fun i y hi hy => by
  rcases Nat.lt_or_ge i j with h1 | h1
  · have := h.all i y h1 hy; omega
  · obtain rfl : i = j := by omega
    rw [hx] at hy; cases hy; exact Int.le_refl _, fun i y hi hy => by have := h.all i y hi hy; omega⟩
set_option maxHeartbeats 2000000 in
theorem oldest_any (A : Option Addr) (n c : Nat) (xs : List (Dsc × Hd)) (w : World) (h : Sds w A n c xs) : Calls Try.prog 26 #[.slice A n c] w fun e w' => e = .returned (.int .i64 (oldI (xs.map (·.1)))) ∧ Below w.heap.size w w' := by
  have HL : Hid (n = xs.length) := h.len
  have hm := h.max
  have hc := h.cap
  unfold maxLen at hm
  have HS := Lib.hid h
  clear h
  go_enter Try.func26, Try.ntmps26
  go_wp2
  go_loopw [3, 4, 5, 8] (fun fv _ _ iv wr => ∃ j : Nat, j ≤ n ∧ iv = .int .i64 j ∧ Hid (Below w.heap.size w wr) ∧ ((j = 0 ∧ fv = .int .i64 (-1)) ∨ (∃ (k : Nat) (a : Int), fv = .int .i64 k ∧ OldX xs j k a))) (fun _ _ _ iv _ => n - (intOf iv).toNat)
  case atStart => exact ⟨0, Nat.zero_le _, rfl, Below.refl _ _, .inl ⟨rfl, rfl⟩⟩
  case round =>
    obtain ⟨j, hj, rfl, B, hs⟩ := hrel
    have i0 : (0 : Int) ≤ (j : Int) := by omega
    by_cases hlt : j < n
    · obtain ⟨b, off, x, rfl, hb, hx, hxm, c0, c1, c2, c3⟩ := (HS.out.next B.out).at_ hlt
      have i1 : (j : Int) < (n : Int) := by omega
      have HX := Lib.hid hx
      have hbl := below_lit wr (.cells #[.int .u8 x.1.1, .int .u16 x.1.2.1, .int .u8 x.1.2.2.1, .slice x.2.1 x.2.2.1 x.2.2.2] 27)
      have K : Hid (DBlk (wr.alloc (.cells #[.int .u8 x.1.1, .int .u16 x.1.2.1, .int .u8 x.1.2.2.1, .slice x.2.1 x.2.2.1 x.2.2.2] 27)) wr.heap.size x.1 x.2) := DBlk.new wr x.1 x.2
      have B1 := Lib.hid (thn B.out hbl)
      clear hbl hx hxm
      rcases hs with ⟨h0, rfl⟩ | ⟨k, a, rfl, HO⟩
      · have HO2 : Hid (OldX xs (j + 1) j x.1.2.2.1) := ⟨Nat.lt_succ_self _, ⟨x, HX.out, rfl⟩, (fun i y hi hy => by
          obtain rfl : i = j := by omega
          rw [HX.out] at hy; cases hy; exact Int.le_refl _), fun i y hi => absurd hi (by omega)⟩
        clear h0
        go_upto_region 5 with fail
        clear c0 c1 c2 c3
        generalize wr.alloc (.cells #[.int .u8 x.1.1, .int .u16 x.1.2.1, .int .u8 x.1.2.2.1, .slice x.2.1 x.2.2.1 x.2.2.2] 27) = w1 at *
        obtain ⟨g, hg⟩ : ∃ g, wr.heap.size = g := ⟨_, rfl⟩
        rw [hg] at K ⊢
        clear hg
        obtain ⟨p0, p1, p2, p3⟩ := K.out.cells
        go_wp2
        go_quiet (fail)
        have B2 := Lib.hid (dN B1.out nq)
        generalize World.drewN _ nq = w2 at *
        go_wp2
        go_roundw
        case rel => exact ⟨j + 1, by omega, by go_num, B2, .inr ⟨j, _, rfl, HO2.out⟩⟩
        case measure => simp [intOf]; omega
      · have hkj := HO.lt
        obtain ⟨y, hy, hya⟩ := HO.at_
        obtain ⟨b2, off2, y2, hA, hy2, hym, HCy⟩ := (HS.out.next B1.out).cells (j := k) (by omega)
        injection hA with hA
        injection hA with e1 e2 e3
        subst e1 e2
        clear e3
        rw [hy] at hy2
        obtain rfl := Option.some.inj hy2
        have HOO := Lib.hid HO
        have HYA := Lib.hid hya
        clear HO hy hy2 hym hya
        have k0 : (0 : Int) ≤ (k : Int) := by omega
        have k1 : ¬ ((k : Int) < 0) := by omega
        have k2 : (k : Int) < (n : Int) := by omega
        go_upto_region 5 with fail
        clear c0 c1 c2 c3
        generalize wr.alloc (.cells #[.int .u8 x.1.1, .int .u16 x.1.2.1, .int .u8 x.1.2.2.1, .slice x.2.1 x.2.2.1 x.2.2.2] 27) = w1 at *
        obtain ⟨g, hg⟩ : ∃ g, wr.heap.size = g := ⟨_, rfl⟩
        rw [hg] at K ⊢
        clear hg
        obtain ⟨p0, p1, p2, p3⟩ := K.out.cells
        obtain ⟨q0, q1, q2, q3⟩ := HCy.out _ (Below.refl _ _)
        clear HCy
        by_cases hgt : y.1.2.2.1 < x.1.2.2.1
        · have HO2 : Hid (OldX xs (j + 1) j x.1.2.2.1) := HOO.out.take HX.out (by rw [← HYA.out]; exact hgt)
          go_wp2
          go_quiet (fail)
          have B2 := Lib.hid (dN B1.out nq)
          generalize World.drewN _ nq = w2 at *
          go_wp2
          go_roundw
          case rel => exact ⟨j + 1, by omega, by go_num, B2, .inr ⟨j, _, rfl, HO2.out⟩⟩
          case measure => simp [intOf]; omega
        · have HO2 : Hid (OldX xs (j + 1) k a) := HOO.out.keep HX.out (by rw [← HYA.out]; omega)
          go_wp2
          go_quiet (fail)
          have B2 := Lib.hid (dN B1.out nq)
          generalize World.drewN _ nq = w2 at *
          go_wp2
          go_roundw
          case rel => exact ⟨j + 1, by omega, by go_num, B2, .inr ⟨k, a, rfl, HO2.out⟩⟩
          case measure => simp [intOf]; omega
    · obtain rfl : j = n := by omega
      rcases hs with ⟨h0, rfl⟩ | ⟨k, a, rfl, HO⟩
      · have HR : Hid (oldI (xs.map (·.1)) = -1) := by
          have : xs = [] := List.eq_nil_of_length_eq_zero (by rw [← HL.out]; exact h0)
          unfold Hid
          rw [this]; rfl
        go_wp2
        go_ret
        exact ⟨by rw [HR.out]; rfl, B.out⟩
      · have HR : Hid (oldI (xs.map (·.1)) = k) := by
          rw [HL.out] at HO
          exact HO.done
        clear HO
        go_wp2
        go_ret
        exact ⟨by rw [HR.out]; rfl, B.out⟩
end Go.Proofs.Ytdkchiodepdclaa
