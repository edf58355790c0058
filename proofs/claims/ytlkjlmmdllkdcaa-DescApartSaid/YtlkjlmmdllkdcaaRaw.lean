/- Layer 9: the chapter's examples. -/
import Derived.Test.YtlkjlmmdllkdcaaRk
namespace Go.Proofs.Ytlkjlmmdllkdcaa
open Go.RowKit
set_option linter.unusedVariables false
def tyX9 (ds : List Dsc) (n : Nat) : Ty := .pred (fun v u => ∃ A c, v = .slice A n c ∧ ∃ xs : List (Dsc × Hd), xs.map (·.1) = ds ∧ Sds u A n c xs) (fun _ _ _ ⟨A, c, h, xs, h1, h2⟩ hb => ⟨A, c, h, xs, h1, h2.next hb⟩)
abbrev LD : List Dsc := [(1, 1, 4, [(0, 1)]), (3, 1, 4, [(0, 1)])]
abbrev LL (h1 h3 : Hd) : List (Dsc × Hd) := [((1, 1, 4, [(0, 1)]), h1), ((3, 1, 4, [(0, 1)]), h3)]
theorem fitL (h1 h3 : Hd) : Fit 2 (LL h1 h3) := fit_of (ds := LD) rfl (by decide) (by simp [dscR])
/-- A filter below block k. -/
structure FlK (w : World) (k : Nat) (h : Hd) (ps : List (Int × Int)) : Prop where
  sn : Sn w k 2 h.1 h.2.1 h.2.2 (spl ps)
  le : k ≤ w.heap.size
theorem FlK.next {w w' : World} {k : Nat} {h : Hd} {ps : List (Int × Int)} (x : FlK w k h ps) (hb : Below w.heap.size w w') : FlK w' k h ps := ⟨x.sn.keep fun _ hp => hb.cell (Nat.lt_of_lt_of_le hp x.le), Nat.le_trans x.le hb.size⟩
theorem FlK.grown {w w' : World} {k g : Nat} {h : Hd} {ps : List (Int × Int)} (x : FlK w k h ps) (hg : w.grownBy w' (some g)) (hk : k ≤ g) : FlK w' k h ps := x.sn.below (belowG (Below.refl k w) hg x.le hk) |> fun s => ⟨s, Nat.le_trans x.le hg.size⟩
theorem FlK.fl {w : World} {k : Nat} {h : Hd} {ps : List (Int × Int)} (x : FlK w k h ps) : Sp w w.heap.size h.1 h.2.1 h.2.2 ps := x.sn.more x.le
theorem ods2 (w : World) {x y : Dsc × Hd} (hx : Fl (w.alloc (.cells #[.int .u8 x.1.1, .int .u16 x.1.2.1, .int .u8 x.1.2.2.1, .slice x.2.1 x.2.2.1 x.2.2.2, .int .u8 y.1.1, .int .u16 y.1.2.1, .int .u8 y.1.2.2.1, .slice y.2.1 y.2.2.1 y.2.2.2] 27)) x) (hy : Fl (w.alloc (.cells #[.int .u8 x.1.1, .int .u16 x.1.2.1, .int .u8 x.1.2.2.1, .slice x.2.1 x.2.2.1 x.2.2.2, .int .u8 y.1.1, .int .u16 y.1.2.1, .int .u8 y.1.2.2.1, .slice y.2.1 y.2.2.1 y.2.2.2] 27)) y) :
    Ods (w.alloc (.cells #[.int .u8 x.1.1, .int .u16 x.1.2.1, .int .u8 x.1.2.2.1, .slice x.2.1 x.2.2.1 x.2.2.2, .int .u8 y.1.1, .int .u16 y.1.2.1, .int .u8 y.1.2.2.1, .slice y.2.1 y.2.2.1 y.2.2.2] 27)) w.heap.size (some ⟨w.heap.size, 0, none⟩) 2 2 [x, y] :=
  ⟨⟨rfl, .inr ⟨w.heap.size, 2, _, rfl, Nat.le_refl _, heap_alloc_new w _, Nat.le_refl _, by decide, rfl, rfl⟩⟩, fun z hz => by simp at hz; rcases hz with rfl | rfl <;> assumption⟩
theorem putA (HD : DescOK) {A : Option Addr} {n c : Nat} {xs : List (Dsc × Hd)} {ds es : List Dsc} {b : Bool} {w : World} (h : Sds w A n c xs) (hf : Fit n xs) (hx : xs.map (·.1) = es) (d : Dsc) (hd : Hd) (room : Int) (hF : Fl w (d, hd)) (hd1 : Fit1 d) (h1 : room ≤ 1000) (hr : RightD es 0 room) (e1 : putD es d 0 room = ds) (e2 : refuseD es d 0 room = !b) :
    Calls Try.prog 19 #[.slice A n c, (.agg #[.int .u8 d.1, .int .u16 d.2.1, .int .u8 d.2.2.1, .slice hd.1 hd.2.1 hd.2.2]), .int .u8 0, .int .i64 room] w (GavePo ds b w) := by
  subst hx
  have := HD.put A n c xs d hd 0 room w h hf hF hd1 (by decide) h1 hr
  rw [e1, e2, Bool.not_not] at this
  exact this
set_option maxRecDepth 100000 in
set_option maxHeartbeats 8000000 in
theorem awake_any (HD : DescOK) (w : World) : Calls Try.prog 9 #[] w fun e w' => e = .returned (.bool true) ∧ Below w.heap.size w w' := by
  have HDD := Lib.hid HD
  clear HD
  have B := Lib.hid (Below.refl w.heap.size w)
  go_enter Try.func9, Try.ntmps9
  go_wp2_with fail
  refine (one_any 1 4 w).mono ?_
  rintro e w1 ⟨h1, rfl, o1, b5⟩
  have S1 : Hid (Fl w1 ((1, 1, 4, [(0, 1)]), h1)) := Sn.of_own o1
  clear o1
  replace B := Lib.hid (thn B.out b5)
  clear b5
  go_wp2_with fail
  refine (one_any 3 4 w1).mono ?_
  rintro e w2 ⟨h3, rfl, o3, b5⟩
  have S3 : Hid (Fl w2 ((3, 1, 4, [(0, 1)]), h3)) := Sn.of_own o3
  clear o3
  replace S1 := Lib.hid (S1.out.next b5)
  replace B := Lib.hid (thn B.out b5)
  clear b5
  go_wp2_with fail
  have OB := Lib.hid B.out.size
  have T1 : Hid (FlK w2 w2.heap.size h1 [(0, 1)]) := ⟨S1.out, Nat.le_refl _⟩
  have T3 : Hid (FlK w2 w2.heap.size h3 [(0, 1)]) := ⟨S3.out, Nat.le_refl _⟩
  have hbl := below_lit w2 (.cells #[.int .u8 1, .int .u16 1, .int .u8 4, .slice h1.1 h1.2.1 h1.2.2, .int .u8 3, .int .u16 1, .int .u8 4, .slice h3.1 h3.2.1 h3.2.2] 27)
  replace S1 := Lib.hid (S1.out.next hbl)
  replace S3 := Lib.hid (S3.out.next hbl)
  replace T1 := Lib.hid (T1.out.next hbl)
  replace T3 := Lib.hid (T3.out.next hbl)
  replace B := Lib.hid (thn B.out hbl)
  clear hbl
  have SL : Hid (Ods (w2.alloc (.cells #[.int .u8 1, .int .u16 1, .int .u8 4, .slice h1.1 h1.2.1 h1.2.2, .int .u8 3, .int .u16 1, .int .u8 4, .slice h3.1 h3.2.1 h3.2.2] 27)) w2.heap.size (some ⟨w2.heap.size, 0, none⟩) 2 2 (LL h1 h3)) := ods2 w2 (x := ((1, 1, 4, [(0, 1)]), h1)) (y := ((3, 1, 4, [(0, 1)]), h3)) S1.out S3.out
  generalize w2.alloc (.cells #[.int .u8 1, .int .u16 1, .int .u8 4, .slice h1.1 h1.2.1 h1.2.2, .int .u8 3, .int .u16 1, .int .u8 4, .slice h3.1 h3.2.1 h3.2.2] 27) = w3 at *
  obtain ⟨g1, hg1⟩ : ∃ g, w2.heap.size = g := ⟨_, rfl⟩
  have LG : Hid (w.heap.size ≤ g1) := by rw [← hg1]; exact OB.out
  rw [hg1] at SL T1 T3 ⊢
  clear hg1 OB
  clear S1
  clear S3
  refine (one_any 2 0 w3).mono ?_
  rintro e w4 ⟨h2, rfl, o2, b5⟩
  have S2 : Hid (Fl w4 ((2, 1, 0, [(0, 1)]), h2)) := Sn.of_own o2
  clear o2
  replace T1 := Lib.hid (T1.out.next b5)
  replace T3 := Lib.hid (T3.out.next b5)
  replace SL := Lib.hid (SL.out.next b5)
  replace B := Lib.hid (thn B.out b5)
  clear b5
  go_wp2_with fail
  have hc := putA HDD.out SL.out.sds (fitL h1 h3) (es := LD) rfl (2, 1, 0, [(0, 1)]) h2 2 (ds := LD) (b := false) S2.out ⟨by simp [dscR], by simp⟩ (by decide) (by decide) (by decide +kernel) (by decide +kernel)
  refine hc.mono ?_
  clear hc
  rintro e w5 ⟨_, _, _, _, rfl, -, -, b5⟩
  clear S2
  replace T1 := Lib.hid (T1.out.next b5)
  replace T3 := Lib.hid (T3.out.next b5)
  replace SL := Lib.hid (SL.out.next b5)
  replace B := Lib.hid (thn B.out b5)
  clear b5
  go_wp2_with fail
  refine (one_any 3 2 w5).mono ?_
  rintro e w6 ⟨h4, rfl, o4, b5⟩
  have S4 : Hid (Fl w6 ((3, 1, 2, [(0, 1)]), h4)) := Sn.of_own o4
  clear o4
  replace T1 := Lib.hid (T1.out.next b5)
  replace T3 := Lib.hid (T3.out.next b5)
  replace SL := Lib.hid (SL.out.next b5)
  replace B := Lib.hid (thn B.out b5)
  clear b5
  go_wp2_with fail
  have hc := putA HDD.out SL.out.sds (fitL h1 h3) (es := LD) rfl (3, 1, 2, [(0, 1)]) h4 2 (ds := [(1, 1, 4, [(0, 1)]), (3, 1, 2, [(0, 1)])]) (b := true) S4.out ⟨by simp [dscR], by simp⟩ (by decide) (by decide) (by decide +kernel) (by decide +kernel)
  refine hc.mono ?_
  clear hc
  rintro e w7 ⟨Aa, na, ca, za, rfl, ma, sa, b5⟩
  obtain ⟨ha1, ha2, rfl⟩ := map2 ma
  obtain rfl : na = 2 := sa.len
  clear ma
  have Sa := Lib.hid sa
  clear sa
  clear S4
  replace T1 := Lib.hid (T1.out.next b5)
  replace T3 := Lib.hid (T3.out.next b5)
  replace SL := Lib.hid (SL.out.next b5)
  replace B := Lib.hid (thn B.out b5)
  clear b5
  go_wp2_with fail
  refine (one_any 3 4 w7).mono ?_
  rintro e w8 ⟨h5, rfl, o5, b5⟩
  have S5 : Hid (Fl w8 ((3, 1, 4, [(0, 1)]), h5)) := Sn.of_own o5
  clear o5
  replace T1 := Lib.hid (T1.out.next b5)
  replace T3 := Lib.hid (T3.out.next b5)
  replace SL := Lib.hid (SL.out.next b5)
  replace Sa := Lib.hid (Sa.out.next b5)
  replace B := Lib.hid (thn B.out b5)
  clear b5
  go_wp2_with fail
  have hc := putA HDD.out SL.out.sds (fitL h1 h3) (es := LD) rfl (3, 1, 4, [(0, 1)]) h5 2 (ds := LD) (b := false) S5.out ⟨by simp [dscR], by simp⟩ (by decide) (by decide) (by decide +kernel) (by decide +kernel)
  refine hc.mono ?_
  clear hc
  rintro e w9 ⟨_, _, _, _, rfl, -, -, b5⟩
  clear S5
  replace T1 := Lib.hid (T1.out.next b5)
  replace T3 := Lib.hid (T3.out.next b5)
  replace SL := Lib.hid (SL.out.next b5)
  replace Sa := Lib.hid (Sa.out.next b5)
  replace B := Lib.hid (thn B.out b5)
  clear b5
  go_wp2_with fail
  refine (one_any 0 0 w9).mono ?_
  rintro e w10 ⟨h6, rfl, o6, b5⟩
  have S6 : Hid (Fl w10 ((0, 1, 0, [(0, 1)]), h6)) := Sn.of_own o6
  clear o6
  replace T1 := Lib.hid (T1.out.next b5)
  replace T3 := Lib.hid (T3.out.next b5)
  replace SL := Lib.hid (SL.out.next b5)
  replace Sa := Lib.hid (Sa.out.next b5)
  replace B := Lib.hid (thn B.out b5)
  clear b5
  go_wp2_with fail
  have hc := putA HDD.out SL.out.sds (fitL h1 h3) (es := LD) rfl (0, 1, 0, [(0, 1)]) h6 9 (ds := LD) (b := false) S6.out ⟨by simp [dscR], by simp⟩ (by decide) (by decide) (by decide +kernel) (by decide +kernel)
  refine hc.mono ?_
  clear hc
  rintro e w11 ⟨_, _, _, _, rfl, -, -, b5⟩
  clear S6
  replace T1 := Lib.hid (T1.out.next b5)
  replace T3 := Lib.hid (T3.out.next b5)
  replace SL := Lib.hid (SL.out.next b5)
  replace Sa := Lib.hid (Sa.out.next b5)
  replace B := Lib.hid (thn B.out b5)
  clear b5
  obtain ⟨ba, oa, xa, rfl, hxa, _, HCa⟩ := Sa.out.sds.cells (j := 1) (by decide)
  obtain rfl := Option.some.inj hxa
  clear hxa
  obtain ⟨bl, ol, xl, hA, hxl, _, HCl⟩ := SL.out.sds.cells (j := 1) (by decide)
  injection hA with hA
  injection hA with e1 e2 e3
  subst e1 e2
  clear e3
  obtain rfl := Option.some.inj hxl
  clear hxl
  obtain ⟨_, _, pa, _⟩ := HCa.out w11 (Below.refl _ _)
  obtain ⟨_, _, pl, _⟩ := HCl.out w11 (Below.refl _ _)
  go_wp2_with fail
  clear pa pl HCa HCl
  clear Sa
  refine (one_any 5 255 w11).mono ?_
  rintro e w12 ⟨h8, rfl, o8, b5⟩
  have S8 : Hid (Fl w12 ((5, 1, 255, [(0, 1)]), h8)) := Sn.of_own o8
  replace T1 := Lib.hid (T1.out.next b5)
  replace T3 := Lib.hid (T3.out.next b5)
  replace SL := Lib.hid (SL.out.next b5)
  replace B := Lib.hid (thn B.out b5)
  clear b5
  have O8 := Lib.hid o8
  clear o8
  go_wp2_with (at_builtin; go_must (refine wpList_appsk rfl _ _ 22 rfl Try.underlying22 infoD rfl (by decide) rfl (Ows.below SL.out.ow (below_lit _ _)) rfl (Sn.lit w12 #[.int .u8 5, .int .u16 1, .int .u8 255, .slice h8.1 h8.2.1 h8.2.2] 27 (0, 0) 4 1 rfl (by decide)) (dcl_one ((5, 1, 255, [(0, 1)]), h8)) (by decide) (by decide) (by decide) (Nat.le_trans T1.out.le (below_lit _ _).size) ?_); intro Ag cg w20 og ok gg)
  have hbl := below_lit w12 (.cells #[.int .u8 5, .int .u16 1, .int .u8 255, .slice h8.1 h8.2.1 h8.2.2] 27)
  have O9 := Lib.hid (Ows.other (O8.out.below hbl) (SL.out.ow.below hbl) (by decide) gg)
  have g5 : (w12.alloc (.cells #[.int .u8 5, .int .u16 1, .int .u8 255, .slice h8.1 h8.2.1 h8.2.2] 27)).grownBy w20 (some g1) := gg
  replace T1 := Lib.hid ((T1.out.next hbl).grown g5 (Nat.le_refl _))
  replace T3 := Lib.hid ((T3.out.next hbl).grown g5 (Nat.le_refl _))
  have SO : Hid (Ods w20 g1 Ag 3 cg (LL h1 h3 ++ [((5, 1, 255, [(0, 1)]), h8)])) := ⟨og, fun z hz => by simp at hz; rcases hz with rfl | rfl | rfl; exact T1.out.fl; exact T3.out.fl; exact Sn.of_own O9.out⟩
  replace SL : Hid (Ods w20 g1 (some ⟨g1, 0, none⟩) 2 2 (LL h1 h3)) := ⟨ok, fun z hz => by simp at hz; rcases hz with rfl | rfl; exact T1.out.fl; exact T3.out.fl⟩
  replace B := Lib.hid (belowG (B.out.alloc B.out.size _) g5 (Nat.le_trans B.out.size hbl.size) LG.out)
  clear gg g5 og ok hbl O8 O9 S8 LG
  have hc := HDD.out.older Ag 3 cg _ w20 SO.out.sds (fit_of (ds := [(1, 1, 4, [(0, 1)]), (3, 1, 4, [(0, 1)]), (5, 1, 255, [(0, 1)])]) rfl (by decide) (by simp [dscR])) ⟨0, 3, by show RightD [(1, 1, 4, [(0, 1)]), (3, 1, 4, [(0, 1)]), (5, 1, 255, [(0, 1)])] 0 3; decide⟩
  refine hc.mono ?_
  clear hc
  rintro e w21 ⟨Ao, no, co, zo, rfl, mo, so, b5⟩
  obtain ⟨h5, h6, h7, rfl⟩ := map3 (mo.trans (show olderD [(1, 1, 4, [(0, 1)]), (3, 1, 4, [(0, 1)]), (5, 1, 255, [(0, 1)])] = [(1, 1, 5, [(0, 1)]), (3, 1, 5, [(0, 1)]), (5, 1, 255, [(0, 1)])] by decide +kernel))
  obtain rfl : no = 3 := so.len
  clear mo
  clear SO
  replace SL := Lib.hid (SL.out.next b5)
  replace B := Lib.hid (thn B.out b5)
  clear b5
  have So := Lib.hid so.ods
  clear so
  obtain ⟨bo, oo, xo, rfl, hxo, _, HC0⟩ := So.out.sds.cells (j := 0) (by decide)
  obtain rfl := Option.some.inj hxo
  clear hxo
  obtain ⟨b1, o1, x1, hA, hx1, _, HC1⟩ := So.out.sds.cells (j := 1) (by decide)
  injection hA with hA
  injection hA with e1 e2 e3
  subst e1 e2
  clear e3
  obtain rfl := Option.some.inj hx1
  clear hx1
  obtain ⟨b1, o1, x1, hA, hx1, _, HC2⟩ := So.out.sds.cells (j := 2) (by decide)
  injection hA with hA
  injection hA with e1 e2 e3
  subst e1 e2
  clear e3
  obtain rfl := Option.some.inj hx1
  clear hx1
  go_upto_region 9 with fail
  obtain ⟨At, htl, st⟩ := SL.out.sds.sn.tail (lo := 1) (by decide) 22 27 Try.underlying22 rfl (fun w' => Try.sizeOf27 w') .i64 1 rfl
  have LT : Hid (Sds w21 At 1 1 [((3, 1, 4, [(0, 1)]), h3)]) := ⟨st, fun z hz => SL.out.fl z (List.mem_cons_of_mem _ hz)⟩
  clear st
  refine wp_region_typed 59 [(73, .val (.slice (some ⟨bo, oo, none⟩) 3 co)), (74, .val (.int .i64 3)), (75, .val (.bool true)), (76, .val (.bool true)), (77, .val (.slice (some ⟨bo, oo, none⟩) 3 co)), (78, .val (.pointer (some ⟨bo, oo, none⟩))), (79, .val (.pointer (some ⟨bo, oo + 2, none⟩))), (80, .val (.int .u8 5)), (81, .val (.bool true)), (82, .val (.bool true)), (83, .val (.bool true)), (84, .val (.slice (some ⟨bo, oo, none⟩) 3 co)), (85, .val (.pointer (some ⟨bo, oo + 4, none⟩))), (86, .val (.pointer (some ⟨bo, oo + 4 + 2, none⟩))), (87, .val (.int .u8 5)), (88, .val (.bool true)), (89, .val (.bool true)), (90, .val (.bool true)), (91, .val (.slice (some ⟨bo, oo, none⟩) 3 co)), (92, .val (.pointer (some ⟨bo, oo + 8, none⟩))), (93, .val (.pointer (some ⟨bo, oo + 8 + 2, none⟩))), (94, .val (.int .u8 255)), (95, .val (.bool true)), (96, .val (.bool true)), (97, .val (.bool true)), (98, .val (.slice (some ⟨g1, 0, none⟩) 2 2)), (99, .val (.int .i64 0)), (100, .val (.bool true)), (101, .val (.bool true)), (102, .val (.bool true)), (103, .val (.slice (some ⟨bo, oo, none⟩) 3 co)), (104, .val (.int .i64 2)), (105, .val (.bool true)), (106, .val (.bool true)), (107, .val (.bool true)), (108, .val (.int .i64 (-1))), (109, .val (.bool true)), (110, .val (.bool true)), (111, .val (.bool true)), (112, .val (.slice (some ⟨g1, 0, none⟩) 2 2)), (113, tyX9 [(3, 1, 4, [(0, 1)])] 1), (114, .val (.slice (some ⟨g1, 0, none⟩) 2 2)), (115, .val (.slice At 1 1)), (116, .val (.bool true)), (117, .val (.bool true)), (118, .val (.bool true)), (119, .val (.slice (some ⟨g1, 0, none⟩) 2 2)), (120, .val (.bool true)), (121, .val (.bool true)), (122, .val (.bool true)), (123, .val (.slice (some ⟨g1, 0, none⟩) 2 2)), (124, .val (.bool false)), (125, .val (.bool true)), (126, .val (.bool true)), (127, .val (.bool true)), (128, .val (.slice (some ⟨g1, 0, none⟩) 2 2)), (129, .val (.bool false)), (130, .val (.bool true)), (131, .val (.bool true))]
    [[], [73], [74], [75], [76], [76, 77], [76, 78], [76, 79], [76, 80], [76, 81], [82], [83], [83, 84], [83, 85], [83, 86], [83, 87], [83, 88], [89], [90], [90, 91], [90, 92], [90, 93], [90, 94], [90, 95], [96], [97], [97, 98], [97, 99], [97, 100], [101], [102], [102, 103], [102, 104], [102, 105], [106], [107], [107, 108], [107, 109], [110], [111], [111, 112], [111], [111, 114], [111, 113, 115], [111, 116], [117], [118], [118, 119], [118, 120], [121], [122], [122, 123], [122, 124], [122, 125], [126], [127], [127, 128], [127, 129], [127, 130]] (by kernel_rfl) (by kernel_rfl) ?_ ?_
  rotate_left
  · intro v22 hb
    simp only [List.take_succ_cons, List.take_zero, List.drop_succ_cons, List.drop_zero]
    refine over_ds (ds := [73, 74, 75, 76, 77, 78, 79, 80, 81, 82, 83, 84, 85, 86, 87, 88, 89, 90, 91, 92, 93, 94, 95, 96, 97, 98, 99, 100, 101, 102, 103, 104, 105, 106, 107, 108, 109, 110, 111, 112, 113, 114, 115, 116, 117, 118, 119, 120, 121, 122, 123, 124, 125, 126, 127, 128, 129, 130, 131]) (by kernel_rfl) ?_
    refine over_some (ds1 := [73, 74, 75, 76, 77, 78, 79, 80, 81, 82, 83, 84, 85, 86, 87, 88, 89, 90, 91, 92, 93, 94, 95, 96, 97, 98, 99, 100, 101, 102, 103, 104, 105, 106, 107, 108, 109, 110, 111, 112]) (ds2 := [113, 114, 115, 116, 117, 118, 119, 120, 121, 122, 123, 124, 125, 126, 127, 128, 129, 130, 131]) [(.slice (some ⟨bo, oo, none⟩) 3 co), (.int .i64 3), (.bool true), (.bool true), (.slice (some ⟨bo, oo, none⟩) 3 co), (.pointer (some ⟨bo, oo, none⟩)), (.pointer (some ⟨bo, oo + 2, none⟩)), (.int .u8 5), (.bool true), (.bool true), (.bool true), (.slice (some ⟨bo, oo, none⟩) 3 co), (.pointer (some ⟨bo, oo + 4, none⟩)), (.pointer (some ⟨bo, oo + 4 + 2, none⟩)), (.int .u8 5), (.bool true), (.bool true), (.bool true), (.slice (some ⟨bo, oo, none⟩) 3 co), (.pointer (some ⟨bo, oo + 8, none⟩)), (.pointer (some ⟨bo, oo + 8 + 2, none⟩)), (.int .u8 255), (.bool true), (.bool true), (.bool true), (.slice (some ⟨g1, 0, none⟩) 2 2), (.int .i64 0), (.bool true), (.bool true), (.bool true), (.slice (some ⟨bo, oo, none⟩) 3 co), (.int .i64 2), (.bool true), (.bool true), (.bool true), (.int .i64 (-1)), (.bool true), (.bool true), (.bool true), (.slice (some ⟨g1, 0, none⟩) 2 2)] (by kernel_rfl) ?_
    refine over_pred rfl ?_
    rintro _ ⟨A113, c113, rfl, s113⟩
    refine over_some (ds1 := [114, 115, 116, 117, 118, 119, 120, 121, 122, 123, 124, 125, 126, 127, 128, 129, 130, 131]) (ds2 := []) [(.slice (some ⟨g1, 0, none⟩) 2 2), (.slice At 1 1), (.bool true), (.bool true), (.bool true), (.slice (some ⟨g1, 0, none⟩) 2 2), (.bool true), (.bool true), (.bool true), (.slice (some ⟨g1, 0, none⟩) 2 2), (.bool false), (.bool true), (.bool true), (.bool true), (.slice (some ⟨g1, 0, none⟩) 2 2), (.bool false), (.bool true), (.bool true)] (by kernel_rfl) ?_
    refine over_nil ?_
    simp only [putAll, put_lit, List.set_cons_succ, List.set_cons_zero]
    replace SL := Lib.hid (SL.out.next hb)
    replace So := Lib.hid (So.out.next hb)
    replace B := Lib.hid (thn B.out hb)
    clear hb
    go_wp2
    go_ret
    exact ⟨rfl, B.out⟩
  simp only [List.take_succ_cons, List.take_zero]
  refine ⟨?r9g0, ?r9g1, ?r9g2, ?r9g3, ?r9g4, ?r9g5, ?r9g6, ?r9g7, ?r9g8, ?r9g9, ?r9g10, ?r9g11, ?r9g12, ?r9g13, ?r9g14, ?r9g15, ?r9g16, ?r9g17, ?r9g18, ?r9g19, ?r9g20, ?r9g21, ?r9g22, ?r9g23, ?r9g24, ?r9g25, ?r9g26, ?r9g27, ?r9g28, ?r9g29, ?r9g30, ?r9g31, ?r9g32, ?r9g33, ?r9g34, ?r9g35, ?r9g36, ?r9g37, ?r9g38, ?r9g39, ?r9g40, ?r9g41, ?r9g42, ?r9g43, ?r9g44, ?r9g45, ?r9g46, ?r9g47, ?r9g48, ?r9g49, ?r9g50, ?r9g51, ?r9g52, ?r9g53, ?r9g54, ?r9g55, ?r9g56, ?r9g57, ?r9g58, trivial⟩
  case r9g0 =>
    intro w9 hb
    refine over_nil ?_
    go_wp2
    first | exact post_of (by rfl) (by rfl) (Below.refl _ _) (by rfl) | exact rfl
  case r9g1 =>
    intro w9 hb
    refine over_some (ds1 := [73]) (ds2 := []) [(.slice (some ⟨bo, oo, none⟩) 3 co)] (by kernel_rfl) ?_
    refine over_nil ?_
    simp only [putAll, put_lit, List.set_cons_succ, List.set_cons_zero]
    go_wp2
    first | exact post_of (by rfl) (by rfl) (Below.refl _ _) (by rfl) | exact rfl
  case r9g2 =>
    intro w9 hb
    refine over_some (ds1 := [74]) (ds2 := []) [(.int .i64 3)] (by kernel_rfl) ?_
    refine over_nil ?_
    simp only [putAll, put_lit, List.set_cons_succ, List.set_cons_zero]
    go_wp2
    exact post_of (by rfl) (by rfl) (Below.refl _ _) (by first | rfl | (show Value.bool _ = Value.bool _; rw [Value.bool.injEq]; first | exact decide_eq_true (by omega) | exact decide_eq_false (by omega) | assumption | (simp; omega)))
  case r9g3 =>
    intro w9 hb
    refine over_some (ds1 := [75]) (ds2 := []) [(.bool true)] (by kernel_rfl) ?_
    refine over_nil ?_
    simp only [putAll, put_lit, List.set_cons_succ, List.set_cons_zero]
    go_wp2
    first | exact post_of (by rfl) (by rfl) (Below.refl _ _) (by rfl) | exact rfl
  case r9g4 =>
    intro w9 hb
    refine over_some (ds1 := [76]) (ds2 := []) [(.bool true)] (by kernel_rfl) ?_
    refine over_nil ?_
    simp only [putAll, put_lit, List.set_cons_succ, List.set_cons_zero]
    go_wp2
    first | exact post_of (by rfl) (by rfl) (Below.refl _ _) (by rfl) | exact rfl
  case r9g5 =>
    intro w9 hb
    refine over_some (ds1 := [76, 77]) (ds2 := []) [(.bool true), (.slice (some ⟨bo, oo, none⟩) 3 co)] (by kernel_rfl) ?_
    refine over_nil ?_
    simp only [putAll, put_lit, List.set_cons_succ, List.set_cons_zero]
    go_wp2
    first | exact post_of (by rfl) (by rfl) (Below.refl _ _) (by rfl) | exact rfl
  case r9g6 =>
    intro w9 hb
    refine over_some (ds1 := [76, 78]) (ds2 := []) [(.bool true), (.pointer (some ⟨bo, oo, none⟩))] (by kernel_rfl) ?_
    refine over_nil ?_
    simp only [putAll, put_lit, List.set_cons_succ, List.set_cons_zero]
    go_wp2
    first | exact post_of (by rfl) (by rfl) (Below.refl _ _) (by rfl) | exact rfl
  case r9g7 =>
    intro w9 hb
    refine over_some (ds1 := [76, 79]) (ds2 := []) [(.bool true), (.pointer (some ⟨bo, oo + 2, none⟩))] (by kernel_rfl) ?_
    refine over_nil ?_
    simp only [putAll, put_lit, List.set_cons_succ, List.set_cons_zero]
    obtain ⟨_, _, p0, _⟩ := HC0.out w9 hb
    go_wp2
    first | exact post_of (by rfl) (by rfl) (Below.refl _ _) (by rfl) | exact rfl
  case r9g8 =>
    intro w9 hb
    refine over_some (ds1 := [76, 80]) (ds2 := []) [(.bool true), (.int .u8 5)] (by kernel_rfl) ?_
    refine over_nil ?_
    simp only [putAll, put_lit, List.set_cons_succ, List.set_cons_zero]
    go_wp2
    exact post_of (by rfl) (by rfl) (Below.refl _ _) (by first | rfl | (show Value.bool _ = Value.bool _; rw [Value.bool.injEq]; first | exact decide_eq_true (by omega) | exact decide_eq_false (by omega) | assumption | (simp; omega)))
  case r9g9 =>
    intro w9 hb
    refine over_some (ds1 := [76, 81]) (ds2 := []) [(.bool true), (.bool true)] (by kernel_rfl) ?_
    refine over_nil ?_
    simp only [putAll, put_lit, List.set_cons_succ, List.set_cons_zero]
    go_wp2
    first | exact post_of (by rfl) (by rfl) (Below.refl _ _) (by rfl) | exact rfl
  case r9g10 =>
    intro w9 hb
    refine over_some (ds1 := [82]) (ds2 := []) [(.bool true)] (by kernel_rfl) ?_
    refine over_nil ?_
    simp only [putAll, put_lit, List.set_cons_succ, List.set_cons_zero]
    go_wp2
    first | exact post_of (by rfl) (by rfl) (Below.refl _ _) (by rfl) | exact rfl
  case r9g11 =>
    intro w9 hb
    refine over_some (ds1 := [83]) (ds2 := []) [(.bool true)] (by kernel_rfl) ?_
    refine over_nil ?_
    simp only [putAll, put_lit, List.set_cons_succ, List.set_cons_zero]
    go_wp2
    first | exact post_of (by rfl) (by rfl) (Below.refl _ _) (by rfl) | exact rfl
  case r9g12 =>
    intro w9 hb
    refine over_some (ds1 := [83, 84]) (ds2 := []) [(.bool true), (.slice (some ⟨bo, oo, none⟩) 3 co)] (by kernel_rfl) ?_
    refine over_nil ?_
    simp only [putAll, put_lit, List.set_cons_succ, List.set_cons_zero]
    go_wp2
    first | exact post_of (by rfl) (by rfl) (Below.refl _ _) (by rfl) | exact rfl
  case r9g13 =>
    intro w9 hb
    refine over_some (ds1 := [83, 85]) (ds2 := []) [(.bool true), (.pointer (some ⟨bo, oo + 4, none⟩))] (by kernel_rfl) ?_
    refine over_nil ?_
    simp only [putAll, put_lit, List.set_cons_succ, List.set_cons_zero]
    go_wp2
    first | exact post_of (by rfl) (by rfl) (Below.refl _ _) (by rfl) | exact rfl
  case r9g14 =>
    intro w9 hb
    refine over_some (ds1 := [83, 86]) (ds2 := []) [(.bool true), (.pointer (some ⟨bo, oo + 4 + 2, none⟩))] (by kernel_rfl) ?_
    refine over_nil ?_
    simp only [putAll, put_lit, List.set_cons_succ, List.set_cons_zero]
    obtain ⟨_, _, p0, _⟩ := HC1.out w9 hb
    go_wp2
    first | exact post_of (by rfl) (by rfl) (Below.refl _ _) (by rfl) | exact rfl
  case r9g15 =>
    intro w9 hb
    refine over_some (ds1 := [83, 87]) (ds2 := []) [(.bool true), (.int .u8 5)] (by kernel_rfl) ?_
    refine over_nil ?_
    simp only [putAll, put_lit, List.set_cons_succ, List.set_cons_zero]
    go_wp2
    exact post_of (by rfl) (by rfl) (Below.refl _ _) (by first | rfl | (show Value.bool _ = Value.bool _; rw [Value.bool.injEq]; first | exact decide_eq_true (by omega) | exact decide_eq_false (by omega) | assumption | (simp; omega)))
  case r9g16 =>
    intro w9 hb
    refine over_some (ds1 := [83, 88]) (ds2 := []) [(.bool true), (.bool true)] (by kernel_rfl) ?_
    refine over_nil ?_
    simp only [putAll, put_lit, List.set_cons_succ, List.set_cons_zero]
    go_wp2
    first | exact post_of (by rfl) (by rfl) (Below.refl _ _) (by rfl) | exact rfl
  case r9g17 =>
    intro w9 hb
    refine over_some (ds1 := [89]) (ds2 := []) [(.bool true)] (by kernel_rfl) ?_
    refine over_nil ?_
    simp only [putAll, put_lit, List.set_cons_succ, List.set_cons_zero]
    go_wp2
    first | exact post_of (by rfl) (by rfl) (Below.refl _ _) (by rfl) | exact rfl
  case r9g18 =>
    intro w9 hb
    refine over_some (ds1 := [90]) (ds2 := []) [(.bool true)] (by kernel_rfl) ?_
    refine over_nil ?_
    simp only [putAll, put_lit, List.set_cons_succ, List.set_cons_zero]
    go_wp2
    first | exact post_of (by rfl) (by rfl) (Below.refl _ _) (by rfl) | exact rfl
  case r9g19 =>
    intro w9 hb
    refine over_some (ds1 := [90, 91]) (ds2 := []) [(.bool true), (.slice (some ⟨bo, oo, none⟩) 3 co)] (by kernel_rfl) ?_
    refine over_nil ?_
    simp only [putAll, put_lit, List.set_cons_succ, List.set_cons_zero]
    go_wp2
    first | exact post_of (by rfl) (by rfl) (Below.refl _ _) (by rfl) | exact rfl
  case r9g20 =>
    intro w9 hb
    refine over_some (ds1 := [90, 92]) (ds2 := []) [(.bool true), (.pointer (some ⟨bo, oo + 8, none⟩))] (by kernel_rfl) ?_
    refine over_nil ?_
    simp only [putAll, put_lit, List.set_cons_succ, List.set_cons_zero]
    go_wp2
    first | exact post_of (by rfl) (by rfl) (Below.refl _ _) (by rfl) | exact rfl
  case r9g21 =>
    intro w9 hb
    refine over_some (ds1 := [90, 93]) (ds2 := []) [(.bool true), (.pointer (some ⟨bo, oo + 8 + 2, none⟩))] (by kernel_rfl) ?_
    refine over_nil ?_
    simp only [putAll, put_lit, List.set_cons_succ, List.set_cons_zero]
    obtain ⟨_, _, p0, _⟩ := HC2.out w9 hb
    go_wp2
    first | exact post_of (by rfl) (by rfl) (Below.refl _ _) (by rfl) | exact rfl
  case r9g22 =>
    intro w9 hb
    refine over_some (ds1 := [90, 94]) (ds2 := []) [(.bool true), (.int .u8 255)] (by kernel_rfl) ?_
    refine over_nil ?_
    simp only [putAll, put_lit, List.set_cons_succ, List.set_cons_zero]
    go_wp2
    exact post_of (by rfl) (by rfl) (Below.refl _ _) (by first | rfl | (show Value.bool _ = Value.bool _; rw [Value.bool.injEq]; first | exact decide_eq_true (by omega) | exact decide_eq_false (by omega) | assumption | (simp; omega)))
  case r9g23 =>
    intro w9 hb
    refine over_some (ds1 := [90, 95]) (ds2 := []) [(.bool true), (.bool true)] (by kernel_rfl) ?_
    refine over_nil ?_
    simp only [putAll, put_lit, List.set_cons_succ, List.set_cons_zero]
    go_wp2
    first | exact post_of (by rfl) (by rfl) (Below.refl _ _) (by rfl) | exact rfl
  case r9g24 =>
    intro w9 hb
    refine over_some (ds1 := [96]) (ds2 := []) [(.bool true)] (by kernel_rfl) ?_
    refine over_nil ?_
    simp only [putAll, put_lit, List.set_cons_succ, List.set_cons_zero]
    go_wp2
    first | exact post_of (by rfl) (by rfl) (Below.refl _ _) (by rfl) | exact rfl
  case r9g25 =>
    intro w9 hb
    refine over_some (ds1 := [97]) (ds2 := []) [(.bool true)] (by kernel_rfl) ?_
    refine over_nil ?_
    simp only [putAll, put_lit, List.set_cons_succ, List.set_cons_zero]
    go_wp2
    first | exact post_of (by rfl) (by rfl) (Below.refl _ _) (by rfl) | exact rfl
  case r9g26 =>
    intro w9 hb
    refine over_some (ds1 := [97, 98]) (ds2 := []) [(.bool true), (.slice (some ⟨g1, 0, none⟩) 2 2)] (by kernel_rfl) ?_
    refine over_nil ?_
    simp only [putAll, put_lit, List.set_cons_succ, List.set_cons_zero]
    go_wp2_with fail
    have hc2 := HDD.out.oldest (some ⟨g1, 0, none⟩) 2 2 (LL h1 h3) w9 (SL.out.next hb).sds (fitL h1 h3) ⟨0, 2, by show RightD LD 0 2; decide⟩
    rw [show oldI (List.map (fun x : Dsc × Hd => x.1) (LL h1 h3)) = 0 from by show oldI LD = 0; decide +kernel] at hc2
    refine hc2.mono ?_
    clear hc2
    rintro e w8 ⟨rfl, b6⟩
    go_wp2
    exact post_of (by rfl) (by rfl) b6 (by rfl)
  case r9g27 =>
    intro w9 hb
    refine over_some (ds1 := [97, 99]) (ds2 := []) [(.bool true), (.int .i64 0)] (by kernel_rfl) ?_
    refine over_nil ?_
    simp only [putAll, put_lit, List.set_cons_succ, List.set_cons_zero]
    go_wp2
    exact post_of (by rfl) (by rfl) (Below.refl _ _) (by first | rfl | (show Value.bool _ = Value.bool _; rw [Value.bool.injEq]; first | exact decide_eq_true (by omega) | exact decide_eq_false (by omega) | assumption | (simp; omega)))
  case r9g28 =>
    intro w9 hb
    refine over_some (ds1 := [97, 100]) (ds2 := []) [(.bool true), (.bool true)] (by kernel_rfl) ?_
    refine over_nil ?_
    simp only [putAll, put_lit, List.set_cons_succ, List.set_cons_zero]
    go_wp2
    first | exact post_of (by rfl) (by rfl) (Below.refl _ _) (by rfl) | exact rfl
  case r9g29 =>
    intro w9 hb
    refine over_some (ds1 := [101]) (ds2 := []) [(.bool true)] (by kernel_rfl) ?_
    refine over_nil ?_
    simp only [putAll, put_lit, List.set_cons_succ, List.set_cons_zero]
    go_wp2
    first | exact post_of (by rfl) (by rfl) (Below.refl _ _) (by rfl) | exact rfl
  case r9g30 =>
    intro w9 hb
    refine over_some (ds1 := [102]) (ds2 := []) [(.bool true)] (by kernel_rfl) ?_
    refine over_nil ?_
    simp only [putAll, put_lit, List.set_cons_succ, List.set_cons_zero]
    go_wp2
    first | exact post_of (by rfl) (by rfl) (Below.refl _ _) (by rfl) | exact rfl
  case r9g31 =>
    intro w9 hb
    refine over_some (ds1 := [102, 103]) (ds2 := []) [(.bool true), (.slice (some ⟨bo, oo, none⟩) 3 co)] (by kernel_rfl) ?_
    refine over_nil ?_
    simp only [putAll, put_lit, List.set_cons_succ, List.set_cons_zero]
    go_wp2_with fail
    have hc2 := HDD.out.oldest (some ⟨bo, oo, none⟩) 3 co [((1, 1, 5, [(0, 1)]), h5), ((3, 1, 5, [(0, 1)]), h6), ((5, 1, 255, [(0, 1)]), h7)] w9 (So.out.next hb).sds (fit_of (ds := [(1, 1, 5, [(0, 1)]), (3, 1, 5, [(0, 1)]), (5, 1, 255, [(0, 1)])]) rfl (by decide) (by simp [dscR])) ⟨0, 3, by show RightD [(1, 1, 5, [(0, 1)]), (3, 1, 5, [(0, 1)]), (5, 1, 255, [(0, 1)])] 0 3; decide⟩
    rw [show oldI (List.map (fun x : Dsc × Hd => x.1) [((1, 1, 5, [(0, 1)]), h5), ((3, 1, 5, [(0, 1)]), h6), ((5, 1, 255, [(0, 1)]), h7)]) = 2 from by show oldI [(1, 1, 5, [(0, 1)]), (3, 1, 5, [(0, 1)]), (5, 1, 255, [(0, 1)])] = 2; decide +kernel] at hc2
    refine hc2.mono ?_
    clear hc2
    rintro e w8 ⟨rfl, b6⟩
    go_wp2
    exact post_of (by rfl) (by rfl) b6 (by rfl)
  case r9g32 =>
    intro w9 hb
    refine over_some (ds1 := [102, 104]) (ds2 := []) [(.bool true), (.int .i64 2)] (by kernel_rfl) ?_
    refine over_nil ?_
    simp only [putAll, put_lit, List.set_cons_succ, List.set_cons_zero]
    go_wp2
    exact post_of (by rfl) (by rfl) (Below.refl _ _) (by first | rfl | (show Value.bool _ = Value.bool _; rw [Value.bool.injEq]; first | exact decide_eq_true (by omega) | exact decide_eq_false (by omega) | assumption | (simp; omega)))
  case r9g33 =>
    intro w9 hb
    refine over_some (ds1 := [102, 105]) (ds2 := []) [(.bool true), (.bool true)] (by kernel_rfl) ?_
    refine over_nil ?_
    simp only [putAll, put_lit, List.set_cons_succ, List.set_cons_zero]
    go_wp2
    first | exact post_of (by rfl) (by rfl) (Below.refl _ _) (by rfl) | exact rfl
  case r9g34 =>
    intro w9 hb
    refine over_some (ds1 := [106]) (ds2 := []) [(.bool true)] (by kernel_rfl) ?_
    refine over_nil ?_
    simp only [putAll, put_lit, List.set_cons_succ, List.set_cons_zero]
    go_wp2
    first | exact post_of (by rfl) (by rfl) (Below.refl _ _) (by rfl) | exact rfl
  case r9g35 =>
    intro w9 hb
    refine over_some (ds1 := [107]) (ds2 := []) [(.bool true)] (by kernel_rfl) ?_
    refine over_nil ?_
    simp only [putAll, put_lit, List.set_cons_succ, List.set_cons_zero]
    go_wp2_with fail
    have hc2 := HDD.out.oldest none 0 0 [] w9 (Sds.nil w9) ⟨by decide, fun x hx => by cases hx⟩ ⟨0, 0, by show RightD [] 0 0; decide⟩
    rw [show oldI (List.map (fun x : Dsc × Hd => x.1) []) = -1 from rfl] at hc2
    refine hc2.mono ?_
    clear hc2
    rintro e w8 ⟨rfl, b6⟩
    go_wp2
    exact post_of (by rfl) (by rfl) b6 (by rfl)
  case r9g36 =>
    intro w9 hb
    refine over_some (ds1 := [107, 108]) (ds2 := []) [(.bool true), (.int .i64 (-1))] (by kernel_rfl) ?_
    refine over_nil ?_
    simp only [putAll, put_lit, List.set_cons_succ, List.set_cons_zero]
    go_wp2
    exact post_of (by rfl) (by rfl) (Below.refl _ _) (by first | rfl | (show Value.bool _ = Value.bool _; rw [Value.bool.injEq]; first | exact decide_eq_true (by omega) | exact decide_eq_false (by omega) | assumption | (simp; omega)))
  case r9g37 =>
    intro w9 hb
    refine over_some (ds1 := [107, 109]) (ds2 := []) [(.bool true), (.bool true)] (by kernel_rfl) ?_
    refine over_nil ?_
    simp only [putAll, put_lit, List.set_cons_succ, List.set_cons_zero]
    go_wp2
    first | exact post_of (by rfl) (by rfl) (Below.refl _ _) (by rfl) | exact rfl
  case r9g38 =>
    intro w9 hb
    refine over_some (ds1 := [110]) (ds2 := []) [(.bool true)] (by kernel_rfl) ?_
    refine over_nil ?_
    simp only [putAll, put_lit, List.set_cons_succ, List.set_cons_zero]
    go_wp2
    first | exact post_of (by rfl) (by rfl) (Below.refl _ _) (by rfl) | exact rfl
  case r9g39 =>
    intro w9 hb
    refine over_some (ds1 := [111]) (ds2 := []) [(.bool true)] (by kernel_rfl) ?_
    refine over_nil ?_
    simp only [putAll, put_lit, List.set_cons_succ, List.set_cons_zero]
    go_wp2
    first | exact post_of (by rfl) (by rfl) (Below.refl _ _) (by rfl) | exact rfl
  case r9g40 =>
    intro w9 hb
    refine over_some (ds1 := [111, 112]) (ds2 := []) [(.bool true), (.slice (some ⟨g1, 0, none⟩) 2 2)] (by kernel_rfl) ?_
    refine over_nil ?_
    simp only [putAll, put_lit, List.set_cons_succ, List.set_cons_zero]
    go_wp2_with fail
    have hc2 := HDD.out.drop (some ⟨g1, 0, none⟩) 2 2 (LL h1 h3) 1 w9 (SL.out.next hb).sds (fitL h1 h3) ⟨0, 2, by show RightD LD 0 2; decide⟩ (by decide)
    refine hc2.mono ?_
    clear hc2
    rintro e w8 ⟨A8, n8, c8, z8, rfl, m8, s8, b6⟩
    have m9 : z8.map (·.1) = [(3, 1, 4, [(0, 1)])] := m8.trans (show dropD LD 1 = _ by decide +kernel)
    have l9 : n8 = 1 := by have h1 := s8.len; have h2 := congrArg List.length m9; simp at h2; omega
    subst l9
    have S8 := Lib.hid s8.sds
    have M9 := Lib.hid m9
    clear s8 m8 m9
    go_wp2
    exact post_of (by rfl) (by rfl) b6 (by exact ⟨_, _, rfl, _, M9.out, S8.out⟩)
  case r9g41 =>
    intro w9 hb
    refine over_some (ds1 := [111]) (ds2 := []) [(.bool true)] (by kernel_rfl) ?_
    refine over_nil ?_
    simp only [putAll, put_lit, List.set_cons_succ, List.set_cons_zero]
    go_wp2
    first | exact post_of (by rfl) (by rfl) (Below.refl _ _) (by rfl) | exact rfl
  case r9g42 =>
    intro w9 hb
    refine over_some (ds1 := [111, 114]) (ds2 := []) [(.bool true), (.slice (some ⟨g1, 0, none⟩) 2 2)] (by kernel_rfl) ?_
    refine over_nil ?_
    simp only [putAll, put_lit, List.set_cons_succ, List.set_cons_zero]
    go_wp2
    first | exact post_of (by rfl) (by rfl) (Below.refl _ _) (by rfl) | exact rfl
  case r9g43 =>
    intro w9 hb
    refine over_some (ds1 := [111]) (ds2 := [113, 115]) [(.bool true)] (by kernel_rfl) ?_
    refine over_pred rfl ?_
    rintro _ ⟨A113, c113, rfl, s113⟩
    refine over_some (ds1 := [115]) (ds2 := []) [(.slice At 1 1)] (by kernel_rfl) ?_
    refine over_nil ?_
    simp only [putAll, put_lit, List.set_cons_succ, List.set_cons_zero]
    go_wp2_with fail
    have hc2 := descs_any A113 1 c113 s113.choose At 1 1 [((3, 1, 4, [(0, 1)]), h3)] w9 s113.choose_spec.2 (LT.out.next hb)
    rw [show decide (s113.choose.map (·.1) = [((3, 1, 4, [(0, 1)]), h3)].map (·.1)) = true from decide_eq_true s113.choose_spec.1] at hc2
    refine hc2.mono ?_
    clear hc2
    rintro e w8 ⟨rfl, b6⟩
    go_wp2
    exact post_of (by rfl) (by rfl) b6 (by rfl)
  case r9g44 =>
    intro w9 hb
    refine over_some (ds1 := [111, 116]) (ds2 := []) [(.bool true), (.bool true)] (by kernel_rfl) ?_
    refine over_nil ?_
    simp only [putAll, put_lit, List.set_cons_succ, List.set_cons_zero]
    go_wp2
    first | exact post_of (by rfl) (by rfl) (Below.refl _ _) (by rfl) | exact rfl
  case r9g45 =>
    intro w9 hb
    refine over_some (ds1 := [117]) (ds2 := []) [(.bool true)] (by kernel_rfl) ?_
    refine over_nil ?_
    simp only [putAll, put_lit, List.set_cons_succ, List.set_cons_zero]
    go_wp2
    first | exact post_of (by rfl) (by rfl) (Below.refl _ _) (by rfl) | exact rfl
  case r9g46 =>
    intro w9 hb
    refine over_some (ds1 := [118]) (ds2 := []) [(.bool true)] (by kernel_rfl) ?_
    refine over_nil ?_
    simp only [putAll, put_lit, List.set_cons_succ, List.set_cons_zero]
    go_wp2
    first | exact post_of (by rfl) (by rfl) (Below.refl _ _) (by rfl) | exact rfl
  case r9g47 =>
    intro w9 hb
    refine over_some (ds1 := [118, 119]) (ds2 := []) [(.bool true), (.slice (some ⟨g1, 0, none⟩) 2 2)] (by kernel_rfl) ?_
    refine over_nil ?_
    simp only [putAll, put_lit, List.set_cons_succ, List.set_cons_zero]
    go_wp2_with fail
    have hc2 := HDD.out.right (some ⟨g1, 0, none⟩) 2 2 (LL h1 h3) 0 2 w9 (SL.out.next hb).sds (fitL h1 h3) (by decide) (by decide) (by decide)
    rw [show decide (RightD (List.map (fun x : Dsc × Hd => x.1) (LL h1 h3)) 0 2) = true from by show decide (RightD LD 0 2) = true; decide +kernel] at hc2
    refine hc2.mono ?_
    clear hc2
    rintro e w8 ⟨rfl, b6⟩
    go_wp2
    exact post_of (by rfl) (by rfl) b6 (by rfl)
  case r9g48 =>
    intro w9 hb
    refine over_some (ds1 := [118, 120]) (ds2 := []) [(.bool true), (.bool true)] (by kernel_rfl) ?_
    refine over_nil ?_
    simp only [putAll, put_lit, List.set_cons_succ, List.set_cons_zero]
    go_wp2
    first | exact post_of (by rfl) (by rfl) (Below.refl _ _) (by rfl) | exact rfl
  case r9g49 =>
    intro w9 hb
    refine over_some (ds1 := [121]) (ds2 := []) [(.bool true)] (by kernel_rfl) ?_
    refine over_nil ?_
    simp only [putAll, put_lit, List.set_cons_succ, List.set_cons_zero]
    go_wp2
    first | exact post_of (by rfl) (by rfl) (Below.refl _ _) (by rfl) | exact rfl
  case r9g50 =>
    intro w9 hb
    refine over_some (ds1 := [122]) (ds2 := []) [(.bool true)] (by kernel_rfl) ?_
    refine over_nil ?_
    simp only [putAll, put_lit, List.set_cons_succ, List.set_cons_zero]
    go_wp2
    first | exact post_of (by rfl) (by rfl) (Below.refl _ _) (by rfl) | exact rfl
  case r9g51 =>
    intro w9 hb
    refine over_some (ds1 := [122, 123]) (ds2 := []) [(.bool true), (.slice (some ⟨g1, 0, none⟩) 2 2)] (by kernel_rfl) ?_
    refine over_nil ?_
    simp only [putAll, put_lit, List.set_cons_succ, List.set_cons_zero]
    go_wp2_with fail
    have hc2 := HDD.out.right (some ⟨g1, 0, none⟩) 2 2 (LL h1 h3) 0 1 w9 (SL.out.next hb).sds (fitL h1 h3) (by decide) (by decide) (by decide)
    rw [show decide (RightD (List.map (fun x : Dsc × Hd => x.1) (LL h1 h3)) 0 1) = false from by show decide (RightD LD 0 1) = false; decide +kernel] at hc2
    refine hc2.mono ?_
    clear hc2
    rintro e w8 ⟨rfl, b6⟩
    go_wp2
    exact post_of (by rfl) (by rfl) b6 (by rfl)
  case r9g52 =>
    intro w9 hb
    refine over_some (ds1 := [122, 124]) (ds2 := []) [(.bool true), (.bool false)] (by kernel_rfl) ?_
    refine over_nil ?_
    simp only [putAll, put_lit, List.set_cons_succ, List.set_cons_zero]
    go_wp2
    first | exact post_of (by rfl) (by rfl) (Below.refl _ _) (by rfl) | exact rfl
  case r9g53 =>
    intro w9 hb
    refine over_some (ds1 := [122, 125]) (ds2 := []) [(.bool true), (.bool true)] (by kernel_rfl) ?_
    refine over_nil ?_
    simp only [putAll, put_lit, List.set_cons_succ, List.set_cons_zero]
    go_wp2
    first | exact post_of (by rfl) (by rfl) (Below.refl _ _) (by rfl) | exact rfl
  case r9g54 =>
    intro w9 hb
    refine over_some (ds1 := [126]) (ds2 := []) [(.bool true)] (by kernel_rfl) ?_
    refine over_nil ?_
    simp only [putAll, put_lit, List.set_cons_succ, List.set_cons_zero]
    go_wp2
    first | exact post_of (by rfl) (by rfl) (Below.refl _ _) (by rfl) | exact rfl
  case r9g55 =>
    intro w9 hb
    refine over_some (ds1 := [127]) (ds2 := []) [(.bool true)] (by kernel_rfl) ?_
    refine over_nil ?_
    simp only [putAll, put_lit, List.set_cons_succ, List.set_cons_zero]
    go_wp2
    first | exact post_of (by rfl) (by rfl) (Below.refl _ _) (by rfl) | exact rfl
  case r9g56 =>
    intro w9 hb
    refine over_some (ds1 := [127, 128]) (ds2 := []) [(.bool true), (.slice (some ⟨g1, 0, none⟩) 2 2)] (by kernel_rfl) ?_
    refine over_nil ?_
    simp only [putAll, put_lit, List.set_cons_succ, List.set_cons_zero]
    go_wp2_with fail
    have hc2 := HDD.out.right (some ⟨g1, 0, none⟩) 2 2 (LL h1 h3) 3 2 w9 (SL.out.next hb).sds (fitL h1 h3) (by decide) (by decide) (by decide)
    rw [show decide (RightD (List.map (fun x : Dsc × Hd => x.1) (LL h1 h3)) 3 2) = false from by show decide (RightD LD 3 2) = false; decide +kernel] at hc2
    refine hc2.mono ?_
    clear hc2
    rintro e w8 ⟨rfl, b6⟩
    go_wp2
    exact post_of (by rfl) (by rfl) b6 (by rfl)
  case r9g57 =>
    intro w9 hb
    refine over_some (ds1 := [127, 129]) (ds2 := []) [(.bool true), (.bool false)] (by kernel_rfl) ?_
    refine over_nil ?_
    simp only [putAll, put_lit, List.set_cons_succ, List.set_cons_zero]
    go_wp2
    first | exact post_of (by rfl) (by rfl) (Below.refl _ _) (by rfl) | exact rfl
  case r9g58 =>
    intro w9 hb
    refine over_some (ds1 := [127, 130]) (ds2 := []) [(.bool true), (.bool true)] (by kernel_rfl) ?_
    refine over_nil ?_
    simp only [putAll, put_lit, List.set_cons_succ, List.set_cons_zero]
    go_wp2
    first | exact post_of (by rfl) (by rfl) (Below.refl _ _) (by rfl) | exact rfl
end Go.Proofs.Ytlkjlmmdllkdcaa
