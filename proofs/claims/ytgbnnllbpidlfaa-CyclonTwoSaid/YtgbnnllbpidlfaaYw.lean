/- Layer 10: the chapter's examples. -/
import Derived.Test.YtgbnnllbpidlfaaYi
namespace Go.Proofs.Ytgbnnllbpidlfaa
open Go.RowKit
set_option linter.unusedVariables false
abbrev oD (n a : Int) : Dsc × Hd := ((n, 1, a, []), (none, 0, 0))
theorem one10_any (n a : Int) (w : World) : Calls Try.prog 26 #[.int .u8 n, .int .u8 a] w fun e w' => e = .returned (.agg #[.int .u8 n, .int .u16 1, .int .u8 a, .slice none 0 0]) ∧ Below w.heap.size w w' := by
  go_enter Try.func26, Try.ntmps26
  go_wp2
  have hB := below_lit w (.cells #[.int .u8 n, .int .u16 1, .int .u8 a, .slice none 0 0] 34)
  obtain ⟨p0, p1, p2, p3⟩ := (DBlk.new w (n, 1, a, []) (none, 0, 0)).cells
  dsimp only at p0 p1 p2 p3
  refine bodyPost_ret (v := .agg #[.int .u8 n, .int .u16 1, .int .u8 a, .slice none 0 0]) (by simp [results, Try.results26, go_sem, p0, p1, p2, p3]) rfl ⟨rfl, hB⟩
theorem sds_lit (w : World) (cs : Array Value) (xs : List (Dsc × Hd)) (n : Nat) (hc : cs.toList = dcs xs) (hn : xs.length = n) (hm : n ≤ 1000) (hx : ∀ x ∈ xs, x.2 = (none, 0, 0) ∧ x.1.2.2.2 = []) : Sds (w.alloc (.cells cs 34)) (some ⟨w.heap.size, 0, none⟩) n n xs := by
  have hsz : cs.size = n * 4 := by rw [← Array.length_toList, hc, dcs_length, hn]
  refine ⟨?_, fun x h => ?_⟩
  · have := Sn.lit w cs 34 (0, 0) 4 n hsz (by unfold maxLen; omega)
    rw [hc] at this
    exact this.more (by show _ ≤ (w.heap.push _).size; simp)
  · obtain ⟨h1, h2⟩ := hx x h
    obtain ⟨⟨a, b, c, d⟩, hd⟩ := x
    dsimp only at h1 h2
    subst h1 h2
    exact Sn.nil rfl
theorem su_lit (w : World) (cs : Array Value) (rs : List Int) (n : Nat) (hc : cs.toList = Nl .u32 rs) (hn : rs.length = n) (hm : n ≤ 1000) : Su (w.alloc (.cells cs 49)) (some ⟨w.heap.size, 0, none⟩) n n rs := by
  have hsz : cs.size = n * 1 := by rw [← Array.length_toList, hc, Nl_length, hn, Nat.mul_one]
  have := Sn.lit w cs 49 (0, 0) 1 n hsz (by unfold maxLen; omega)
  rw [hc] at this
  exact (this.more (by show _ ≤ (w.heap.push _).size; simp)).sv
abbrev LA3 : List (Dsc × Hd) := [oD 1 1, oD 2 5, oD 3 0]
theorem fit_LA : Fit 3 LA3 := fit_of (ds := LA3.map (·.1)) rfl (by decide) (by simp [dscR, oD])
theorem fit2 (a b c d : Int) (h : byt a ∧ byt b ∧ byt c ∧ byt d) : Fit 2 [oD a b, oD c d] := fit_of (ds := [oD a b, oD c d].map (·.1)) rfl (by decide) (by simp [dscR, oD]; omega)
theorem aw_ask : askD (LA3.map (·.1)) (9, 1, 7, []) 2 [3] = (2, [(9, 1, 0, []), (3, 1, 0, [])], true) := Prod.ext (by decide +kernel) (Prod.ext (by decide +kernel) (by decide +kernel))
theorem aw_none : askD (([] : List (Dsc × Hd)).map (·.1)) (9, 1, 7, []) 2 [3] = (0, [], false) := Prod.ext (by decide +kernel) (Prod.ext (by decide +kernel) (by decide +kernel))
theorem aw_merge : mergeD (LA3.map (·.1)) ([oD 4 0, oD 5 0].map (·.1)) ([oD 9 0, oD 3 0].map (·.1)) 9 3 = [(1, 1, 1, []), (2, 1, 5, []), (4, 1, 0, [])] := by decide +kernel
theorem aw_pick : (pickD (dropD (LA3.map (·.1)) 1) 2 [7, 8, 9]).length = 2 := by decide +kernel
theorem fl_nil (w : World) (d : Dsc) (h : d.2.2.2 = []) : Fl w (d, (none, 0, 0)) := by show Sp w _ none 0 0 d.2.2.2; rw [h]; exact Sn.nil rfl
set_option maxRecDepth 100000 in
set_option maxHeartbeats 8000000 in
theorem awake_any (w : World) : Calls Try.prog 9 #[] w fun e w' => e = .returned (.bool true) ∧ Below w.heap.size w w' := by
  have B := Lib.hid (Below.refl w.heap.size w)
  go_enter Try.func9, Try.ntmps9
  go_wp2_with fail
  refine (one10_any 1 1 _).mono ?_
  rintro e w1 ⟨rfl, b5⟩
  replace B := Lib.hid (thn B.out b5)
  clear b5
  go_wp2_with fail
  refine (one10_any 2 5 _).mono ?_
  rintro e w2 ⟨rfl, b5⟩
  replace B := Lib.hid (thn B.out b5)
  clear b5
  go_wp2_with fail
  refine (one10_any 3 0 _).mono ?_
  rintro e w3 ⟨rfl, b5⟩
  replace B := Lib.hid (thn B.out b5)
  clear b5
  go_upto_region 2 with fail
  have hbl := below_lit w3 (.cells #[.int .u8 1, .int .u16 1, .int .u8 1, .slice none 0 0, .int .u8 2, .int .u16 1, .int .u8 5, .slice none 0 0, .int .u8 3, .int .u16 1, .int .u8 0, .slice none 0 0] 34)
  have hS := sds_lit w3 #[.int .u8 1, .int .u16 1, .int .u8 1, .slice none 0 0, .int .u8 2, .int .u16 1, .int .u8 5, .slice none 0 0, .int .u8 3, .int .u16 1, .int .u8 0, .slice none 0 0] [oD 1 1, oD 2 5, oD 3 0] 3 rfl rfl (by decide) (by simp [oD])
  replace B := Lib.hid (thn B.out hbl)
  have SL := Lib.hid hS
  clear hS hbl
  generalize w3.alloc (.cells #[.int .u8 1, .int .u16 1, .int .u8 1, .slice none 0 0, .int .u8 2, .int .u16 1, .int .u8 5, .slice none 0 0, .int .u8 3, .int .u16 1, .int .u8 0, .slice none 0 0] 34) = w4 at *
  obtain ⟨gL, hgL⟩ : ∃ g, w3.heap.size = g := ⟨_, rfl⟩
  rw [hgL] at SL ⊢
  clear hgL
  go_wp2_with fail
  refine (one10_any 9 7 _).mono ?_
  rintro e w5 ⟨rfl, b5⟩
  replace SL := Lib.hid (SL.out.next b5)
  replace B := Lib.hid (thn B.out b5)
  clear b5
  go_wp2_with fail
  have hbl := below_lit w5 (.cells #[.int .u32 3] 49)
  have hU := su_lit w5 #[.int .u32 3] [3] 1 rfl rfl (by decide)
  have hc := ask_any _ 3 3 LA3 (9, 1, 7, []) (none, 0, 0) 2 _ 1 1 [3] _ (SL.out.next hbl) fit_LA (fl_nil _ _ rfl) ⟨by simp [dscR], by decide⟩ (by decide) hU (by simp [drawR])
  rw [aw_ask] at hc
  refine hc.mono ?_
  clear hc hU
  rintro e w6 ⟨Aa, na, ca, za, rfl, ma, da, b5⟩
  replace b5 := thn hbl b5
  replace SL := Lib.hid (SL.out.next b5)
  replace B := Lib.hid (thn B.out b5)
  clear b5 hbl
  have Sa := Lib.hid da.sds
  have Ma := Lib.hid ma
  clear da ma
  dsimp only
  go_wp2_with fail
  refine (one10_any 4 0 _).mono ?_
  rintro e w7 ⟨rfl, b5⟩
  replace SL := Lib.hid (SL.out.next b5)
  replace Sa := Lib.hid (Sa.out.next b5)
  replace B := Lib.hid (thn B.out b5)
  clear b5
  go_wp2_with fail
  refine (one10_any 5 0 _).mono ?_
  rintro e w8 ⟨rfl, b5⟩
  replace SL := Lib.hid (SL.out.next b5)
  replace Sa := Lib.hid (Sa.out.next b5)
  replace B := Lib.hid (thn B.out b5)
  clear b5
  have hbl := below_lit w8 (.cells #[.int .u8 4, .int .u16 1, .int .u8 0, .slice none 0 0, .int .u8 5, .int .u16 1, .int .u8 0, .slice none 0 0] 34)
  have hS := sds_lit w8 #[.int .u8 4, .int .u16 1, .int .u8 0, .slice none 0 0, .int .u8 5, .int .u16 1, .int .u8 0, .slice none 0 0] [oD 4 0, oD 5 0] 2 rfl rfl (by decide) (by simp [oD])
  have SG := Lib.hid hS
  clear hS
  go_wp2_with fail
  refine (one10_any 9 0 _).mono ?_
  rintro e w9 ⟨rfl, b5⟩
  replace SG := Lib.hid (SG.out.next b5)
  replace b5 := thn hbl b5
  replace SL := Lib.hid (SL.out.next b5)
  replace Sa := Lib.hid (Sa.out.next b5)
  replace B := Lib.hid (thn B.out b5)
  clear b5 hbl
  go_wp2_with fail
  refine (one10_any 3 0 _).mono ?_
  rintro e w10 ⟨rfl, b5⟩
  replace SL := Lib.hid (SL.out.next b5)
  replace Sa := Lib.hid (Sa.out.next b5)
  replace SG := Lib.hid (SG.out.next b5)
  replace B := Lib.hid (thn B.out b5)
  clear b5
  have hbl := below_lit w10 (.cells #[.int .u8 9, .int .u16 1, .int .u8 0, .slice none 0 0, .int .u8 3, .int .u16 1, .int .u8 0, .slice none 0 0] 34)
  have hS := sds_lit w10 #[.int .u8 9, .int .u16 1, .int .u8 0, .slice none 0 0, .int .u8 3, .int .u16 1, .int .u8 0, .slice none 0 0] [oD 9 0, oD 3 0] 2 rfl rfl (by decide) (by simp [oD])
  go_wp2_with fail
  have hc := merge_any _ 3 3 LA3 _ 2 2 [oD 4 0, oD 5 0] _ 2 2 [oD 9 0, oD 3 0] 9 3 _ (SL.out.next hbl) fit_LA (SG.out.next hbl) (fit2 4 0 5 0 (by decide)) hS (fit2 9 0 3 0 (by decide)) (by decide) (by show RightD [(1, 1, 1, []), (2, 1, 5, []), (3, 1, 0, [])] 9 3; decide)
  rw [aw_merge] at hc
  refine hc.mono ?_
  clear hc hS
  rintro e w11 ⟨Am, nm, cm, zm, rfl, mm, dm, b5⟩
  replace b5 := thn hbl b5
  replace SL := Lib.hid (SL.out.next b5)
  replace Sa := Lib.hid (Sa.out.next b5)
  replace SG := Lib.hid (SG.out.next b5)
  replace B := Lib.hid (thn B.out b5)
  clear b5 hbl
  have Sm := Lib.hid dm.sds
  have Mm := Lib.hid mm
  clear dm mm SG
  go_wp2_with fail
  refine (one10_any 9 7 _).mono ?_
  rintro e w12 ⟨rfl, b5⟩
  replace SL := Lib.hid (SL.out.next b5)
  replace Sa := Lib.hid (Sa.out.next b5)
  replace Sm := Lib.hid (Sm.out.next b5)
  replace B := Lib.hid (thn B.out b5)
  clear b5
  go_wp2_with fail
  have hbl := below_lit w12 (.cells #[.int .u32 3] 49)
  have hU := su_lit w12 #[.int .u32 3] [3] 1 rfl rfl (by decide)
  have hc := ask_any none 0 0 [] (9, 1, 7, []) (none, 0, 0) 2 _ 1 1 [3] _ (Sds.nil _) ⟨by decide, fun x hx => by cases hx⟩ (fl_nil _ _ rfl) ⟨by simp [dscR], by decide⟩ (by decide) hU (by simp [drawR])
  rw [aw_none] at hc
  refine hc.mono ?_
  clear hc hU
  rintro e w13 ⟨Ab, nb, cb, zb, rfl, mb, db, b5⟩
  replace b5 := thn hbl b5
  replace SL := Lib.hid (SL.out.next b5)
  replace Sa := Lib.hid (Sa.out.next b5)
  replace Sm := Lib.hid (Sm.out.next b5)
  replace B := Lib.hid (thn B.out b5)
  clear b5 hbl
  have Sb := Lib.hid db.sds
  have Mb := Lib.hid mb
  clear db mb
  dsimp only
  go_wp2_with fail
  refine (one10_any 9 0 _).mono ?_
  rintro e w14 ⟨rfl, b5⟩
  replace SL := Lib.hid (SL.out.next b5)
  replace Sa := Lib.hid (Sa.out.next b5)
  replace Sm := Lib.hid (Sm.out.next b5)
  replace Sb := Lib.hid (Sb.out.next b5)
  replace B := Lib.hid (thn B.out b5)
  clear b5
  go_wp2_with fail
  refine (one10_any 3 0 _).mono ?_
  rintro e w15 ⟨rfl, b5⟩
  replace SL := Lib.hid (SL.out.next b5)
  replace Sa := Lib.hid (Sa.out.next b5)
  replace Sm := Lib.hid (Sm.out.next b5)
  replace Sb := Lib.hid (Sb.out.next b5)
  replace B := Lib.hid (thn B.out b5)
  clear b5
  have hbl := below_lit w15 (.cells #[.int .u8 9, .int .u16 1, .int .u8 0, .slice none 0 0, .int .u8 3, .int .u16 1, .int .u8 0, .slice none 0 0] 34)
  have hS := sds_lit w15 #[.int .u8 9, .int .u16 1, .int .u8 0, .slice none 0 0, .int .u8 3, .int .u16 1, .int .u8 0, .slice none 0 0] [oD 9 0, oD 3 0] 2 rfl rfl (by decide) (by simp [oD])
  go_wp2_with fail
  have hc := descs_any Aa na ca za _ 2 2 [oD 9 0, oD 3 0] _ (Sa.out.next hbl) hS
  rw [show decide (za.map (·.1) = [oD 9 0, oD 3 0].map (·.1)) = true from decide_eq_true Ma.out] at hc
  refine hc.mono ?_
  clear hc hS
  rintro e w16 ⟨rfl, b5⟩
  replace b5 := thn hbl b5
  replace SL := Lib.hid (SL.out.next b5)
  replace Sa := Lib.hid (Sa.out.next b5)
  replace Sm := Lib.hid (Sm.out.next b5)
  replace Sb := Lib.hid (Sb.out.next b5)
  replace B := Lib.hid (thn B.out b5)
  clear b5 hbl
  go_wp2_with fail
  refine (one10_any 1 1 _).mono ?_
  rintro e w17 ⟨rfl, b5⟩
  replace SL := Lib.hid (SL.out.next b5)
  replace Sa := Lib.hid (Sa.out.next b5)
  replace Sm := Lib.hid (Sm.out.next b5)
  replace Sb := Lib.hid (Sb.out.next b5)
  replace B := Lib.hid (thn B.out b5)
  clear b5
  go_wp2_with fail
  refine (one10_any 2 5 _).mono ?_
  rintro e w18 ⟨rfl, b5⟩
  replace SL := Lib.hid (SL.out.next b5)
  replace Sa := Lib.hid (Sa.out.next b5)
  replace Sm := Lib.hid (Sm.out.next b5)
  replace Sb := Lib.hid (Sb.out.next b5)
  replace B := Lib.hid (thn B.out b5)
  clear b5
  go_wp2_with fail
  refine (one10_any 4 0 _).mono ?_
  rintro e w19 ⟨rfl, b5⟩
  replace SL := Lib.hid (SL.out.next b5)
  replace Sa := Lib.hid (Sa.out.next b5)
  replace Sm := Lib.hid (Sm.out.next b5)
  replace Sb := Lib.hid (Sb.out.next b5)
  replace B := Lib.hid (thn B.out b5)
  clear b5
  have hbl := below_lit w19 (.cells #[.int .u8 1, .int .u16 1, .int .u8 1, .slice none 0 0, .int .u8 2, .int .u16 1, .int .u8 5, .slice none 0 0, .int .u8 4, .int .u16 1, .int .u8 0, .slice none 0 0] 34)
  have hS := sds_lit w19 #[.int .u8 1, .int .u16 1, .int .u8 1, .slice none 0 0, .int .u8 2, .int .u16 1, .int .u8 5, .slice none 0 0, .int .u8 4, .int .u16 1, .int .u8 0, .slice none 0 0] [oD 1 1, oD 2 5, oD 4 0] 3 rfl rfl (by decide) (by simp [oD])
  go_wp2_with fail
  have hc := descs_any Am nm cm zm _ 3 3 [oD 1 1, oD 2 5, oD 4 0] _ (Sm.out.next hbl) hS
  rw [show decide (zm.map (·.1) = [oD 1 1, oD 2 5, oD 4 0].map (·.1)) = true from decide_eq_true Mm.out] at hc
  refine hc.mono ?_
  clear hc hS
  rintro e w20 ⟨rfl, b5⟩
  replace b5 := thn hbl b5
  replace SL := Lib.hid (SL.out.next b5)
  replace Sa := Lib.hid (Sa.out.next b5)
  replace Sm := Lib.hid (Sm.out.next b5)
  replace Sb := Lib.hid (Sb.out.next b5)
  replace B := Lib.hid (thn B.out b5)
  clear b5 hbl
  go_wp2_with fail
  have hbl := below_lit w20 (.cells #[.int .u32 7, .int .u32 8, .int .u32 9] 49)
  have hU := su_lit w20 #[.int .u32 7, .int .u32 8, .int .u32 9] [7, 8, 9] 3 rfl rfl (by decide)
  refine (pick_any _ 3 3 LA3 2 1 _ 3 3 [7, 8, 9] _ (SL.out.next hbl) fit_LA hU (by simp [drawR])).mono ?_
  rintro e w21 ⟨Ap, np, cp, zp, rfl, mp, dp, b5⟩
  obtain rfl : np = 2 := by have h1 := dp.len; have h2 := congrArg List.length mp; rw [aw_pick, List.length_map] at h2; omega
  replace B := Lib.hid (thn B.out (thn hbl b5))
  clear b5 hbl hU mp dp
  go_wp2
  go_ret
  exact ⟨rfl, B.out⟩
end Go.Proofs.Ytgbnnllbpidlfaa
