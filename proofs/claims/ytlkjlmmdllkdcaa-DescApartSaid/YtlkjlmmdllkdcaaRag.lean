/- Layer 9: DescAges. -/
import Derived.Test.YtlkjlmmdllkdcaaRaw
namespace Go.Proofs.Ytlkjlmmdllkdcaa
open Go.RowKit
set_option linter.unusedVariables false
theorem few_yes {ds : List Dsc} (h : fewB ds = true) : (∀ d ∈ ds, d.2.2.2.length ≤ 8) ∧ ds.length ≤ 20 := of_decide_eq_true h
theorem few_fit {n : Nat} {xs : List (Dsc × Hd)} (h : fewB (xs.map (·.1)) = true) (hl : n = xs.length) (hR : ∀ x ∈ xs, dscR x.1) : Fit n xs := by
  obtain ⟨h1, h2⟩ := few_yes h
  rw [List.length_map] at h2
  exact ⟨by omega, fun x hx => ⟨hR x hx, Nat.le_trans (h1 x.1 (List.mem_map.2 ⟨x, hx, rfl⟩)) (by decide)⟩⟩
theorem view_fit {n m : Nat} {xs zs : List (Dsc × Hd)} {self room k : Int} (h : ViewX xs zs self room k) (hf : Fit n xs) (hr : room ≤ 1000) (hl : m = zs.length) : Fit m zs := ⟨by have := h.room_; omega, h.well hf.all⟩
theorem fit_older {n : Nat} {zs os : List (Dsc × Hd)} (h : Fit n zs) (e : os.map (·.1) = olderD (zs.map (·.1))) : Fit n os := by
  refine fit_of e h.len fun d hd => ?_
  obtain ⟨x, hx, rfl⟩ := List.mem_map.1 hd
  obtain ⟨z, hz, rfl⟩ := List.mem_map.1 hx
  obtain ⟨⟨a, b, c⟩, l⟩ := h.all z hz
  refine ⟨⟨a, b, ?_⟩, l⟩
  unfold oldD; simp only; split <;> omega
theorem older_get {zs os : List (Dsc × Hd)} {j : Nat} {x y : Dsc × Hd} (e : os.map (·.1) = olderD (zs.map (·.1))) (hx : zs[j]? = some x) (hy : os[j]? = some y) : y.1 = oldD x.1 := by
  have h := congrArg (·[j]?) e
  simp only [List.getElem?_map, older_at, hx, hy, Option.map_some] at h
  injection h
theorem oldD_min (d : Dsc) (h : dscR d) : (if 255 < d.2.2.1 + 1 then 255 else d.2.2.1 + 1) = (oldD d).2.2.1 := by
  obtain ⟨_, _, h1, h2⟩ := h
  unfold oldD; simp only
  by_cases h3 : d.2.2.1 = 255
  · rw [if_pos h3, if_pos (by omega)]
  · rw [if_neg h3, if_neg (by omega)]
set_option maxRecDepth 100000 in
set_option maxHeartbeats 8000000 in
theorem ages_walk (HD : DescOK) (A : Option Addr) (n c : Nat) (xs : List (Dsc × Hd)) (self : Int) (w : World) (h : Sds w A n c xs) (hR : ∀ x ∈ xs, dscR x.1) (hs : byt self) : Calls Try.prog 6 #[.slice A n c, .int .u8 self] w fun e w' => e = .returned (.bool true) ∧ Below w.heap.size w w' := by
  have HDD := Lib.hid HD
  have HL := Lib.hid h.len
  have HR := Lib.hid hR
  have HS := Lib.hid h
  have HSF := Lib.hid hs
  have B := Lib.hid (Below.refl w.heap.size w)
  obtain ⟨f, HFW⟩ : ∃ f, Hid (fewB (xs.map (·.1)) = f) := ⟨_, rfl⟩
  clear h hR HD hs
  go_enter Try.func6, Try.ntmps6
  go_wp2_with fail
  have hc := few_any A n c xs w HS.out
  rw [HFW.out] at hc
  refine hc.mono ?_
  clear hc
  rintro e w1 ⟨rfl, b5⟩
  replace HS := Lib.hid (HS.out.next b5)
  replace B := Lib.hid (thn B.out b5)
  clear b5
  cases f
  · skip
    go_wp2_with fail
    refine (awake_any HDD.out w1).mono ?_
    rintro e w2 ⟨rfl, b5⟩
    replace HS := Lib.hid (HS.out.next b5)
    replace B := Lib.hid (thn B.out b5)
    clear b5
    go_wp2
    go_ret
    exact ⟨rfl, B.out⟩
  · have HFX := Lib.hid (few_fit HFW.out HL.out HR.out)
    go_wp2_with fail
    have hc := view_any A n c xs self 20 w1 HS.out HR.out (by decide)
    refine hc.mono ?_
    clear hc
    rintro e w2 ⟨Av, nv, cv, zv, rfl, hv, sv, b5⟩
    replace HS := Lib.hid (HS.out.next b5)
    replace B := Lib.hid (thn B.out b5)
    clear b5
    have HV := Lib.hid hv
    have SV := Lib.hid sv
    have HLV := Lib.hid sv.len
    have HRV := Lib.hid hv.right
    have HFV := Lib.hid (view_fit hv HFX.out (by decide) sv.len)
    have hmv := sv.sds.max
    have hcv := sv.sds.cap
    unfold maxLen at hmv
    clear hv sv
    go_wp2_with fail
    have hc := HDD.out.older Av nv cv zv w2 SV.out.sds HFV.out ⟨self, 20, HRV.out⟩
    refine hc.mono ?_
    clear hc
    rintro e w3 ⟨Ao, no, co, zo, rfl, mo, so, b5⟩
    replace HS := Lib.hid (HS.out.next b5)
    replace SV := Lib.hid (SV.out.next b5)
    replace B := Lib.hid (thn B.out b5)
    clear b5
    obtain rfl : no = nv := by
      have h1 := so.len
      have h2 := congrArg List.length mo
      rw [List.length_map, older_len, List.length_map, ← HLV.out, ← h1] at h2
      exact h2
    have MO := Lib.hid mo
    have SO := Lib.hid so.ods
    have hmo := so.sds.max
    have hco := so.sds.cap
    unfold maxLen at hmo
    clear mo so
    obtain ⟨kk, HK⟩ : ∃ kk, Hid (oldI (zv.map (·.1)) = kk) := ⟨_, rfl⟩
    go_wp2_with fail
    have hc := HDD.out.oldest Av no cv zv w3 SV.out.sds HFV.out ⟨self, 20, HRV.out⟩
    rw [HK.out] at hc
    refine hc.mono ?_
    clear hc
    rintro e w4 ⟨rfl, b5⟩
    replace HS := Lib.hid (HS.out.next b5)
    replace SV := Lib.hid (SV.out.next b5)
    replace SO := Lib.hid (SO.out.next b5)
    replace B := Lib.hid (thn B.out b5)
    clear b5
    by_cases hz : no = 0
    · subst hz
      obtain rfl : zv = [] := List.eq_nil_of_length_eq_zero HLV.out.symm
      obtain rfl : kk = -1 := HK.out.symm.trans rfl
      obtain rfl : zo = [] := List.eq_nil_of_length_eq_zero (by have h := congrArg List.length MO.out; rw [List.length_map] at h; exact h)
      go_wp2
      go_loopw [8, 42] (fun fv iv wr => fv = .bool false ∧ iv = .int .i64 0 ∧ wr = w4) (fun _ _ _ => 0)
      case atStart => exact ⟨rfl, rfl, rfl⟩
      case round =>
        obtain ⟨rfl, rfl, rfl⟩ := hrel
        go_wp2_with fail
        have hc := HDD.out.oldest Ao 0 co [] wr SO.out.sds ⟨by decide, fun x hx => by cases hx⟩ ⟨0, 0, by show RightD [] 0 0; decide⟩
        rw [show oldI (List.map (fun x : Dsc × Hd => x.1) []) = -1 from rfl] at hc
        refine hc.mono ?_
        clear hc
        rintro e w20 ⟨rfl, b5⟩
        replace HS := Lib.hid (HS.out.next b5)
        replace SV := Lib.hid (SV.out.next b5)
        replace SO := Lib.hid (SO.out.next b5)
        replace B := Lib.hid (thn B.out b5)
        clear b5
        go_wp2_with fail
        refine (awake_any HDD.out w20).mono ?_
        rintro e w21 ⟨rfl, b5⟩
        replace HS := Lib.hid (HS.out.next b5)
        replace SV := Lib.hid (SV.out.next b5)
        replace SO := Lib.hid (SO.out.next b5)
        replace B := Lib.hid (thn B.out b5)
        clear b5
        go_wp2
        go_ret
        exact ⟨rfl, B.out⟩
    · skip
      obtain ⟨k, a, hk, hke⟩ := oldI_is (ds := zv.map (·.1)) (fun h => hz (by rw [HLV.out]; exact (List.length_map (f := fun x : Dsc × Hd => x.1)).symm.trans (congrArg List.length h)))
      obtain rfl : kk = (k : Int) := HK.out.symm.trans hke
      obtain ⟨z, hzk, hza⟩ : ∃ z, zv[k]? = some z ∧ z.1.2.2.1 = a := by
        obtain ⟨d, hd, hda⟩ := hk.at_
        rw [List.getElem?_map] at hd
        obtain ⟨z, hz, rfl⟩ := Option.map_eq_some_iff.1 hd
        exact ⟨z, hz, hda⟩
      have kl : k < no := by rw [HLV.out]; exact (List.getElem?_eq_some_iff.1 hzk).1
      have HOLD := Lib.hid hk
      have HZK := Lib.hid hzk
      have HZA := Lib.hid hza
      have k0 : (0 : Int) ≤ (k : Int) := by omega
      have k1 : (k : Int) < (no : Int) := by omega
      have HFO := Lib.hid (fit_older HFV.out MO.out)
      have HRO : Hid (RightD (zo.map (·.1)) self 20) := by unfold Hid; rw [MO.out]; exact right_older HRV.out
      have nz : ((no : Int) == 0) = false := by simp; omega
      have nz2 : ¬ ((no : Int) = 0) := by omega
      clear hk hke hzk hza hz HK
      go_wp2
      go_loopw [8, 42] (fun fv iv wr => ∃ (j : Nat) (fb : Bool), j ≤ no ∧ fv = .bool fb ∧ iv = .int .i64 j ∧ Hid (fb = false → ∀ i x, i < j → zv[i]? = some x → x.1.2.2.1 < 254) ∧ Hid (Below w4.heap.size w4 wr)) (fun _ iv _ => no - (intOf iv).toNat)
      case atStart => exact ⟨0, false, Nat.zero_le _, rfl, rfl, fun _ i x hi => absurd hi (Nat.not_lt_zero _), Below.refl _ _⟩
      case round =>
        obtain ⟨j, fb, hj, rfl, rfl, HJ, BL⟩ := hrel
        have i0 : (0 : Int) ≤ (j : Int) := by omega
        by_cases hlt : j < no
        · have i1 : (j : Int) < (no : Int) := by omega
          obtain ⟨bv, ov, x, rfl, hx, hxm, HCx⟩ := SV.out.sds.cells hlt
          obtain ⟨bz, oz, z2, hA, hz2, _, HCz⟩ := SV.out.sds.cells kl
          injection hA with hA
          injection hA with e1 e2 e3
          subst e1 e2
          clear e3
          obtain rfl : z2 = z := Option.some.inj (hz2.symm.trans HZK.out)
          obtain ⟨bo, oo, y, rfl, hy, _, HCy⟩ := SO.out.sds.cells hlt
          have hyo := older_get MO.out hx hy
          have hxz : x.1.2.2.1 ≤ z2.1.2.2.1 := by rw [HZA.out]; exact HOLD.out.all x.1 (List.mem_map.2 ⟨x, hxm, rfl⟩)
          have hxk : x.1.2.2.1 = z2.1.2.2.1 → k ≤ j := fun he => by
            rcases Nat.lt_or_ge j k with h | h
            · have := HOLD.out.first j x.1 h (by rw [List.getElem?_map, hx]; rfl)
              rw [HZA.out] at he
              omega
            · exact h
          obtain ⟨⟨⟨n0, n1⟩, _, x0, x1⟩, _⟩ := HFV.out.all x hxm
          have hmin := oldD_min x.1 (HFV.out.all x hxm).1
          obtain ⟨ya, hya⟩ : ∃ ya, (oldD x.1).2.2.1 = ya := ⟨_, rfl⟩
          have hyn : y.1.1 = x.1.1 := by rw [hyo]; rfl
          have hy2 : y.1.2.2.1 = ya := by rw [hyo]; exact hya
          rw [hya] at hmin
          have y0 : 0 ≤ ya := by rw [← hmin]; split <;> omega
          have y1 : ya ≤ 255 := by rw [← hmin]; split <;> omega
          rw [hyn, hy2] at HCy
          have HX := Lib.hid hx
          have HXK := Lib.hid hxk
          clear hx hxm hz2 hy hyo hxk hya hyn hy2
          obtain ⟨xa, HXA⟩ : ∃ xa, Hid (x.1.2.2.1 = xa) := ⟨_, rfl⟩
          obtain ⟨za, HZA2⟩ : ∃ za, Hid (z2.1.2.2.1 = za) := ⟨_, rfl⟩
          obtain ⟨nd, HND⟩ : ∃ nd, Hid (x.1.1 = nd) := ⟨_, rfl⟩
          rw [HXA.out, HND.out] at HCx
          rw [HND.out] at HCy
          rw [HZA2.out] at HCz
          rw [HXA.out, HZA2.out] at hxz HXK
          rw [HXA.out] at hmin x0 x1
          clear n0 n1
          by_cases hq : xa = za
          · have jk : k ≤ j := HXK.out hq
            have jk1 : ¬ ((j : Int) < (k : Int)) := by omega
            have hqb : (xa == za) = true := by simpa using hq
            clear hq HXK
            go_upto_region 12 with fail
            refine wp_region_typed 58 [(45, .val (.slice (some ⟨bo, oo, none⟩) no co)), (46, .val (.int .i64 (j : Int))), (47, .val (.pointer (some ⟨bo, oo + j * 4, none⟩))), (48, .val (.pointer (some ⟨bo, oo + j * 4 + 2, none⟩))), (49, .val (.int .u8 ya)), (50, .val (.int .i64 ya)), (51, .val (.slice (some ⟨bv, ov, none⟩) no cv)), (52, .val (.int .i64 (j : Int))), (53, .val (.pointer (some ⟨bv, ov + j * 4, none⟩))), (54, .val (.pointer (some ⟨bv, ov + j * 4 + 2, none⟩))), (55, .val (.int .u8 xa)), (56, .val (.int .i64 xa)), (57, .val (.int .i64 (xa + 1))), (58, .val (.int .i64 ya)), (59, .val (.bool false)), (60, .val (.bool false)), (61, .val (.slice (some ⟨bo, oo, none⟩) no co)), (62, .val (.int .i64 (j : Int))), (63, .val (.pointer (some ⟨bo, oo + j * 4, none⟩))), (64, .val (.pointer (some ⟨bo, oo + j * 4, none⟩))), (65, .val (.int .u8 nd)), (66, .val (.slice (some ⟨bv, ov, none⟩) no cv)), (67, .val (.int .i64 (j : Int))), (68, .val (.pointer (some ⟨bv, ov + j * 4, none⟩))), (69, .val (.pointer (some ⟨bv, ov + j * 4, none⟩))), (70, .val (.int .u8 nd)), (71, .val (.bool false)), (72, .val (.bool false)), (73, .val (.bool false)), (74, .val (.slice (some ⟨bv, ov, none⟩) no cv)), (75, .val (.int .i64 (j : Int))), (76, .val (.pointer (some ⟨bv, ov + j * 4, none⟩))), (77, .val (.pointer (some ⟨bv, ov + j * 4 + 2, none⟩))), (78, .val (.int .u8 xa)), (79, .val (.slice (some ⟨bv, ov, none⟩) no cv)), (80, .val (.int .i64 (k : Int))), (81, .val (.pointer (some ⟨bv, ov + k * 4, none⟩))), (82, .val (.pointer (some ⟨bv, ov + k * 4 + 2, none⟩))), (83, .val (.int .u8 za)), (84, .val (.bool false)), (85, .val (.bool false)), (86, .val (.bool false)), (87, .val (.slice (some ⟨bv, ov, none⟩) no cv)), (88, .val (.int .i64 (j : Int))), (89, .val (.pointer (some ⟨bv, ov + j * 4, none⟩))), (90, .val (.pointer (some ⟨bv, ov + j * 4 + 2, none⟩))), (91, .val (.int .u8 xa)), (92, .val (.slice (some ⟨bv, ov, none⟩) no cv)), (93, .val (.int .i64 (k : Int))), (94, .val (.pointer (some ⟨bv, ov + k * 4, none⟩))), (95, .val (.pointer (some ⟨bv, ov + k * 4 + 2, none⟩))), (96, .val (.int .u8 za)), (97, .val (.bool true)), (98, .val (.bool true)), (99, .val (.int .i64 (j : Int))), (100, .val (.int .i64 (k : Int))), (101, .val (.bool false)), (102, .val (.bool false))]
              [[], [], [45, 46], [47], [48], [49], [], [], [51, 52], [53], [54], [55], [56], [57], [50, 58], [59], [60], [60], [60, 61, 62], [60, 63], [60, 64], [60], [60], [60, 66, 67], [60, 68], [60, 69], [60, 65, 70], [60, 71], [72], [73], [73], [73, 74, 75], [73, 76], [73, 77], [73], [73], [73, 79, 80], [73, 81], [73, 82], [73, 78, 83], [73, 84], [85], [86], [86], [86, 87, 88], [86, 89], [86, 90], [86], [86], [86, 92, 93], [86, 94], [86, 95], [86, 91, 96], [86, 97], [98], [98], [98, 99, 100], [86, 98, 101]] (by kernel_rfl) (by kernel_rfl) ?_ ?_
            rotate_left
            · intro v31 hb
              simp only [List.take_succ_cons, List.take_zero, List.drop_succ_cons, List.drop_zero]
              refine over_ds (ds := [45, 46, 47, 48, 49, 50, 51, 52, 53, 54, 55, 56, 57, 58, 59, 60, 61, 62, 63, 64, 65, 66, 67, 68, 69, 70, 71, 72, 73, 74, 75, 76, 77, 78, 79, 80, 81, 82, 83, 84, 85, 86, 87, 88, 89, 90, 91, 92, 93, 94, 95, 96, 97, 98, 99, 100, 101, 102]) (by kernel_rfl) ?_
              refine over_some (ds1 := [45, 46, 47, 48, 49, 50, 51, 52, 53, 54, 55, 56, 57, 58, 59, 60, 61, 62, 63, 64, 65, 66, 67, 68, 69, 70, 71, 72, 73, 74, 75, 76, 77, 78, 79, 80, 81, 82, 83, 84, 85, 86, 87, 88, 89, 90, 91, 92, 93, 94, 95, 96, 97, 98, 99, 100, 101, 102]) (ds2 := []) [(.slice (some ⟨bo, oo, none⟩) no co), (.int .i64 (j : Int)), (.pointer (some ⟨bo, oo + j * 4, none⟩)), (.pointer (some ⟨bo, oo + j * 4 + 2, none⟩)), (.int .u8 ya), (.int .i64 ya), (.slice (some ⟨bv, ov, none⟩) no cv), (.int .i64 (j : Int)), (.pointer (some ⟨bv, ov + j * 4, none⟩)), (.pointer (some ⟨bv, ov + j * 4 + 2, none⟩)), (.int .u8 xa), (.int .i64 xa), (.int .i64 (xa + 1)), (.int .i64 ya), (.bool false), (.bool false), (.slice (some ⟨bo, oo, none⟩) no co), (.int .i64 (j : Int)), (.pointer (some ⟨bo, oo + j * 4, none⟩)), (.pointer (some ⟨bo, oo + j * 4, none⟩)), (.int .u8 nd), (.slice (some ⟨bv, ov, none⟩) no cv), (.int .i64 (j : Int)), (.pointer (some ⟨bv, ov + j * 4, none⟩)), (.pointer (some ⟨bv, ov + j * 4, none⟩)), (.int .u8 nd), (.bool false), (.bool false), (.bool false), (.slice (some ⟨bv, ov, none⟩) no cv), (.int .i64 (j : Int)), (.pointer (some ⟨bv, ov + j * 4, none⟩)), (.pointer (some ⟨bv, ov + j * 4 + 2, none⟩)), (.int .u8 xa), (.slice (some ⟨bv, ov, none⟩) no cv), (.int .i64 (k : Int)), (.pointer (some ⟨bv, ov + k * 4, none⟩)), (.pointer (some ⟨bv, ov + k * 4 + 2, none⟩)), (.int .u8 za), (.bool false), (.bool false), (.bool false), (.slice (some ⟨bv, ov, none⟩) no cv), (.int .i64 (j : Int)), (.pointer (some ⟨bv, ov + j * 4, none⟩)), (.pointer (some ⟨bv, ov + j * 4 + 2, none⟩)), (.int .u8 xa), (.slice (some ⟨bv, ov, none⟩) no cv), (.int .i64 (k : Int)), (.pointer (some ⟨bv, ov + k * 4, none⟩)), (.pointer (some ⟨bv, ov + k * 4 + 2, none⟩)), (.int .u8 za), (.bool true), (.bool true), (.int .i64 (j : Int)), (.int .i64 (k : Int)), (.bool false), (.bool false)] (by kernel_rfl) ?_
              refine over_nil ?_
              simp only [putAll, put_lit, List.set_cons_succ, List.set_cons_zero]
              replace BL := Lib.hid (thn BL.out hb)
              clear hb
              obtain ⟨_, _, p2, _⟩ := HCx.out v31 BL.out
              cases fb
              · by_cases h254 : 254 ≤ xa
                · go_wp2
                  go_roundw
                  case rel => exact ⟨j + 1, true, by omega, rfl, by go_num, (fun h => by cases h), BL⟩
                  case measure => simp [intOf]; omega
                · have HJ2 : Hid (false = false → ∀ i x, i < j + 1 → zv[i]? = some x → x.1.2.2.1 < 254) := fun _ i x' hi hx' => by
                    rcases Nat.lt_or_ge i j with h | h
                    · exact HJ.out rfl i x' h hx'
                    · obtain rfl : i = j := by omega
                      obtain rfl := Option.some.inj (HX.out.symm.trans hx')
                      rw [HXA.out]; omega
                  go_wp2
                  go_roundw
                  case rel => exact ⟨j + 1, false, by omega, rfl, by go_num, HJ2, BL⟩
                  case measure => simp [intOf]; omega
              · go_wp2
                go_roundw
                case rel => exact ⟨j + 1, true, by omega, rfl, by go_num, (fun h => by cases h), BL⟩
                case measure => simp [intOf]; omega
            simp only [List.take_succ_cons, List.take_zero]
            refine ⟨?r12g0, ?r12g1, ?r12g2, ?r12g3, ?r12g4, ?r12g5, ?r12g6, ?r12g7, ?r12g8, ?r12g9, ?r12g10, ?r12g11, ?r12g12, ?r12g13, ?r12g14, ?r12g15, ?r12g16, ?r12g17, ?r12g18, ?r12g19, ?r12g20, ?r12g21, ?r12g22, ?r12g23, ?r12g24, ?r12g25, ?r12g26, ?r12g27, ?r12g28, ?r12g29, ?r12g30, ?r12g31, ?r12g32, ?r12g33, ?r12g34, ?r12g35, ?r12g36, ?r12g37, ?r12g38, ?r12g39, ?r12g40, ?r12g41, ?r12g42, ?r12g43, ?r12g44, ?r12g45, ?r12g46, ?r12g47, ?r12g48, ?r12g49, ?r12g50, ?r12g51, ?r12g52, ?r12g53, ?r12g54, ?r12g55, ?r12g56, ?r12g57, trivial⟩
            case r12g0 =>
              intro w9 hb
              refine over_nil ?_
              go_wp2
              first | exact post_of (by rfl) (by rfl) (Below.refl _ _) (by rfl) | exact rfl
            case r12g1 =>
              intro w9 hb
              refine over_nil ?_
              go_wp2
              first | exact post_of (by rfl) (by rfl) (Below.refl _ _) (by rfl) | exact rfl
            case r12g2 =>
              intro w9 hb
              refine over_some (ds1 := [45, 46]) (ds2 := []) [(.slice (some ⟨bo, oo, none⟩) no co), (.int .i64 (j : Int))] (by kernel_rfl) ?_
              refine over_nil ?_
              simp only [putAll, put_lit, List.set_cons_succ, List.set_cons_zero]
              go_wp2
              first | exact post_of (by rfl) (by rfl) (Below.refl _ _) (by rfl) | exact rfl
            case r12g3 =>
              intro w9 hb
              refine over_some (ds1 := [47]) (ds2 := []) [(.pointer (some ⟨bo, oo + j * 4, none⟩))] (by kernel_rfl) ?_
              refine over_nil ?_
              simp only [putAll, put_lit, List.set_cons_succ, List.set_cons_zero]
              go_wp2
              first | exact post_of (by rfl) (by rfl) (Below.refl _ _) (by rfl) | exact rfl
            case r12g4 =>
              intro w9 hb
              refine over_some (ds1 := [48]) (ds2 := []) [(.pointer (some ⟨bo, oo + j * 4 + 2, none⟩))] (by kernel_rfl) ?_
              refine over_nil ?_
              simp only [putAll, put_lit, List.set_cons_succ, List.set_cons_zero]
              obtain ⟨p0, _, p2, _⟩ := HCy.out w9 (thn BL.out hb)
              go_wp2
              first | exact post_of (by rfl) (by rfl) (Below.refl _ _) (by rfl) | exact rfl
            case r12g5 =>
              intro w9 hb
              refine over_some (ds1 := [49]) (ds2 := []) [(.int .u8 ya)] (by kernel_rfl) ?_
              refine over_nil ?_
              simp only [putAll, put_lit, List.set_cons_succ, List.set_cons_zero]
              go_wp2
              first | exact post_of (by rfl) (by rfl) (Below.refl _ _) (by rfl) | exact rfl
            case r12g6 =>
              intro w9 hb
              refine over_nil ?_
              go_wp2
              first | exact post_of (by rfl) (by rfl) (Below.refl _ _) (by rfl) | exact rfl
            case r12g7 =>
              intro w9 hb
              refine over_nil ?_
              go_wp2
              first | exact post_of (by rfl) (by rfl) (Below.refl _ _) (by rfl) | exact rfl
            case r12g8 =>
              intro w9 hb
              refine over_some (ds1 := [51, 52]) (ds2 := []) [(.slice (some ⟨bv, ov, none⟩) no cv), (.int .i64 (j : Int))] (by kernel_rfl) ?_
              refine over_nil ?_
              simp only [putAll, put_lit, List.set_cons_succ, List.set_cons_zero]
              go_wp2
              first | exact post_of (by rfl) (by rfl) (Below.refl _ _) (by rfl) | exact rfl
            case r12g9 =>
              intro w9 hb
              refine over_some (ds1 := [53]) (ds2 := []) [(.pointer (some ⟨bv, ov + j * 4, none⟩))] (by kernel_rfl) ?_
              refine over_nil ?_
              simp only [putAll, put_lit, List.set_cons_succ, List.set_cons_zero]
              go_wp2
              first | exact post_of (by rfl) (by rfl) (Below.refl _ _) (by rfl) | exact rfl
            case r12g10 =>
              intro w9 hb
              refine over_some (ds1 := [54]) (ds2 := []) [(.pointer (some ⟨bv, ov + j * 4 + 2, none⟩))] (by kernel_rfl) ?_
              refine over_nil ?_
              simp only [putAll, put_lit, List.set_cons_succ, List.set_cons_zero]
              obtain ⟨p0, _, p2, _⟩ := HCx.out w9 (thn BL.out hb)
              go_wp2
              first | exact post_of (by rfl) (by rfl) (Below.refl _ _) (by rfl) | exact rfl
            case r12g11 =>
              intro w9 hb
              refine over_some (ds1 := [55]) (ds2 := []) [(.int .u8 xa)] (by kernel_rfl) ?_
              refine over_nil ?_
              simp only [putAll, put_lit, List.set_cons_succ, List.set_cons_zero]
              go_wp2
              first | exact post_of (by rfl) (by rfl) (Below.refl _ _) (by rfl) | exact rfl
            case r12g12 =>
              intro w9 hb
              refine over_some (ds1 := [56]) (ds2 := []) [(.int .i64 xa)] (by kernel_rfl) ?_
              refine over_nil ?_
              simp only [putAll, put_lit, List.set_cons_succ, List.set_cons_zero]
              go_wp2
              first | exact post_of (by rfl) (by rfl) (Below.refl _ _) (by rfl) | exact rfl
            case r12g13 =>
              intro w9 hb
              refine over_some (ds1 := [57]) (ds2 := []) [(.int .i64 (xa + 1))] (by kernel_rfl) ?_
              refine over_nil ?_
              simp only [putAll, put_lit, List.set_cons_succ, List.set_cons_zero]
              go_wp2
              first | exact post_of (by rfl) (by rfl) (Below.refl _ _) (by rfl) | exact rfl
            case r12g14 =>
              intro w9 hb
              refine over_some (ds1 := [50, 58]) (ds2 := []) [(.int .i64 ya), (.int .i64 ya)] (by kernel_rfl) ?_
              refine over_nil ?_
              simp only [putAll, put_lit, List.set_cons_succ, List.set_cons_zero]
              go_wp2
              exact post_of (by rfl) (by rfl) (Below.refl _ _) (by first | rfl | (show Value.bool _ = Value.bool _; rw [Value.bool.injEq]; first | exact decide_eq_true (by omega) | exact decide_eq_false (by omega) | assumption | (simp; omega)))
            case r12g15 =>
              intro w9 hb
              refine over_some (ds1 := [59]) (ds2 := []) [(.bool false)] (by kernel_rfl) ?_
              refine over_nil ?_
              simp only [putAll, put_lit, List.set_cons_succ, List.set_cons_zero]
              go_wp2
              first | exact post_of (by rfl) (by rfl) (Below.refl _ _) (by rfl) | exact rfl
            case r12g16 =>
              intro w9 hb
              refine over_some (ds1 := [60]) (ds2 := []) [(.bool false)] (by kernel_rfl) ?_
              refine over_nil ?_
              simp only [putAll, put_lit, List.set_cons_succ, List.set_cons_zero]
              go_wp2
              first | exact post_of (by rfl) (by rfl) (Below.refl _ _) (by rfl) | exact rfl
            case r12g17 =>
              intro w9 hb
              refine over_some (ds1 := [60]) (ds2 := []) [(.bool false)] (by kernel_rfl) ?_
              refine over_nil ?_
              simp only [putAll, put_lit, List.set_cons_succ, List.set_cons_zero]
              go_wp2
              first | exact post_of (by rfl) (by rfl) (Below.refl _ _) (by rfl) | exact rfl
            case r12g18 =>
              intro w9 hb
              refine over_some (ds1 := [60, 61, 62]) (ds2 := []) [(.bool false), (.slice (some ⟨bo, oo, none⟩) no co), (.int .i64 (j : Int))] (by kernel_rfl) ?_
              refine over_nil ?_
              simp only [putAll, put_lit, List.set_cons_succ, List.set_cons_zero]
              go_wp2
              first | exact post_of (by rfl) (by rfl) (Below.refl _ _) (by rfl) | exact rfl
            case r12g19 =>
              intro w9 hb
              refine over_some (ds1 := [60, 63]) (ds2 := []) [(.bool false), (.pointer (some ⟨bo, oo + j * 4, none⟩))] (by kernel_rfl) ?_
              refine over_nil ?_
              simp only [putAll, put_lit, List.set_cons_succ, List.set_cons_zero]
              go_wp2
              first | exact post_of (by rfl) (by rfl) (Below.refl _ _) (by rfl) | exact rfl
            case r12g20 =>
              intro w9 hb
              refine over_some (ds1 := [60, 64]) (ds2 := []) [(.bool false), (.pointer (some ⟨bo, oo + j * 4, none⟩))] (by kernel_rfl) ?_
              refine over_nil ?_
              simp only [putAll, put_lit, List.set_cons_succ, List.set_cons_zero]
              obtain ⟨p0, _, p2, _⟩ := HCy.out w9 (thn BL.out hb)
              go_wp2
              first | exact post_of (by rfl) (by rfl) (Below.refl _ _) (by rfl) | exact rfl
            case r12g21 =>
              intro w9 hb
              refine over_some (ds1 := [60]) (ds2 := []) [(.bool false)] (by kernel_rfl) ?_
              refine over_nil ?_
              simp only [putAll, put_lit, List.set_cons_succ, List.set_cons_zero]
              go_wp2
              first | exact post_of (by rfl) (by rfl) (Below.refl _ _) (by rfl) | exact rfl
            case r12g22 =>
              intro w9 hb
              refine over_some (ds1 := [60]) (ds2 := []) [(.bool false)] (by kernel_rfl) ?_
              refine over_nil ?_
              simp only [putAll, put_lit, List.set_cons_succ, List.set_cons_zero]
              go_wp2
              first | exact post_of (by rfl) (by rfl) (Below.refl _ _) (by rfl) | exact rfl
            case r12g23 =>
              intro w9 hb
              refine over_some (ds1 := [60, 66, 67]) (ds2 := []) [(.bool false), (.slice (some ⟨bv, ov, none⟩) no cv), (.int .i64 (j : Int))] (by kernel_rfl) ?_
              refine over_nil ?_
              simp only [putAll, put_lit, List.set_cons_succ, List.set_cons_zero]
              go_wp2
              first | exact post_of (by rfl) (by rfl) (Below.refl _ _) (by rfl) | exact rfl
            case r12g24 =>
              intro w9 hb
              refine over_some (ds1 := [60, 68]) (ds2 := []) [(.bool false), (.pointer (some ⟨bv, ov + j * 4, none⟩))] (by kernel_rfl) ?_
              refine over_nil ?_
              simp only [putAll, put_lit, List.set_cons_succ, List.set_cons_zero]
              go_wp2
              first | exact post_of (by rfl) (by rfl) (Below.refl _ _) (by rfl) | exact rfl
            case r12g25 =>
              intro w9 hb
              refine over_some (ds1 := [60, 69]) (ds2 := []) [(.bool false), (.pointer (some ⟨bv, ov + j * 4, none⟩))] (by kernel_rfl) ?_
              refine over_nil ?_
              simp only [putAll, put_lit, List.set_cons_succ, List.set_cons_zero]
              obtain ⟨p0, _, p2, _⟩ := HCx.out w9 (thn BL.out hb)
              go_wp2
              first | exact post_of (by rfl) (by rfl) (Below.refl _ _) (by rfl) | exact rfl
            case r12g26 =>
              intro w9 hb
              refine over_some (ds1 := [60, 65, 70]) (ds2 := []) [(.bool false), (.int .u8 nd), (.int .u8 nd)] (by kernel_rfl) ?_
              refine over_nil ?_
              simp only [putAll, put_lit, List.set_cons_succ, List.set_cons_zero]
              go_wp2
              exact post_of (by rfl) (by rfl) (Below.refl _ _) (by first | rfl | (show Value.bool _ = Value.bool _; rw [Value.bool.injEq]; first | exact decide_eq_true (by omega) | exact decide_eq_false (by omega) | assumption | (simp; omega)))
            case r12g27 =>
              intro w9 hb
              refine over_some (ds1 := [60, 71]) (ds2 := []) [(.bool false), (.bool false)] (by kernel_rfl) ?_
              refine over_nil ?_
              simp only [putAll, put_lit, List.set_cons_succ, List.set_cons_zero]
              go_wp2
              first | exact post_of (by rfl) (by rfl) (Below.refl _ _) (by rfl) | exact rfl
            case r12g28 =>
              intro w9 hb
              refine over_some (ds1 := [72]) (ds2 := []) [(.bool false)] (by kernel_rfl) ?_
              refine over_nil ?_
              simp only [putAll, put_lit, List.set_cons_succ, List.set_cons_zero]
              go_wp2
              first | exact post_of (by rfl) (by rfl) (Below.refl _ _) (by rfl) | exact rfl
            case r12g29 =>
              intro w9 hb
              refine over_some (ds1 := [73]) (ds2 := []) [(.bool false)] (by kernel_rfl) ?_
              refine over_nil ?_
              simp only [putAll, put_lit, List.set_cons_succ, List.set_cons_zero]
              go_wp2
              first | exact post_of (by rfl) (by rfl) (Below.refl _ _) (by rfl) | exact rfl
            case r12g30 =>
              intro w9 hb
              refine over_some (ds1 := [73]) (ds2 := []) [(.bool false)] (by kernel_rfl) ?_
              refine over_nil ?_
              simp only [putAll, put_lit, List.set_cons_succ, List.set_cons_zero]
              go_wp2
              first | exact post_of (by rfl) (by rfl) (Below.refl _ _) (by rfl) | exact rfl
            case r12g31 =>
              intro w9 hb
              refine over_some (ds1 := [73, 74, 75]) (ds2 := []) [(.bool false), (.slice (some ⟨bv, ov, none⟩) no cv), (.int .i64 (j : Int))] (by kernel_rfl) ?_
              refine over_nil ?_
              simp only [putAll, put_lit, List.set_cons_succ, List.set_cons_zero]
              go_wp2
              first | exact post_of (by rfl) (by rfl) (Below.refl _ _) (by rfl) | exact rfl
            case r12g32 =>
              intro w9 hb
              refine over_some (ds1 := [73, 76]) (ds2 := []) [(.bool false), (.pointer (some ⟨bv, ov + j * 4, none⟩))] (by kernel_rfl) ?_
              refine over_nil ?_
              simp only [putAll, put_lit, List.set_cons_succ, List.set_cons_zero]
              go_wp2
              first | exact post_of (by rfl) (by rfl) (Below.refl _ _) (by rfl) | exact rfl
            case r12g33 =>
              intro w9 hb
              refine over_some (ds1 := [73, 77]) (ds2 := []) [(.bool false), (.pointer (some ⟨bv, ov + j * 4 + 2, none⟩))] (by kernel_rfl) ?_
              refine over_nil ?_
              simp only [putAll, put_lit, List.set_cons_succ, List.set_cons_zero]
              obtain ⟨p0, _, p2, _⟩ := HCx.out w9 (thn BL.out hb)
              go_wp2
              first | exact post_of (by rfl) (by rfl) (Below.refl _ _) (by rfl) | exact rfl
            case r12g34 =>
              intro w9 hb
              refine over_some (ds1 := [73]) (ds2 := []) [(.bool false)] (by kernel_rfl) ?_
              refine over_nil ?_
              simp only [putAll, put_lit, List.set_cons_succ, List.set_cons_zero]
              go_wp2
              first | exact post_of (by rfl) (by rfl) (Below.refl _ _) (by rfl) | exact rfl
            case r12g35 =>
              intro w9 hb
              refine over_some (ds1 := [73]) (ds2 := []) [(.bool false)] (by kernel_rfl) ?_
              refine over_nil ?_
              simp only [putAll, put_lit, List.set_cons_succ, List.set_cons_zero]
              go_wp2
              first | exact post_of (by rfl) (by rfl) (Below.refl _ _) (by rfl) | exact rfl
            case r12g36 =>
              intro w9 hb
              refine over_some (ds1 := [73, 79, 80]) (ds2 := []) [(.bool false), (.slice (some ⟨bv, ov, none⟩) no cv), (.int .i64 (k : Int))] (by kernel_rfl) ?_
              refine over_nil ?_
              simp only [putAll, put_lit, List.set_cons_succ, List.set_cons_zero]
              go_wp2
              first | exact post_of (by rfl) (by rfl) (Below.refl _ _) (by rfl) | exact rfl
            case r12g37 =>
              intro w9 hb
              refine over_some (ds1 := [73, 81]) (ds2 := []) [(.bool false), (.pointer (some ⟨bv, ov + k * 4, none⟩))] (by kernel_rfl) ?_
              refine over_nil ?_
              simp only [putAll, put_lit, List.set_cons_succ, List.set_cons_zero]
              go_wp2
              first | exact post_of (by rfl) (by rfl) (Below.refl _ _) (by rfl) | exact rfl
            case r12g38 =>
              intro w9 hb
              refine over_some (ds1 := [73, 82]) (ds2 := []) [(.bool false), (.pointer (some ⟨bv, ov + k * 4 + 2, none⟩))] (by kernel_rfl) ?_
              refine over_nil ?_
              simp only [putAll, put_lit, List.set_cons_succ, List.set_cons_zero]
              obtain ⟨p0, _, p2, _⟩ := HCz.out w9 (thn BL.out hb)
              go_wp2
              first | exact post_of (by rfl) (by rfl) (Below.refl _ _) (by rfl) | exact rfl
            case r12g39 =>
              intro w9 hb
              refine over_some (ds1 := [73, 78, 83]) (ds2 := []) [(.bool false), (.int .u8 xa), (.int .u8 za)] (by kernel_rfl) ?_
              refine over_nil ?_
              simp only [putAll, put_lit, List.set_cons_succ, List.set_cons_zero]
              go_wp2
              exact post_of (by rfl) (by rfl) (Below.refl _ _) (by first | rfl | (show Value.bool _ = Value.bool _; rw [Value.bool.injEq]; first | exact decide_eq_true (by omega) | exact decide_eq_false (by omega) | assumption | (simp; omega)))
            case r12g40 =>
              intro w9 hb
              refine over_some (ds1 := [73, 84]) (ds2 := []) [(.bool false), (.bool false)] (by kernel_rfl) ?_
              refine over_nil ?_
              simp only [putAll, put_lit, List.set_cons_succ, List.set_cons_zero]
              go_wp2
              first | exact post_of (by rfl) (by rfl) (Below.refl _ _) (by rfl) | exact rfl
            case r12g41 =>
              intro w9 hb
              refine over_some (ds1 := [85]) (ds2 := []) [(.bool false)] (by kernel_rfl) ?_
              refine over_nil ?_
              simp only [putAll, put_lit, List.set_cons_succ, List.set_cons_zero]
              go_wp2
              first | exact post_of (by rfl) (by rfl) (Below.refl _ _) (by rfl) | exact rfl
            case r12g42 =>
              intro w9 hb
              refine over_some (ds1 := [86]) (ds2 := []) [(.bool false)] (by kernel_rfl) ?_
              refine over_nil ?_
              simp only [putAll, put_lit, List.set_cons_succ, List.set_cons_zero]
              go_wp2
              first | exact post_of (by rfl) (by rfl) (Below.refl _ _) (by rfl) | exact rfl
            case r12g43 =>
              intro w9 hb
              refine over_some (ds1 := [86]) (ds2 := []) [(.bool false)] (by kernel_rfl) ?_
              refine over_nil ?_
              simp only [putAll, put_lit, List.set_cons_succ, List.set_cons_zero]
              go_wp2
              first | exact post_of (by rfl) (by rfl) (Below.refl _ _) (by rfl) | exact rfl
            case r12g44 =>
              intro w9 hb
              refine over_some (ds1 := [86, 87, 88]) (ds2 := []) [(.bool false), (.slice (some ⟨bv, ov, none⟩) no cv), (.int .i64 (j : Int))] (by kernel_rfl) ?_
              refine over_nil ?_
              simp only [putAll, put_lit, List.set_cons_succ, List.set_cons_zero]
              go_wp2
              first | exact post_of (by rfl) (by rfl) (Below.refl _ _) (by rfl) | exact rfl
            case r12g45 =>
              intro w9 hb
              refine over_some (ds1 := [86, 89]) (ds2 := []) [(.bool false), (.pointer (some ⟨bv, ov + j * 4, none⟩))] (by kernel_rfl) ?_
              refine over_nil ?_
              simp only [putAll, put_lit, List.set_cons_succ, List.set_cons_zero]
              go_wp2
              first | exact post_of (by rfl) (by rfl) (Below.refl _ _) (by rfl) | exact rfl
            case r12g46 =>
              intro w9 hb
              refine over_some (ds1 := [86, 90]) (ds2 := []) [(.bool false), (.pointer (some ⟨bv, ov + j * 4 + 2, none⟩))] (by kernel_rfl) ?_
              refine over_nil ?_
              simp only [putAll, put_lit, List.set_cons_succ, List.set_cons_zero]
              obtain ⟨p0, _, p2, _⟩ := HCx.out w9 (thn BL.out hb)
              go_wp2
              first | exact post_of (by rfl) (by rfl) (Below.refl _ _) (by rfl) | exact rfl
            case r12g47 =>
              intro w9 hb
              refine over_some (ds1 := [86]) (ds2 := []) [(.bool false)] (by kernel_rfl) ?_
              refine over_nil ?_
              simp only [putAll, put_lit, List.set_cons_succ, List.set_cons_zero]
              go_wp2
              first | exact post_of (by rfl) (by rfl) (Below.refl _ _) (by rfl) | exact rfl
            case r12g48 =>
              intro w9 hb
              refine over_some (ds1 := [86]) (ds2 := []) [(.bool false)] (by kernel_rfl) ?_
              refine over_nil ?_
              simp only [putAll, put_lit, List.set_cons_succ, List.set_cons_zero]
              go_wp2
              first | exact post_of (by rfl) (by rfl) (Below.refl _ _) (by rfl) | exact rfl
            case r12g49 =>
              intro w9 hb
              refine over_some (ds1 := [86, 92, 93]) (ds2 := []) [(.bool false), (.slice (some ⟨bv, ov, none⟩) no cv), (.int .i64 (k : Int))] (by kernel_rfl) ?_
              refine over_nil ?_
              simp only [putAll, put_lit, List.set_cons_succ, List.set_cons_zero]
              go_wp2
              first | exact post_of (by rfl) (by rfl) (Below.refl _ _) (by rfl) | exact rfl
            case r12g50 =>
              intro w9 hb
              refine over_some (ds1 := [86, 94]) (ds2 := []) [(.bool false), (.pointer (some ⟨bv, ov + k * 4, none⟩))] (by kernel_rfl) ?_
              refine over_nil ?_
              simp only [putAll, put_lit, List.set_cons_succ, List.set_cons_zero]
              go_wp2
              first | exact post_of (by rfl) (by rfl) (Below.refl _ _) (by rfl) | exact rfl
            case r12g51 =>
              intro w9 hb
              refine over_some (ds1 := [86, 95]) (ds2 := []) [(.bool false), (.pointer (some ⟨bv, ov + k * 4 + 2, none⟩))] (by kernel_rfl) ?_
              refine over_nil ?_
              simp only [putAll, put_lit, List.set_cons_succ, List.set_cons_zero]
              obtain ⟨p0, _, p2, _⟩ := HCz.out w9 (thn BL.out hb)
              go_wp2
              first | exact post_of (by rfl) (by rfl) (Below.refl _ _) (by rfl) | exact rfl
            case r12g52 =>
              intro w9 hb
              refine over_some (ds1 := [86, 91, 96]) (ds2 := []) [(.bool false), (.int .u8 xa), (.int .u8 za)] (by kernel_rfl) ?_
              refine over_nil ?_
              simp only [putAll, put_lit, List.set_cons_succ, List.set_cons_zero]
              go_wp2
              exact post_of (by rfl) (by rfl) (Below.refl _ _) (by first | rfl | (show Value.bool _ = Value.bool _; rw [Value.bool.injEq]; first | exact decide_eq_true (by omega) | exact decide_eq_false (by omega) | assumption | (simp; omega)))
            case r12g53 =>
              intro w9 hb
              refine over_some (ds1 := [86, 97]) (ds2 := []) [(.bool false), (.bool true)] (by kernel_rfl) ?_
              refine over_nil ?_
              simp only [putAll, put_lit, List.set_cons_succ, List.set_cons_zero]
              go_wp2
              first | exact post_of (by rfl) (by rfl) (Below.refl _ _) (by rfl) | exact rfl
            case r12g54 =>
              intro w9 hb
              refine over_some (ds1 := [98]) (ds2 := []) [(.bool true)] (by kernel_rfl) ?_
              refine over_nil ?_
              simp only [putAll, put_lit, List.set_cons_succ, List.set_cons_zero]
              go_wp2
              first | exact post_of (by rfl) (by rfl) (Below.refl _ _) (by rfl) | exact rfl
            case r12g55 =>
              intro w9 hb
              refine over_some (ds1 := [98]) (ds2 := []) [(.bool true)] (by kernel_rfl) ?_
              refine over_nil ?_
              simp only [putAll, put_lit, List.set_cons_succ, List.set_cons_zero]
              go_wp2
              first | exact post_of (by rfl) (by rfl) (Below.refl _ _) (by rfl) | exact rfl
            case r12g56 =>
              intro w9 hb
              refine over_some (ds1 := [98, 99, 100]) (ds2 := []) [(.bool true), (.int .i64 (j : Int)), (.int .i64 (k : Int))] (by kernel_rfl) ?_
              refine over_nil ?_
              simp only [putAll, put_lit, List.set_cons_succ, List.set_cons_zero]
              go_wp2
              exact post_of (by rfl) (by rfl) (Below.refl _ _) (by first | rfl | (show Value.bool _ = Value.bool _; rw [Value.bool.injEq]; first | exact decide_eq_true (by omega) | exact decide_eq_false (by omega) | assumption | (simp; omega)))
            case r12g57 =>
              intro w9 hb
              refine over_some (ds1 := [86, 98, 101]) (ds2 := []) [(.bool false), (.bool true), (.bool false)] (by kernel_rfl) ?_
              refine over_nil ?_
              simp only [putAll, put_lit, List.set_cons_succ, List.set_cons_zero]
              go_wp2
              first | exact post_of (by rfl) (by rfl) (Below.refl _ _) (by rfl) | exact rfl
          · have hqb : (xa == za) = false := by simpa using hq
            clear hq HXK
            go_upto_region 12 with fail
            refine wp_region_typed 58 [(45, .val (.slice (some ⟨bo, oo, none⟩) no co)), (46, .val (.int .i64 (j : Int))), (47, .val (.pointer (some ⟨bo, oo + j * 4, none⟩))), (48, .val (.pointer (some ⟨bo, oo + j * 4 + 2, none⟩))), (49, .val (.int .u8 ya)), (50, .val (.int .i64 ya)), (51, .val (.slice (some ⟨bv, ov, none⟩) no cv)), (52, .val (.int .i64 (j : Int))), (53, .val (.pointer (some ⟨bv, ov + j * 4, none⟩))), (54, .val (.pointer (some ⟨bv, ov + j * 4 + 2, none⟩))), (55, .val (.int .u8 xa)), (56, .val (.int .i64 xa)), (57, .val (.int .i64 (xa + 1))), (58, .val (.int .i64 ya)), (59, .val (.bool false)), (60, .val (.bool false)), (61, .val (.slice (some ⟨bo, oo, none⟩) no co)), (62, .val (.int .i64 (j : Int))), (63, .val (.pointer (some ⟨bo, oo + j * 4, none⟩))), (64, .val (.pointer (some ⟨bo, oo + j * 4, none⟩))), (65, .val (.int .u8 nd)), (66, .val (.slice (some ⟨bv, ov, none⟩) no cv)), (67, .val (.int .i64 (j : Int))), (68, .val (.pointer (some ⟨bv, ov + j * 4, none⟩))), (69, .val (.pointer (some ⟨bv, ov + j * 4, none⟩))), (70, .val (.int .u8 nd)), (71, .val (.bool false)), (72, .val (.bool false)), (73, .val (.bool false)), (74, .val (.slice (some ⟨bv, ov, none⟩) no cv)), (75, .val (.int .i64 (j : Int))), (76, .val (.pointer (some ⟨bv, ov + j * 4, none⟩))), (77, .val (.pointer (some ⟨bv, ov + j * 4 + 2, none⟩))), (78, .val (.int .u8 xa)), (79, .val (.slice (some ⟨bv, ov, none⟩) no cv)), (80, .val (.int .i64 (k : Int))), (81, .val (.pointer (some ⟨bv, ov + k * 4, none⟩))), (82, .val (.pointer (some ⟨bv, ov + k * 4 + 2, none⟩))), (83, .val (.int .u8 za)), (84, .val (.bool false)), (85, .val (.bool false)), (86, .val (.bool false)), (87, .val (.slice (some ⟨bv, ov, none⟩) no cv)), (88, .val (.int .i64 (j : Int))), (89, .val (.pointer (some ⟨bv, ov + j * 4, none⟩))), (90, .val (.pointer (some ⟨bv, ov + j * 4 + 2, none⟩))), (91, .val (.int .u8 xa)), (92, .val (.slice (some ⟨bv, ov, none⟩) no cv)), (93, .val (.int .i64 (k : Int))), (94, .val (.pointer (some ⟨bv, ov + k * 4, none⟩))), (95, .val (.pointer (some ⟨bv, ov + k * 4 + 2, none⟩))), (96, .val (.int .u8 za)), (97, .val (.bool false)), (98, .val (.bool false)), (99, .val undef), (100, .val undef), (101, .val undef), (102, .val (.bool false))]
              [[], [], [45, 46], [47], [48], [49], [], [], [51, 52], [53], [54], [55], [56], [57], [50, 58], [59], [60], [60], [60, 61, 62], [60, 63], [60, 64], [60], [60], [60, 66, 67], [60, 68], [60, 69], [60, 65, 70], [60, 71], [72], [73], [73], [73, 74, 75], [73, 76], [73, 77], [73], [73], [73, 79, 80], [73, 81], [73, 82], [73, 78, 83], [73, 84], [85], [86], [86], [86, 87, 88], [86, 89], [86, 90], [86], [86], [86, 92, 93], [86, 94], [86, 95], [86, 91, 96], [86, 97], [98], [98], [98, 99, 100], [86, 98, 101]] (by kernel_rfl) (by kernel_rfl) ?_ ?_
            rotate_left
            · intro v31 hb
              simp only [List.take_succ_cons, List.take_zero, List.drop_succ_cons, List.drop_zero]
              refine over_ds (ds := [45, 46, 47, 48, 49, 50, 51, 52, 53, 54, 55, 56, 57, 58, 59, 60, 61, 62, 63, 64, 65, 66, 67, 68, 69, 70, 71, 72, 73, 74, 75, 76, 77, 78, 79, 80, 81, 82, 83, 84, 85, 86, 87, 88, 89, 90, 91, 92, 93, 94, 95, 96, 97, 98, 99, 100, 101, 102]) (by kernel_rfl) ?_
              refine over_some (ds1 := [45, 46, 47, 48, 49, 50, 51, 52, 53, 54, 55, 56, 57, 58, 59, 60, 61, 62, 63, 64, 65, 66, 67, 68, 69, 70, 71, 72, 73, 74, 75, 76, 77, 78, 79, 80, 81, 82, 83, 84, 85, 86, 87, 88, 89, 90, 91, 92, 93, 94, 95, 96, 97, 98, 99, 100, 101, 102]) (ds2 := []) [(.slice (some ⟨bo, oo, none⟩) no co), (.int .i64 (j : Int)), (.pointer (some ⟨bo, oo + j * 4, none⟩)), (.pointer (some ⟨bo, oo + j * 4 + 2, none⟩)), (.int .u8 ya), (.int .i64 ya), (.slice (some ⟨bv, ov, none⟩) no cv), (.int .i64 (j : Int)), (.pointer (some ⟨bv, ov + j * 4, none⟩)), (.pointer (some ⟨bv, ov + j * 4 + 2, none⟩)), (.int .u8 xa), (.int .i64 xa), (.int .i64 (xa + 1)), (.int .i64 ya), (.bool false), (.bool false), (.slice (some ⟨bo, oo, none⟩) no co), (.int .i64 (j : Int)), (.pointer (some ⟨bo, oo + j * 4, none⟩)), (.pointer (some ⟨bo, oo + j * 4, none⟩)), (.int .u8 nd), (.slice (some ⟨bv, ov, none⟩) no cv), (.int .i64 (j : Int)), (.pointer (some ⟨bv, ov + j * 4, none⟩)), (.pointer (some ⟨bv, ov + j * 4, none⟩)), (.int .u8 nd), (.bool false), (.bool false), (.bool false), (.slice (some ⟨bv, ov, none⟩) no cv), (.int .i64 (j : Int)), (.pointer (some ⟨bv, ov + j * 4, none⟩)), (.pointer (some ⟨bv, ov + j * 4 + 2, none⟩)), (.int .u8 xa), (.slice (some ⟨bv, ov, none⟩) no cv), (.int .i64 (k : Int)), (.pointer (some ⟨bv, ov + k * 4, none⟩)), (.pointer (some ⟨bv, ov + k * 4 + 2, none⟩)), (.int .u8 za), (.bool false), (.bool false), (.bool false), (.slice (some ⟨bv, ov, none⟩) no cv), (.int .i64 (j : Int)), (.pointer (some ⟨bv, ov + j * 4, none⟩)), (.pointer (some ⟨bv, ov + j * 4 + 2, none⟩)), (.int .u8 xa), (.slice (some ⟨bv, ov, none⟩) no cv), (.int .i64 (k : Int)), (.pointer (some ⟨bv, ov + k * 4, none⟩)), (.pointer (some ⟨bv, ov + k * 4 + 2, none⟩)), (.int .u8 za), (.bool false), (.bool false), undef, undef, undef, (.bool false)] (by kernel_rfl) ?_
              refine over_nil ?_
              simp only [putAll, put_lit, List.set_cons_succ, List.set_cons_zero]
              replace BL := Lib.hid (thn BL.out hb)
              clear hb
              obtain ⟨_, _, p2, _⟩ := HCx.out v31 BL.out
              cases fb
              · by_cases h254 : 254 ≤ xa
                · go_wp2
                  go_roundw
                  case rel => exact ⟨j + 1, true, by omega, rfl, by go_num, (fun h => by cases h), BL⟩
                  case measure => simp [intOf]; omega
                · have HJ2 : Hid (false = false → ∀ i x, i < j + 1 → zv[i]? = some x → x.1.2.2.1 < 254) := fun _ i x' hi hx' => by
                    rcases Nat.lt_or_ge i j with h | h
                    · exact HJ.out rfl i x' h hx'
                    · obtain rfl : i = j := by omega
                      obtain rfl := Option.some.inj (HX.out.symm.trans hx')
                      rw [HXA.out]; omega
                  go_wp2
                  go_roundw
                  case rel => exact ⟨j + 1, false, by omega, rfl, by go_num, HJ2, BL⟩
                  case measure => simp [intOf]; omega
              · go_wp2
                go_roundw
                case rel => exact ⟨j + 1, true, by omega, rfl, by go_num, (fun h => by cases h), BL⟩
                case measure => simp [intOf]; omega
            simp only [List.take_succ_cons, List.take_zero]
            refine ⟨?r12g0, ?r12g1, ?r12g2, ?r12g3, ?r12g4, ?r12g5, ?r12g6, ?r12g7, ?r12g8, ?r12g9, ?r12g10, ?r12g11, ?r12g12, ?r12g13, ?r12g14, ?r12g15, ?r12g16, ?r12g17, ?r12g18, ?r12g19, ?r12g20, ?r12g21, ?r12g22, ?r12g23, ?r12g24, ?r12g25, ?r12g26, ?r12g27, ?r12g28, ?r12g29, ?r12g30, ?r12g31, ?r12g32, ?r12g33, ?r12g34, ?r12g35, ?r12g36, ?r12g37, ?r12g38, ?r12g39, ?r12g40, ?r12g41, ?r12g42, ?r12g43, ?r12g44, ?r12g45, ?r12g46, ?r12g47, ?r12g48, ?r12g49, ?r12g50, ?r12g51, ?r12g52, ?r12g53, ?r12g54, ?r12g55, ?r12g56, ?r12g57, trivial⟩
            case r12g0 =>
              intro w9 hb
              refine over_nil ?_
              go_wp2
              first | exact post_of (by rfl) (by rfl) (Below.refl _ _) (by rfl) | exact rfl
            case r12g1 =>
              intro w9 hb
              refine over_nil ?_
              go_wp2
              first | exact post_of (by rfl) (by rfl) (Below.refl _ _) (by rfl) | exact rfl
            case r12g2 =>
              intro w9 hb
              refine over_some (ds1 := [45, 46]) (ds2 := []) [(.slice (some ⟨bo, oo, none⟩) no co), (.int .i64 (j : Int))] (by kernel_rfl) ?_
              refine over_nil ?_
              simp only [putAll, put_lit, List.set_cons_succ, List.set_cons_zero]
              go_wp2
              first | exact post_of (by rfl) (by rfl) (Below.refl _ _) (by rfl) | exact rfl
            case r12g3 =>
              intro w9 hb
              refine over_some (ds1 := [47]) (ds2 := []) [(.pointer (some ⟨bo, oo + j * 4, none⟩))] (by kernel_rfl) ?_
              refine over_nil ?_
              simp only [putAll, put_lit, List.set_cons_succ, List.set_cons_zero]
              go_wp2
              first | exact post_of (by rfl) (by rfl) (Below.refl _ _) (by rfl) | exact rfl
            case r12g4 =>
              intro w9 hb
              refine over_some (ds1 := [48]) (ds2 := []) [(.pointer (some ⟨bo, oo + j * 4 + 2, none⟩))] (by kernel_rfl) ?_
              refine over_nil ?_
              simp only [putAll, put_lit, List.set_cons_succ, List.set_cons_zero]
              obtain ⟨p0, _, p2, _⟩ := HCy.out w9 (thn BL.out hb)
              go_wp2
              first | exact post_of (by rfl) (by rfl) (Below.refl _ _) (by rfl) | exact rfl
            case r12g5 =>
              intro w9 hb
              refine over_some (ds1 := [49]) (ds2 := []) [(.int .u8 ya)] (by kernel_rfl) ?_
              refine over_nil ?_
              simp only [putAll, put_lit, List.set_cons_succ, List.set_cons_zero]
              go_wp2
              first | exact post_of (by rfl) (by rfl) (Below.refl _ _) (by rfl) | exact rfl
            case r12g6 =>
              intro w9 hb
              refine over_nil ?_
              go_wp2
              first | exact post_of (by rfl) (by rfl) (Below.refl _ _) (by rfl) | exact rfl
            case r12g7 =>
              intro w9 hb
              refine over_nil ?_
              go_wp2
              first | exact post_of (by rfl) (by rfl) (Below.refl _ _) (by rfl) | exact rfl
            case r12g8 =>
              intro w9 hb
              refine over_some (ds1 := [51, 52]) (ds2 := []) [(.slice (some ⟨bv, ov, none⟩) no cv), (.int .i64 (j : Int))] (by kernel_rfl) ?_
              refine over_nil ?_
              simp only [putAll, put_lit, List.set_cons_succ, List.set_cons_zero]
              go_wp2
              first | exact post_of (by rfl) (by rfl) (Below.refl _ _) (by rfl) | exact rfl
            case r12g9 =>
              intro w9 hb
              refine over_some (ds1 := [53]) (ds2 := []) [(.pointer (some ⟨bv, ov + j * 4, none⟩))] (by kernel_rfl) ?_
              refine over_nil ?_
              simp only [putAll, put_lit, List.set_cons_succ, List.set_cons_zero]
              go_wp2
              first | exact post_of (by rfl) (by rfl) (Below.refl _ _) (by rfl) | exact rfl
            case r12g10 =>
              intro w9 hb
              refine over_some (ds1 := [54]) (ds2 := []) [(.pointer (some ⟨bv, ov + j * 4 + 2, none⟩))] (by kernel_rfl) ?_
              refine over_nil ?_
              simp only [putAll, put_lit, List.set_cons_succ, List.set_cons_zero]
              obtain ⟨p0, _, p2, _⟩ := HCx.out w9 (thn BL.out hb)
              go_wp2
              first | exact post_of (by rfl) (by rfl) (Below.refl _ _) (by rfl) | exact rfl
            case r12g11 =>
              intro w9 hb
              refine over_some (ds1 := [55]) (ds2 := []) [(.int .u8 xa)] (by kernel_rfl) ?_
              refine over_nil ?_
              simp only [putAll, put_lit, List.set_cons_succ, List.set_cons_zero]
              go_wp2
              first | exact post_of (by rfl) (by rfl) (Below.refl _ _) (by rfl) | exact rfl
            case r12g12 =>
              intro w9 hb
              refine over_some (ds1 := [56]) (ds2 := []) [(.int .i64 xa)] (by kernel_rfl) ?_
              refine over_nil ?_
              simp only [putAll, put_lit, List.set_cons_succ, List.set_cons_zero]
              go_wp2
              first | exact post_of (by rfl) (by rfl) (Below.refl _ _) (by rfl) | exact rfl
            case r12g13 =>
              intro w9 hb
              refine over_some (ds1 := [57]) (ds2 := []) [(.int .i64 (xa + 1))] (by kernel_rfl) ?_
              refine over_nil ?_
              simp only [putAll, put_lit, List.set_cons_succ, List.set_cons_zero]
              go_wp2
              first | exact post_of (by rfl) (by rfl) (Below.refl _ _) (by rfl) | exact rfl
            case r12g14 =>
              intro w9 hb
              refine over_some (ds1 := [50, 58]) (ds2 := []) [(.int .i64 ya), (.int .i64 ya)] (by kernel_rfl) ?_
              refine over_nil ?_
              simp only [putAll, put_lit, List.set_cons_succ, List.set_cons_zero]
              go_wp2
              exact post_of (by rfl) (by rfl) (Below.refl _ _) (by first | rfl | (show Value.bool _ = Value.bool _; rw [Value.bool.injEq]; first | exact decide_eq_true (by omega) | exact decide_eq_false (by omega) | assumption | (simp; omega)))
            case r12g15 =>
              intro w9 hb
              refine over_some (ds1 := [59]) (ds2 := []) [(.bool false)] (by kernel_rfl) ?_
              refine over_nil ?_
              simp only [putAll, put_lit, List.set_cons_succ, List.set_cons_zero]
              go_wp2
              first | exact post_of (by rfl) (by rfl) (Below.refl _ _) (by rfl) | exact rfl
            case r12g16 =>
              intro w9 hb
              refine over_some (ds1 := [60]) (ds2 := []) [(.bool false)] (by kernel_rfl) ?_
              refine over_nil ?_
              simp only [putAll, put_lit, List.set_cons_succ, List.set_cons_zero]
              go_wp2
              first | exact post_of (by rfl) (by rfl) (Below.refl _ _) (by rfl) | exact rfl
            case r12g17 =>
              intro w9 hb
              refine over_some (ds1 := [60]) (ds2 := []) [(.bool false)] (by kernel_rfl) ?_
              refine over_nil ?_
              simp only [putAll, put_lit, List.set_cons_succ, List.set_cons_zero]
              go_wp2
              first | exact post_of (by rfl) (by rfl) (Below.refl _ _) (by rfl) | exact rfl
            case r12g18 =>
              intro w9 hb
              refine over_some (ds1 := [60, 61, 62]) (ds2 := []) [(.bool false), (.slice (some ⟨bo, oo, none⟩) no co), (.int .i64 (j : Int))] (by kernel_rfl) ?_
              refine over_nil ?_
              simp only [putAll, put_lit, List.set_cons_succ, List.set_cons_zero]
              go_wp2
              first | exact post_of (by rfl) (by rfl) (Below.refl _ _) (by rfl) | exact rfl
            case r12g19 =>
              intro w9 hb
              refine over_some (ds1 := [60, 63]) (ds2 := []) [(.bool false), (.pointer (some ⟨bo, oo + j * 4, none⟩))] (by kernel_rfl) ?_
              refine over_nil ?_
              simp only [putAll, put_lit, List.set_cons_succ, List.set_cons_zero]
              go_wp2
              first | exact post_of (by rfl) (by rfl) (Below.refl _ _) (by rfl) | exact rfl
            case r12g20 =>
              intro w9 hb
              refine over_some (ds1 := [60, 64]) (ds2 := []) [(.bool false), (.pointer (some ⟨bo, oo + j * 4, none⟩))] (by kernel_rfl) ?_
              refine over_nil ?_
              simp only [putAll, put_lit, List.set_cons_succ, List.set_cons_zero]
              obtain ⟨p0, _, p2, _⟩ := HCy.out w9 (thn BL.out hb)
              go_wp2
              first | exact post_of (by rfl) (by rfl) (Below.refl _ _) (by rfl) | exact rfl
            case r12g21 =>
              intro w9 hb
              refine over_some (ds1 := [60]) (ds2 := []) [(.bool false)] (by kernel_rfl) ?_
              refine over_nil ?_
              simp only [putAll, put_lit, List.set_cons_succ, List.set_cons_zero]
              go_wp2
              first | exact post_of (by rfl) (by rfl) (Below.refl _ _) (by rfl) | exact rfl
            case r12g22 =>
              intro w9 hb
              refine over_some (ds1 := [60]) (ds2 := []) [(.bool false)] (by kernel_rfl) ?_
              refine over_nil ?_
              simp only [putAll, put_lit, List.set_cons_succ, List.set_cons_zero]
              go_wp2
              first | exact post_of (by rfl) (by rfl) (Below.refl _ _) (by rfl) | exact rfl
            case r12g23 =>
              intro w9 hb
              refine over_some (ds1 := [60, 66, 67]) (ds2 := []) [(.bool false), (.slice (some ⟨bv, ov, none⟩) no cv), (.int .i64 (j : Int))] (by kernel_rfl) ?_
              refine over_nil ?_
              simp only [putAll, put_lit, List.set_cons_succ, List.set_cons_zero]
              go_wp2
              first | exact post_of (by rfl) (by rfl) (Below.refl _ _) (by rfl) | exact rfl
            case r12g24 =>
              intro w9 hb
              refine over_some (ds1 := [60, 68]) (ds2 := []) [(.bool false), (.pointer (some ⟨bv, ov + j * 4, none⟩))] (by kernel_rfl) ?_
              refine over_nil ?_
              simp only [putAll, put_lit, List.set_cons_succ, List.set_cons_zero]
              go_wp2
              first | exact post_of (by rfl) (by rfl) (Below.refl _ _) (by rfl) | exact rfl
            case r12g25 =>
              intro w9 hb
              refine over_some (ds1 := [60, 69]) (ds2 := []) [(.bool false), (.pointer (some ⟨bv, ov + j * 4, none⟩))] (by kernel_rfl) ?_
              refine over_nil ?_
              simp only [putAll, put_lit, List.set_cons_succ, List.set_cons_zero]
              obtain ⟨p0, _, p2, _⟩ := HCx.out w9 (thn BL.out hb)
              go_wp2
              first | exact post_of (by rfl) (by rfl) (Below.refl _ _) (by rfl) | exact rfl
            case r12g26 =>
              intro w9 hb
              refine over_some (ds1 := [60, 65, 70]) (ds2 := []) [(.bool false), (.int .u8 nd), (.int .u8 nd)] (by kernel_rfl) ?_
              refine over_nil ?_
              simp only [putAll, put_lit, List.set_cons_succ, List.set_cons_zero]
              go_wp2
              exact post_of (by rfl) (by rfl) (Below.refl _ _) (by first | rfl | (show Value.bool _ = Value.bool _; rw [Value.bool.injEq]; first | exact decide_eq_true (by omega) | exact decide_eq_false (by omega) | assumption | (simp; omega)))
            case r12g27 =>
              intro w9 hb
              refine over_some (ds1 := [60, 71]) (ds2 := []) [(.bool false), (.bool false)] (by kernel_rfl) ?_
              refine over_nil ?_
              simp only [putAll, put_lit, List.set_cons_succ, List.set_cons_zero]
              go_wp2
              first | exact post_of (by rfl) (by rfl) (Below.refl _ _) (by rfl) | exact rfl
            case r12g28 =>
              intro w9 hb
              refine over_some (ds1 := [72]) (ds2 := []) [(.bool false)] (by kernel_rfl) ?_
              refine over_nil ?_
              simp only [putAll, put_lit, List.set_cons_succ, List.set_cons_zero]
              go_wp2
              first | exact post_of (by rfl) (by rfl) (Below.refl _ _) (by rfl) | exact rfl
            case r12g29 =>
              intro w9 hb
              refine over_some (ds1 := [73]) (ds2 := []) [(.bool false)] (by kernel_rfl) ?_
              refine over_nil ?_
              simp only [putAll, put_lit, List.set_cons_succ, List.set_cons_zero]
              go_wp2
              first | exact post_of (by rfl) (by rfl) (Below.refl _ _) (by rfl) | exact rfl
            case r12g30 =>
              intro w9 hb
              refine over_some (ds1 := [73]) (ds2 := []) [(.bool false)] (by kernel_rfl) ?_
              refine over_nil ?_
              simp only [putAll, put_lit, List.set_cons_succ, List.set_cons_zero]
              go_wp2
              first | exact post_of (by rfl) (by rfl) (Below.refl _ _) (by rfl) | exact rfl
            case r12g31 =>
              intro w9 hb
              refine over_some (ds1 := [73, 74, 75]) (ds2 := []) [(.bool false), (.slice (some ⟨bv, ov, none⟩) no cv), (.int .i64 (j : Int))] (by kernel_rfl) ?_
              refine over_nil ?_
              simp only [putAll, put_lit, List.set_cons_succ, List.set_cons_zero]
              go_wp2
              first | exact post_of (by rfl) (by rfl) (Below.refl _ _) (by rfl) | exact rfl
            case r12g32 =>
              intro w9 hb
              refine over_some (ds1 := [73, 76]) (ds2 := []) [(.bool false), (.pointer (some ⟨bv, ov + j * 4, none⟩))] (by kernel_rfl) ?_
              refine over_nil ?_
              simp only [putAll, put_lit, List.set_cons_succ, List.set_cons_zero]
              go_wp2
              first | exact post_of (by rfl) (by rfl) (Below.refl _ _) (by rfl) | exact rfl
            case r12g33 =>
              intro w9 hb
              refine over_some (ds1 := [73, 77]) (ds2 := []) [(.bool false), (.pointer (some ⟨bv, ov + j * 4 + 2, none⟩))] (by kernel_rfl) ?_
              refine over_nil ?_
              simp only [putAll, put_lit, List.set_cons_succ, List.set_cons_zero]
              obtain ⟨p0, _, p2, _⟩ := HCx.out w9 (thn BL.out hb)
              go_wp2
              first | exact post_of (by rfl) (by rfl) (Below.refl _ _) (by rfl) | exact rfl
            case r12g34 =>
              intro w9 hb
              refine over_some (ds1 := [73]) (ds2 := []) [(.bool false)] (by kernel_rfl) ?_
              refine over_nil ?_
              simp only [putAll, put_lit, List.set_cons_succ, List.set_cons_zero]
              go_wp2
              first | exact post_of (by rfl) (by rfl) (Below.refl _ _) (by rfl) | exact rfl
            case r12g35 =>
              intro w9 hb
              refine over_some (ds1 := [73]) (ds2 := []) [(.bool false)] (by kernel_rfl) ?_
              refine over_nil ?_
              simp only [putAll, put_lit, List.set_cons_succ, List.set_cons_zero]
              go_wp2
              first | exact post_of (by rfl) (by rfl) (Below.refl _ _) (by rfl) | exact rfl
            case r12g36 =>
              intro w9 hb
              refine over_some (ds1 := [73, 79, 80]) (ds2 := []) [(.bool false), (.slice (some ⟨bv, ov, none⟩) no cv), (.int .i64 (k : Int))] (by kernel_rfl) ?_
              refine over_nil ?_
              simp only [putAll, put_lit, List.set_cons_succ, List.set_cons_zero]
              go_wp2
              first | exact post_of (by rfl) (by rfl) (Below.refl _ _) (by rfl) | exact rfl
            case r12g37 =>
              intro w9 hb
              refine over_some (ds1 := [73, 81]) (ds2 := []) [(.bool false), (.pointer (some ⟨bv, ov + k * 4, none⟩))] (by kernel_rfl) ?_
              refine over_nil ?_
              simp only [putAll, put_lit, List.set_cons_succ, List.set_cons_zero]
              go_wp2
              first | exact post_of (by rfl) (by rfl) (Below.refl _ _) (by rfl) | exact rfl
            case r12g38 =>
              intro w9 hb
              refine over_some (ds1 := [73, 82]) (ds2 := []) [(.bool false), (.pointer (some ⟨bv, ov + k * 4 + 2, none⟩))] (by kernel_rfl) ?_
              refine over_nil ?_
              simp only [putAll, put_lit, List.set_cons_succ, List.set_cons_zero]
              obtain ⟨p0, _, p2, _⟩ := HCz.out w9 (thn BL.out hb)
              go_wp2
              first | exact post_of (by rfl) (by rfl) (Below.refl _ _) (by rfl) | exact rfl
            case r12g39 =>
              intro w9 hb
              refine over_some (ds1 := [73, 78, 83]) (ds2 := []) [(.bool false), (.int .u8 xa), (.int .u8 za)] (by kernel_rfl) ?_
              refine over_nil ?_
              simp only [putAll, put_lit, List.set_cons_succ, List.set_cons_zero]
              go_wp2
              exact post_of (by rfl) (by rfl) (Below.refl _ _) (by first | rfl | (show Value.bool _ = Value.bool _; rw [Value.bool.injEq]; first | exact decide_eq_true (by omega) | exact decide_eq_false (by omega) | assumption | (simp; omega)))
            case r12g40 =>
              intro w9 hb
              refine over_some (ds1 := [73, 84]) (ds2 := []) [(.bool false), (.bool false)] (by kernel_rfl) ?_
              refine over_nil ?_
              simp only [putAll, put_lit, List.set_cons_succ, List.set_cons_zero]
              go_wp2
              first | exact post_of (by rfl) (by rfl) (Below.refl _ _) (by rfl) | exact rfl
            case r12g41 =>
              intro w9 hb
              refine over_some (ds1 := [85]) (ds2 := []) [(.bool false)] (by kernel_rfl) ?_
              refine over_nil ?_
              simp only [putAll, put_lit, List.set_cons_succ, List.set_cons_zero]
              go_wp2
              first | exact post_of (by rfl) (by rfl) (Below.refl _ _) (by rfl) | exact rfl
            case r12g42 =>
              intro w9 hb
              refine over_some (ds1 := [86]) (ds2 := []) [(.bool false)] (by kernel_rfl) ?_
              refine over_nil ?_
              simp only [putAll, put_lit, List.set_cons_succ, List.set_cons_zero]
              go_wp2
              first | exact post_of (by rfl) (by rfl) (Below.refl _ _) (by rfl) | exact rfl
            case r12g43 =>
              intro w9 hb
              refine over_some (ds1 := [86]) (ds2 := []) [(.bool false)] (by kernel_rfl) ?_
              refine over_nil ?_
              simp only [putAll, put_lit, List.set_cons_succ, List.set_cons_zero]
              go_wp2
              first | exact post_of (by rfl) (by rfl) (Below.refl _ _) (by rfl) | exact rfl
            case r12g44 =>
              intro w9 hb
              refine over_some (ds1 := [86, 87, 88]) (ds2 := []) [(.bool false), (.slice (some ⟨bv, ov, none⟩) no cv), (.int .i64 (j : Int))] (by kernel_rfl) ?_
              refine over_nil ?_
              simp only [putAll, put_lit, List.set_cons_succ, List.set_cons_zero]
              go_wp2
              first | exact post_of (by rfl) (by rfl) (Below.refl _ _) (by rfl) | exact rfl
            case r12g45 =>
              intro w9 hb
              refine over_some (ds1 := [86, 89]) (ds2 := []) [(.bool false), (.pointer (some ⟨bv, ov + j * 4, none⟩))] (by kernel_rfl) ?_
              refine over_nil ?_
              simp only [putAll, put_lit, List.set_cons_succ, List.set_cons_zero]
              go_wp2
              first | exact post_of (by rfl) (by rfl) (Below.refl _ _) (by rfl) | exact rfl
            case r12g46 =>
              intro w9 hb
              refine over_some (ds1 := [86, 90]) (ds2 := []) [(.bool false), (.pointer (some ⟨bv, ov + j * 4 + 2, none⟩))] (by kernel_rfl) ?_
              refine over_nil ?_
              simp only [putAll, put_lit, List.set_cons_succ, List.set_cons_zero]
              obtain ⟨p0, _, p2, _⟩ := HCx.out w9 (thn BL.out hb)
              go_wp2
              first | exact post_of (by rfl) (by rfl) (Below.refl _ _) (by rfl) | exact rfl
            case r12g47 =>
              intro w9 hb
              refine over_some (ds1 := [86]) (ds2 := []) [(.bool false)] (by kernel_rfl) ?_
              refine over_nil ?_
              simp only [putAll, put_lit, List.set_cons_succ, List.set_cons_zero]
              go_wp2
              first | exact post_of (by rfl) (by rfl) (Below.refl _ _) (by rfl) | exact rfl
            case r12g48 =>
              intro w9 hb
              refine over_some (ds1 := [86]) (ds2 := []) [(.bool false)] (by kernel_rfl) ?_
              refine over_nil ?_
              simp only [putAll, put_lit, List.set_cons_succ, List.set_cons_zero]
              go_wp2
              first | exact post_of (by rfl) (by rfl) (Below.refl _ _) (by rfl) | exact rfl
            case r12g49 =>
              intro w9 hb
              refine over_some (ds1 := [86, 92, 93]) (ds2 := []) [(.bool false), (.slice (some ⟨bv, ov, none⟩) no cv), (.int .i64 (k : Int))] (by kernel_rfl) ?_
              refine over_nil ?_
              simp only [putAll, put_lit, List.set_cons_succ, List.set_cons_zero]
              go_wp2
              first | exact post_of (by rfl) (by rfl) (Below.refl _ _) (by rfl) | exact rfl
            case r12g50 =>
              intro w9 hb
              refine over_some (ds1 := [86, 94]) (ds2 := []) [(.bool false), (.pointer (some ⟨bv, ov + k * 4, none⟩))] (by kernel_rfl) ?_
              refine over_nil ?_
              simp only [putAll, put_lit, List.set_cons_succ, List.set_cons_zero]
              go_wp2
              first | exact post_of (by rfl) (by rfl) (Below.refl _ _) (by rfl) | exact rfl
            case r12g51 =>
              intro w9 hb
              refine over_some (ds1 := [86, 95]) (ds2 := []) [(.bool false), (.pointer (some ⟨bv, ov + k * 4 + 2, none⟩))] (by kernel_rfl) ?_
              refine over_nil ?_
              simp only [putAll, put_lit, List.set_cons_succ, List.set_cons_zero]
              obtain ⟨p0, _, p2, _⟩ := HCz.out w9 (thn BL.out hb)
              go_wp2
              first | exact post_of (by rfl) (by rfl) (Below.refl _ _) (by rfl) | exact rfl
            case r12g52 =>
              intro w9 hb
              refine over_some (ds1 := [86, 91, 96]) (ds2 := []) [(.bool false), (.int .u8 xa), (.int .u8 za)] (by kernel_rfl) ?_
              refine over_nil ?_
              simp only [putAll, put_lit, List.set_cons_succ, List.set_cons_zero]
              go_wp2
              exact post_of (by rfl) (by rfl) (Below.refl _ _) (by first | rfl | (show Value.bool _ = Value.bool _; rw [Value.bool.injEq]; first | exact decide_eq_true (by omega) | exact decide_eq_false (by omega) | assumption | (simp; omega)))
            case r12g53 =>
              intro w9 hb
              refine over_some (ds1 := [86, 97]) (ds2 := []) [(.bool false), (.bool false)] (by kernel_rfl) ?_
              refine over_nil ?_
              simp only [putAll, put_lit, List.set_cons_succ, List.set_cons_zero]
              go_wp2
              first | exact post_of (by rfl) (by rfl) (Below.refl _ _) (by rfl) | exact rfl
            case r12g54 =>
              intro w9 hb
              refine over_some (ds1 := [98]) (ds2 := []) [(.bool false)] (by kernel_rfl) ?_
              refine over_nil ?_
              simp only [putAll, put_lit, List.set_cons_succ, List.set_cons_zero]
              exact post_skip rfl (by kernel_rfl) (by kernel_rfl) (by kernel_rfl) (by kernel_rfl)
            case r12g55 =>
              intro w9 hb
              refine over_some (ds1 := [98]) (ds2 := []) [(.bool false)] (by kernel_rfl) ?_
              refine over_nil ?_
              simp only [putAll, put_lit, List.set_cons_succ, List.set_cons_zero]
              exact post_skip rfl (by kernel_rfl) (by kernel_rfl) (by kernel_rfl) (by kernel_rfl)
            case r12g56 =>
              intro w9 hb
              refine over_some (ds1 := [98, 99, 100]) (ds2 := []) [(.bool false), undef, undef] (by kernel_rfl) ?_
              refine over_nil ?_
              simp only [putAll, put_lit, List.set_cons_succ, List.set_cons_zero]
              exact post_skip rfl (by kernel_rfl) (by kernel_rfl) (by kernel_rfl) (by kernel_rfl)
            case r12g57 =>
              intro w9 hb
              refine over_some (ds1 := [86, 98, 101]) (ds2 := []) [(.bool false), (.bool false), undef] (by kernel_rfl) ?_
              refine over_nil ?_
              simp only [putAll, put_lit, List.set_cons_succ, List.set_cons_zero]
              go_wp2
              first | exact post_of (by rfl) (by rfl) (Below.refl _ _) (by rfl) | exact rfl
        · obtain rfl : j = no := by omega
          cases fb
          · have HKO : Hid (oldI (zo.map (·.1)) = k) := by
              unfold Hid
              rw [MO.out, old_older (fun e he => ?_)]
              · exact oldI_of HOLD.out
              · obtain ⟨x, hx, rfl⟩ := List.mem_map.1 he
                obtain ⟨i, hi⟩ := List.mem_iff_getElem?.1 hx
                exact HJ.out rfl i x (by rw [HLV.out]; exact (List.getElem?_eq_some_iff.1 hi).1) hi
            replace SO := Lib.hid (SO.out.next BL.out)
            replace B := Lib.hid (thn B.out BL.out)
            go_wp2_with fail
            have hc := HDD.out.oldest Ao j co zo wr SO.out.sds HFO.out ⟨self, 20, HRO.out⟩
            rw [HKO.out] at hc
            refine hc.mono ?_
            clear hc
            rintro e w31 ⟨rfl, b5⟩
            replace SO := Lib.hid (SO.out.next b5)
            replace B := Lib.hid (thn B.out b5)
            clear b5
            go_wp2_with fail
            refine (awake_any HDD.out w31).mono ?_
            rintro e w32 ⟨rfl, b5⟩
            replace SO := Lib.hid (SO.out.next b5)
            replace B := Lib.hid (thn B.out b5)
            clear b5
            go_wp2
            go_ret
            exact ⟨rfl, B.out⟩
          · replace B := Lib.hid (thn B.out BL.out)
            go_wp2_with fail
            refine (awake_any HDD.out wr).mono ?_
            rintro e w31 ⟨rfl, b5⟩
            replace B := Lib.hid (thn B.out b5)
            clear b5
            go_wp2
            go_ret
            exact ⟨rfl, B.out⟩
end Go.Proofs.Ytlkjlmmdllkdcaa
