/- Layer 10: the reference's Merge. -/
import Derived.Test.YtgbnnllbpidlfaaYh
namespace Go.Proofs.Ytgbnnllbpidlfaa
open Go.RowKit
set_option linter.unusedVariables false
set_option maxHeartbeats 8000000 in
set_option maxRecDepth 100000 in
theorem refmerge_any (A : Option Addr) (n c : Nat) (xs : List (Dsc × Hd)) (Ag : Option Addr) (ng cg : Nat) (gs : List (Dsc × Hd)) (As : Option Addr) (ns cs : Nat) (ss : List (Dsc × Hd)) (me room : Int) (w : World) (h : Sds w A n c xs) (hf : Fit n xs) (hg : Sds w Ag ng cg gs) (hfg : Fit ng gs) (hs : Sds w As ns cs ss) (hfs : Fit ns ss) (hroom : room ≤ 1000) (hr : RightD (xs.map (·.1)) me room) :
    Calls Try.prog 18 #[.slice A n c, .slice Ag ng cg, .slice As ns cs, .int .u8 me, .int .i64 room] w (GaveDs (mergeD (xs.map (·.1)) (gs.map (·.1)) (ss.map (·.1)) me room) w) := by
  have HX0 := Lib.hid h
  have HV : Hid (VwD xs me room) := ⟨hr, fun d hd => by obtain ⟨x, hx, rfl⟩ := List.mem_map.1 hd; exact hf.all x hx⟩
  have HG := Lib.hid hg
  have HFG := Lib.hid hfg
  have HS := Lib.hid hs
  have HSR : Hid (∀ x ∈ ss, dscR x.1) := fun x hx => (hfs.all x hx).1
  have HRM := Lib.hid hroom
  have hgm := hg.max
  have hgc := hg.cap
  have hsm := hs.max
  have hsc := hs.cap
  have HLG : Hid (ng = gs.length) := hg.len
  have HLS : Hid (ns = ss.length) := hs.len
  unfold maxLen at hgm hsm
  obtain ⟨RR, HRR⟩ : ∃ RR, Hid (mergeD (xs.map (·.1)) (gs.map (·.1)) (ss.map (·.1)) me room = RR) := ⟨_, rfl⟩
  rw [HRR.out]
  have HI : Hid ((((gs.map (·.1)).drop 0).foldl (mergeStep (gs.map (·.1)) me room) (xs.map (·.1), (ss.map (·.1)).drop 0)).1 = RR) := by
    unfold Hid
    rw [← HRR.out]; rfl
  clear h hf hg hfg hs hfs hroom hr HRR
  go_enter Try.func18, Try.ntmps18
  go_wp2
  go_loopw [0, 11, 12, 13, 14, 15, 16] (fun s0 s11 s12 _ _ _ _ wr => ∃ (j n2 k : Nat) (A2 : Option Addr) (c2 : Nat) (ls : List (Dsc × Hd)), j ≤ ng ∧ k ≤ ns ∧ s0 = .slice A2 n2 c2 ∧ s11 = .int .i64 k ∧ s12 = .int .i64 j ∧ Hid (Sds wr A2 n2 c2 ls) ∧ Hid (VwD ls me room) ∧ Hid ((((gs.map (·.1)).drop j).foldl (mergeStep (gs.map (·.1)) me room) (ls.map (·.1), (ss.map (·.1)).drop k)).1 = RR) ∧ Hid (Below w.heap.size w wr)) (fun _ _ s12 _ _ _ _ _ => ng - (intOf s12).toNat)
  case atStart => exact ⟨0, n, 0, A, c, xs, Nat.zero_le _, Nat.zero_le _, rfl, rfl, rfl, HX0, HV, HI, Below.refl _ _⟩
  case round =>
    clear HX0 HV HI
    obtain ⟨j, n2, k, A2, c2, ls, hj, hk, rfl, rfl, rfl, X, V, HI, BB⟩ := hrel
    have i0 : (0 : Int) ≤ (j : Int) := by omega
    by_cases hlt : j < ng
    · have i1 : (j : Int) < (ng : Int) := by omega
      obtain ⟨b, off, x, rfl, hb, hx, hxm, c0, c1, c2', c3'⟩ := (HG.out.next BB.out).at_ hlt
      have HX1 : Hid (Fit1 x.1) := HFG.out.all x hxm
      have HFX := Lib.hid (HG.out.fl x hxm)
      have HI2 : Hid ((((gs.map (·.1)).drop (j + 1)).foldl (mergeStep (gs.map (·.1)) me room) (mergeStep (gs.map (·.1)) me room (ls.map (·.1), (ss.map (·.1)).drop k) x.1)).1 = RR) := by
        have h1 := HI.out
        have e : (gs.map (·.1))[j]? = some x.1 := by rw [List.getElem?_map, hx]; rfl
        rw [List.drop_eq_getElem_cons (List.getElem?_eq_some_iff.1 e).1, (List.getElem?_eq_some_iff.1 e).2, List.foldl_cons] at h1
        exact h1
      have hbl := below_lit wr (.cells #[.int .u8 x.1.1, .int .u16 x.1.2.1, .int .u8 x.1.2.2.1, .slice x.2.1 x.2.2.1 x.2.2.2] 34)
      have K : Hid (DBlk (wr.alloc (.cells #[.int .u8 x.1.1, .int .u16 x.1.2.1, .int .u8 x.1.2.2.1, .slice x.2.1 x.2.2.1 x.2.2.2] 34)) wr.heap.size x.1 x.2) := DBlk.new wr x.1 x.2
      have X3 := Lib.hid (X.out.next hbl)
      have B3 := Lib.hid (thn BB.out hbl)
      clear hbl hx hxm hb X BB HI
      go_upto_region 6 with fail
      clear c0 c1 c2' c3'
      generalize wr.alloc _ = w3 at *
      obtain ⟨q, hq⟩ : ∃ q, wr.heap.size = q := ⟨_, rfl⟩
      rw [hq] at K ⊢
      clear hq
      obtain ⟨p0, p1, p2, p3⟩ := K.out.cells
      have hln : n2 = ls.length := X3.out.len
      have n1000 : n2 ≤ 1000000 := by have := (V.out.fit HRM.out hln).len; omega
      obtain ⟨rf, hrf⟩ : ∃ rf, refuseD (ls.map (·.1)) x.1 me room = rf := ⟨_, rfl⟩
      have HC3 := Lib.hid (refput_any A2 n2 c2 ls x.1 x.2 me room w3 X3.out n1000 (Sn.next HFX.out B3.out))
      rw [hrf] at HC3
      have HRF := Lib.hid hrf
      have HLN := Lib.hid hln
      clear hrf hln
      go_wp2_with fail
      refine HC3.out.mono ?_
      rintro e w4 ⟨A4, n4, c4, os, rfl, ho, d4, b4⟩
      have X4 := Lib.hid d4
      have V4 := Lib.hid (V.out.put ho HX1.out)
      have B4 := Lib.hid (thn B3.out b4)
      have HO := Lib.hid ho
      have L4 := Lib.hid (X3.out.next b4)
      have K4 := Lib.hid (K.out.next b4)
      clear ho d4 b4 p0 p1 p2 p3 K X3 HC3 B3
      cases rf
      · have HI3 : Hid ((((gs.map (·.1)).drop (j + 1)).foldl (mergeStep (gs.map (·.1)) me room) (os.map (·.1), (ss.map (·.1)).drop k)).1 = RR) := by
          have h1 := HI2.out
          rw [mstep_put HRF.out, ← HO.out] at h1
          exact h1
        go_wp2
        go_roundw
        case rel => exact ⟨j + 1, n4, k, A4, c4, os, by omega, hk, rfl, rfl, by go_num, X4, V4, HI3, B4⟩
        case measure => simp [intOf]; omega
      · have HSTAY : Hid (lacksD (ls.map (·.1)) x.1 me = false → (((gs.map (·.1)).drop (j + 1)).foldl (mergeStep (gs.map (·.1)) me room) (ls.map (·.1), (ss.map (·.1)).drop k)).1 = RR) := fun hl => by
          have h1 := HI2.out
          rw [mstep_not HX1.out.1 HRF.out hl] at h1
          exact h1
        clear X4 V4 HO
        obtain ⟨p0, p1, p2, p3⟩ := K4.out.cells
        by_cases h1 : x.1.1 = me
        · have hb : (x.1.1 == me) = true := by simp [h1]
          have HI3 := Lib.hid (HSTAY.out (by unfold lacksD; simp [h1]))
          clear h1
          go_wp2
          go_roundw
          case rel => exact ⟨j + 1, n2, k, A2, c2, ls, by omega, hk, rfl, rfl, by go_num, L4, V, HI3, B4⟩
          case measure => simp [intOf]; omega
        · have hb : (x.1.1 == me) = false := by simp [h1]
          by_cases h2 : x.1.2.1 = 0
          · have hb2 : (x.1.2.1 == 0) = true := by simp [h2]
            have HI3 := Lib.hid (HSTAY.out (by unfold lacksD; simp [h2]))
            clear h1 h2
            go_wp2
            go_roundw
            case rel => exact ⟨j + 1, n2, k, A2, c2, ls, by omega, hk, rfl, rfl, by go_num, L4, V, HI3, B4⟩
            case measure => simp [intOf]; omega
          · have hb2 : (x.1.2.1 == 0) = false := by simp [h2]
            have HCF := Lib.hid (reffind_any A2 n2 c2 ls x.1.1 w4 L4.out)
            obtain ⟨f, hf⟩ : ∃ f, findI (ls.map (·.1)) x.1.1 = f := ⟨_, rfl⟩
            rw [hf] at HCF
            have HFF := Lib.hid hf
            clear hf
            by_cases hf0 : 0 ≤ f
            · have HI3 := Lib.hid (HSTAY.out (by unfold lacksD; rw [HFF.out, decide_eq_false (show ¬ f < 0 by omega)]; simp))
              clear h1 h2
              go_wp2_with fail
              refine HCF.out.mono ?_
              rintro e w5 ⟨rfl, b5⟩
              have L5 := Lib.hid (L4.out.next b5)
              have B5 := Lib.hid (thn B4.out b5)
              clear b5 HCF
              go_wp2
              go_roundw
              case rel => exact ⟨j + 1, n2, k, A2, c2, ls, by omega, hk, rfl, rfl, by go_num, L5, V, HI3, B5⟩
              case measure => simp [intOf]; omega
            · have HLK : Hid (lacksD (ls.map (·.1)) x.1 me = true) := by
                have := HX1.out.1.2.1.1
                unfold Hid lacksD
                rw [HFF.out, decide_eq_false h1, decide_eq_true (show f < 0 by omega), decide_eq_true (show 0 < x.1.2.1 by omega)]; rfl
              clear h1 h2 HSTAY
              go_wp2_with fail
              refine HCF.out.mono ?_
              rintro e w5 ⟨rfl, b5⟩
              have L5 := Lib.hid (L4.out.next b5)
              have B5 := Lib.hid (thn B4.out b5)
              have K5 := Lib.hid (K4.out.next b5)
              clear b5 HCF L4 B4 K4 p0 p1 p2 p3
              go_wp2
              go_loopw [0, 11, 16] (fun s0 s11 _ wq => ∃ k2 : Nat, k2 ≤ ns ∧ s0 = .slice A2 n2 c2 ∧ s11 = .int .i64 k2 ∧ Hid (skipS (gs.map (·.1)) (ls.map (·.1)) ((ss.map (·.1)).drop k) = skipS (gs.map (·.1)) (ls.map (·.1)) ((ss.map (·.1)).drop k2)) ∧ Hid (Sds wq A2 n2 c2 ls) ∧ Hid (DBlk wq q x.1 x.2) ∧ Hid (Below w.heap.size w wq)) (fun _ s11 _ _ => ns - (intOf s11).toNat)
              case atStart => exact ⟨k, hk, rfl, rfl, rfl, L5, K5, B5⟩
              case round =>
                clear L5 K5 B5
                obtain ⟨k2, hk2, rfl, rfl, HE, L, K, BB⟩ := hrel
                have k20 : (0 : Int) ≤ (k2 : Int) := by omega
                by_cases hk3 : k2 < ns
                · have k21 : (k2 : Int) < (ns : Int) := by omega
                  obtain ⟨bs, offs, y, rfl, hb, hy, hym, y0, _, _, _⟩ := (HS.out.next BB.out).at_ hk3
                  have HSK := Lib.hid (skip_step (got := gs.map (·.1)) (l := ls.map (·.1)) (ss := ss.map (·.1)) (j := k2) (s := y.1) (by rw [List.getElem?_map, hy]; rfl))
                  obtain ⟨v, hv⟩ : ∃ v, y.1.1 = v := ⟨_, rfl⟩
                  rw [hv] at y0 HSK
                  clear hb hy hym hv
                  have HCL := Lib.hid (reffind_any A2 n2 c2 ls v wr L.out)
                  obtain ⟨f2, hf2⟩ : ∃ f2, findI (ls.map (·.1)) v = f2 := ⟨_, rfl⟩
                  have HF2 : Hid (hasN (ls.map (·.1)) v = decide (0 ≤ f2)) := by unfold Hid hasN; rw [hf2]
                  rw [hf2] at HCL
                  clear hf2
                  by_cases hf3 : 0 ≤ f2
                  · go_wp2_with fail
                    refine HCL.out.mono ?_
                    rintro e w6 ⟨rfl, b6⟩
                    have L6 := Lib.hid (L.out.next b6)
                    have K6 := Lib.hid (K.out.next b6)
                    have B6 := Lib.hid (thn BB.out b6)
                    have HCG := Lib.hid (reffind_any _ ng cg gs v w6 (HG.out.next B6.out))
                    obtain ⟨f7, hf7⟩ : ∃ f7, findI (gs.map (·.1)) v = f7 := ⟨_, rfl⟩
                    have HF7 : Hid (hasN (gs.map (·.1)) v = decide (0 ≤ f7)) := by unfold Hid hasN; rw [hf7]
                    rw [hf7] at HCG
                    clear hf7 b6 HCL L K BB y0
                    by_cases hf8 : f7 < 0
                    · have R6 : Hid (DropRes (gs.map (·.1)) (ls.map (·.1)) ((ss.map (·.1)).drop k) (dropD (ls.map (·.1)) v) ((ss.map (·.1)).drop (k2 + 1))) := by
                        unfold Hid DropRes
                        rw [HE.out, HSK.out, HF2.out, HF7.out, decide_eq_false (show ¬ 0 ≤ f7 by omega), decide_eq_true hf3, if_pos (by rfl)]
                        exact ⟨rfl, rfl⟩
                      go_wp2_with fail
                      refine HCG.out.mono ?_
                      rintro e w7 ⟨rfl, b7⟩
                      have L7 := Lib.hid (L6.out.next b7)
                      have K7 := Lib.hid (K6.out.next b7)
                      have B7 := Lib.hid (thn B6.out b7)
                      clear b7 HCG L6 K6 B6
                      obtain ⟨p0, p1, p2, p3⟩ := K7.out.cells
                      have HC7 : Hid (∀ W, Below w7.heap.size w7 W → Calls Try.prog 33 #[.slice A2 n2 c2, .int .u8 v] W (GaveDs (dropD (ls.map (·.1)) v) w7)) := fun W hW =>
                        (refdrop_any A2 n2 c2 ls v W (L7.out.next hW) n1000).mono fun e w' ⟨A', n', c', xs', h1, h2, h3, h4⟩ => ⟨A', n', c', xs', h1, h2, h3, hW.trans (h4.mono hW.size)⟩
                      go_upto_region 14 with fail
                      go_region_with (first
                        | (go_at_call 33
                           refine (HC7.out _ ?_).mono ?_
                           · exact ⟨rfl, rfl, rfl, Nat.le_refl _, fun _ _ => rfl⟩
                           rintro e w8 ⟨A8, n8, c8, ps, rfl, hp8, d8, b8⟩
                           have X8 := Lib.hid d8
                           have V8 := Lib.hid (V.out.drop hp8)
                           have P8 := Lib.hid hp8
                           have B8 := Lib.hid (thn B7.out b8)
                           have K8 := Lib.hid (K7.out.next b8)
                           have n8le : n8 ≤ 1000000 := by have := (V8.out.fit HRM.out X8.out.len).len; omega
                           have HC8 : Hid (∀ W, Below w8.heap.size w8 W → Calls Try.prog 37 #[.slice A8 n8 c8, (.agg #[.int .u8 x.1.1, .int .u16 x.1.2.1, .int .u8 x.1.2.2.1, .slice x.2.1 x.2.2.1 x.2.2.2]), .int .u8 me, .int .i64 room] W (GaveP (putD (ps.map (·.1)) x.1 me room) (!refuseD (ps.map (·.1)) x.1 me room) w8)) := fun W hW =>
                             (refput_any A8 n8 c8 ps x.1 x.2 me room W (X8.out.next hW) n8le (Sn.next HFX.out (thn B8.out hW))).mono fun e w' ⟨A', n', c', xs', h1, h2, h3, h4⟩ => ⟨A', n', c', xs', h1, h2, h3, hW.trans (h4.mono hW.size)⟩
                           obtain ⟨m0, m1, m2, m3⟩ := K8.out.cells
                           clear hp8 d8 b8 HC7 K8)
                        | (go_at_call 37
                           refine (HC8.out _ ?_).mono ?_
                           · exact ⟨rfl, rfl, rfl, Nat.le_refl _, fun _ _ => rfl⟩
                           rintro e w9 ⟨A9, n9, c9, ts, rfl, ht, d9, b9⟩
                           have X9 := Lib.hid d9
                           have V9 := Lib.hid (V8.out.put ht HX1.out)
                           have B9 := Lib.hid (thn B8.out b9)
                           have HI3 : Hid ((((gs.map (·.1)).drop (j + 1)).foldl (mergeStep (gs.map (·.1)) me room) (ts.map (·.1), (ss.map (·.1)).drop (k2 + 1))).1 = RR) := by
                             have h1 := HI2.out
                             rw [mstep_drop HX1.out.1 HRF.out HLK.out R6.out, ← P8.out, ← ht] at h1
                             exact h1
                           clear ht d9 b9 HC8 m0 m1 m2 m3 X8 V8 B8 R6 P8))
                      all_goals
                        go_wp2
                        go_roundw
                        case rel => exact ⟨j + 1, n9, k2 + 1, A9, c9, ts, by omega, by omega, rfl, by go_num, by go_num, X9, V9, HI3, B9⟩
                        case measure => simp [intOf]; omega
                    · have HE2 : Hid (skipS (gs.map (·.1)) (ls.map (·.1)) ((ss.map (·.1)).drop k) = skipS (gs.map (·.1)) (ls.map (·.1)) ((ss.map (·.1)).drop (k2 + 1))) := by
                        unfold Hid
                        rw [HE.out, HSK.out, HF7.out, decide_eq_true (show 0 ≤ f7 by omega), if_neg (by simp)]
                      go_wp2_with fail
                      refine HCG.out.mono ?_
                      rintro e w7 ⟨rfl, b7⟩
                      have L7 := Lib.hid (L6.out.next b7)
                      have K7 := Lib.hid (K6.out.next b7)
                      have B7 := Lib.hid (thn B6.out b7)
                      clear b7 HCG L6 K6 B6 HSK HF2 HF7 HE
                      go_wp2
                      go_roundw
                      case rel => exact ⟨k2 + 1, by omega, rfl, by go_num, HE2, L7, K7, B7⟩
                      case measure => simp [intOf]; omega
                  · have HE2 : Hid (skipS (gs.map (·.1)) (ls.map (·.1)) ((ss.map (·.1)).drop k) = skipS (gs.map (·.1)) (ls.map (·.1)) ((ss.map (·.1)).drop (k2 + 1))) := by
                      unfold Hid
                      rw [HE.out, HSK.out, HF2.out, decide_eq_false hf3, if_neg (by simp)]
                    go_wp2_with fail
                    refine HCL.out.mono ?_
                    rintro e w6 ⟨rfl, b6⟩
                    have L6 := Lib.hid (L.out.next b6)
                    have K6 := Lib.hid (K.out.next b6)
                    have B6 := Lib.hid (thn BB.out b6)
                    clear b6 HCL L K BB HSK HF2 y0
                    go_wp2
                    go_roundw
                    case rel => exact ⟨k2 + 1, by omega, rfl, by go_num, HE2, L6, K6, B6⟩
                    case measure => simp [intOf]; omega
                · obtain rfl : k2 = ns := by omega
                  have HI3 : Hid ((((gs.map (·.1)).drop (j + 1)).foldl (mergeStep (gs.map (·.1)) me room) (ls.map (·.1), (ss.map (·.1)).drop k2)).1 = RR) := by
                    have h1 := HI2.out
                    have e : (ss.map (·.1)).drop k2 = [] := List.drop_of_length_le (by rw [List.length_map, ← HLS.out]; exact Nat.le_refl _)
                    rw [mstep_drop HX1.out.1 HRF.out HLK.out (l' := ls.map (·.1)) (rest' := (ss.map (·.1)).drop k2) (by unfold DropRes; rw [HE.out, e]; exact ⟨rfl, rfl⟩), put_yes HRF.out] at h1
                    exact h1
                  go_wp2
                  go_roundw
                  case rel => exact ⟨j + 1, n2, k2, A2, c2, ls, by omega, Nat.le_refl _, rfl, rfl, by go_num, L, V, HI3, BB⟩
                  case measure => simp [intOf]; omega
    · obtain rfl : j = ng := by omega
      have HE : Hid (ls.map (·.1) = RR) := by
        have h1 := HI.out
        have e : (gs.map (·.1)).drop j = [] := List.drop_of_length_le (by rw [List.length_map, ← HLG.out]; exact Nat.le_refl _)
        rw [e] at h1
        exact h1
      go_wp2
      go_ret
      exact ⟨A2, n2, c2, ls, rfl, HE.out, X.out, BB.out⟩
end Go.Proofs.Ytgbnnllbpidlfaa
