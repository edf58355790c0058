/- Layer 10: cyclon.Merge. -/
import Derived.Test.YtgbnnllbpidlfaaYg
import Derived.Deep.RegionWith
namespace Go.Proofs.Ytgbnnllbpidlfaa
open Go.RowKit
set_option linter.unusedVariables false
/-- What Merge's loop knows of its list. -/
structure VwD (vs : List (Dsc × Hd)) (me room : Int) : Prop where
  right : RightD (vs.map (·.1)) me room
  all : ∀ d ∈ vs.map (·.1), Fit1 d
theorem VwD.fit {vs : List (Dsc × Hd)} {me room : Int} (h : VwD vs me room) (hr : room ≤ 1000) {n : Nat} (hn : n = vs.length) : Fit n vs := ⟨by have h1 := h.right.2.2.2; rw [List.length_map] at h1; omega, fun x hx => h.all x.1 (List.mem_map.2 ⟨x, hx, rfl⟩)⟩
theorem VwD.same {vs ps : List (Dsc × Hd)} {me room : Int} (h : VwD vs me room) (e : ps.map (·.1) = vs.map (·.1)) : VwD ps me room := ⟨by rw [e]; exact h.right, by rw [e]; exact h.all⟩
theorem VwD.put {vs ps : List (Dsc × Hd)} {me room : Int} {d : Dsc} (h : VwD vs me room) (e : ps.map (·.1) = putD (vs.map (·.1)) d me room) (hd : Fit1 d) : VwD ps me room := ⟨by rw [e]; exact right_put h.right d, fun f hf => by
  rw [e] at hf
  rcases put_mem h.right hf with rfl | hf
  · exact hd
  · exact h.all f hf⟩
theorem VwD.drop {vs ps : List (Dsc × Hd)} {me room node : Int} (h : VwD vs me room) (e : ps.map (·.1) = dropD (vs.map (·.1)) node) : VwD ps me room := ⟨by rw [e]; exact right_drop h.right node, fun f hf => by
  rw [e] at hf
  exact h.all f (dropD_mem.1 hf).1⟩
theorem VwD.view {vs : List (Dsc × Hd)} {me room : Int} (h : VwD vs me room) : isView (vs.map (·.1)) := ⟨me, room, h.right⟩
theorem VwD.res {got rest rest' : List Dsc} {vs ps : List (Dsc × Hd)} {me room : Int} (h : VwD vs me room) (r : DropRes got (vs.map (·.1)) rest (ps.map (·.1)) rest') : VwD ps me room := by
  unfold DropRes at r
  split at r
  · exact h.same r.1
  · exact h.drop r.1
theorem mstep_put {got l rest : List Dsc} {d : Dsc} {me room : Int} (h : refuseD l d me room = false) : mergeStep got me room (l, rest) d = (putD l d me room, rest) := by unfold mergeStep; rw [if_pos h]
theorem lacks_iff {l : List Dsc} {d : Dsc} {me : Int} (hd : dscR d) : lacksD l d me = true ↔ ¬ (d.1 = me ∨ d.2.1 = 0 ∨ hasN l d.1 = true) := by
  have h0 := hd.2.1.1
  unfold lacksD hasN
  simp only [Bool.and_eq_true, Bool.not_eq_true', decide_eq_false_iff_not, decide_eq_true_eq]
  constructor
  · rintro ⟨a, b, c⟩ (h | h | h)
    · exact a h
    · omega
    · omega
  · intro h
    refine ⟨fun e => h (.inl e), ?_, ?_⟩
    · have : d.2.1 ≠ 0 := fun e => h (.inr (.inl e))
      omega
    · have : ¬ 0 ≤ findI l d.1 := fun e => h (.inr (.inr e))
      omega
theorem mstep_not {got l rest : List Dsc} {d : Dsc} {me room : Int} (hd : dscR d) (h : refuseD l d me room = true) (h2 : lacksD l d me = false) : mergeStep got me room (l, rest) d = (l, rest) := by
  unfold mergeStep
  rw [if_neg (by rw [h]; decide), if_pos]
  refine Classical.byContradiction fun hc => ?_
  have := (lacks_iff (l := l) (me := me) hd).2 hc
  rw [h2] at this; cases this
theorem mstep_drop {got l rest l' rest' : List Dsc} {d : Dsc} {me room : Int} (hd : dscR d) (h : refuseD l d me room = true) (h2 : lacksD l d me = true) (r : DropRes got l rest l' rest') : mergeStep got me room (l, rest) d = (putD l' d me room, rest') := by
  unfold mergeStep
  rw [if_neg (by rw [h]; decide), if_neg ((lacks_iff hd).1 h2)]
  unfold DropRes at r
  dsimp only
  split at r
  · next hs => rw [hs]; obtain ⟨rfl, rfl⟩ := r; dsimp only; rw [put_yes h]
  · next m t hs => rw [hs]; obtain ⟨rfl, rfl⟩ := r; rfl
set_option maxHeartbeats 8000000 in
set_option maxRecDepth 100000 in
theorem merge_any (A : Option Addr) (n c : Nat) (xs : List (Dsc × Hd)) (Ag : Option Addr) (ng cg : Nat) (gs : List (Dsc × Hd)) (As : Option Addr) (ns cs : Nat) (ss : List (Dsc × Hd)) (me room : Int) (w : World) (h : Sds w A n c xs) (hf : Fit n xs) (hg : Sds w Ag ng cg gs) (hfg : Fit ng gs) (hs : Sds w As ns cs ss) (hfs : Fit ns ss) (hroom : room ≤ 1000) (hr : RightD (xs.map (·.1)) me room) :
    Calls Try.prog 17 #[.slice A n c, .slice Ag ng cg, .slice As ns cs, .int .u8 me, .int .i64 room] w (GaveDo (mergeD (xs.map (·.1)) (gs.map (·.1)) (ss.map (·.1)) me room) w) := by
  have HC0 := Lib.hid (copyX_any A n c xs w h (by have := hf.len; omega) (fun x hx => by have := (hf.all x hx).2; omega))
  have HV : Hid (VwD xs me room) := ⟨hr, fun d hd => by obtain ⟨x, hx, rfl⟩ := List.mem_map.1 hd; exact hf.all x hx⟩
  have HG := Lib.hid hg
  have HFG := Lib.hid hfg
  have HS := Lib.hid hs
  have HSR : Hid (∀ x ∈ ss, dscR x.1) := fun x hx => (hfs.all x hx).1
  have HRM := Lib.hid hroom
  have hgm := hg.max
  have hgc := hg.cap
  have HLG : Hid (ng = gs.length) := hg.len
  unfold maxLen at hgm
  obtain ⟨RR, HRR⟩ : ∃ RR, Hid (mergeD (xs.map (·.1)) (gs.map (·.1)) (ss.map (·.1)) me room = RR) := ⟨_, rfl⟩
  rw [HRR.out]
  clear h hf hg hfg hs hfs hroom hr
  go_enter Try.func17, Try.ntmps17
  go_wp2_with fail
  refine HC0.out.mono ?_
  rintro e w1 ⟨g1, zs, rfl, hz, d1, b1⟩
  have X1 := Lib.hid d1
  have V1 := Lib.hid (HV.out.same hz)
  have HZ := Lib.hid hz
  have B1 := Lib.hid b1
  have HC1 := Lib.hid (dropper_any Ag ng cg gs As ns cs w1 (HG.out.next b1) (fun x hx => (HFG.out.all x hx).1))
  clear hz d1 b1 HC0 HV
  go_wp2_with fail
  refine HC1.out.mono ?_
  rintro e w2 ⟨bA, bS, bN, rfl, d2, la, b2⟩
  have X2 := Lib.hid (X1.out.below b2)
  have D2 := Lib.hid d2
  have LA : Hid (w.heap.size ≤ bA) := Nat.le_trans B1.out.size la
  have B2 := Lib.hid (thn B1.out b2)
  have HI : Hid ((((gs.map (·.1)).drop 0).foldl (mergeStep (gs.map (·.1)) me room) (zs.map (·.1), (ss.map (·.1)).drop 0)).1 = RR) := by
    unfold Hid
    rw [← HRR.out, HZ.out]; rfl
  have eg : ∀ args w, (callFunc 44 args).run Try.prog w = .ok (.enter 44 args) w := enters_of Try.func44 (by kernel_rfl) rfl
  clear d2 la b2 HC1 X1 HRR HZ B1
  go_wp2
  go_loopw [11, 14, 15, 16, 24] (fun s11 _ _ _ s24 wr => ∃ (j n2 k : Nat) (A2 : Option Addr) (c2 : Nat) (ls : List (Dsc × Hd)), j ≤ ng ∧ s11 = .slice A2 n2 c2 ∧ s24 = .int .i64 j ∧ Hid (Dow wr w.heap.size A2 n2 c2 ls) ∧ Hid (VwD ls me room) ∧ Hid (DropSt wr bA bS bN (gs.map (·.1)) As ns cs k) ∧ Hid ((((gs.map (·.1)).drop j).foldl (mergeStep (gs.map (·.1)) me room) (ls.map (·.1), (ss.map (·.1)).drop k)).1 = RR) ∧ Hid (Below w.heap.size w wr)) (fun _ _ _ _ s24 _ => ng - (intOf s24).toNat)
  case atStart => exact ⟨0, n, 0, some ⟨g1, 0, none⟩, n, zs, Nat.zero_le _, rfl, rfl, X2, V1, D2, HI, B2⟩
  case round =>
    clear X2 V1 D2 HI B2
    obtain ⟨j, n2, k, A2, c2, ls, hj, rfl, rfl, X, V, D, HI, BB⟩ := hrel
    have i0 : (0 : Int) ≤ (j : Int) := by omega
    by_cases hlt : j < ng
    · have i1 : (j : Int) < (ng : Int) := by omega
      obtain ⟨b, off, x, rfl, hb, hx, hxm, c0, c1, c2', c3'⟩ := (HG.out.next BB.out).at_ hlt
      have HX1 : Hid (Fit1 x.1) := HFG.out.all x hxm
      have HF := Lib.hid ((HG.out.next BB.out).fl x hxm)
      have HFX := Lib.hid (HG.out.fl x hxm)
      have HJ : Hid ((gs.map (·.1)).drop j = x.1 :: (gs.map (·.1)).drop (j + 1)) := by
        have e : (gs.map (·.1))[j]? = some x.1 := by rw [List.getElem?_map, hx]; rfl
        unfold Hid
        rw [List.drop_eq_getElem_cons (List.getElem?_eq_some_iff.1 e).1, (List.getElem?_eq_some_iff.1 e).2]
      have HI2 : Hid ((((gs.map (·.1)).drop (j + 1)).foldl (mergeStep (gs.map (·.1)) me room) (mergeStep (gs.map (·.1)) me room (ls.map (·.1), (ss.map (·.1)).drop k) x.1)).1 = RR) := by
        have h1 := HI.out
        rw [HJ.out, List.foldl_cons] at h1
        exact h1
      have hbl := below_lit wr (.cells #[.int .u8 x.1.1, .int .u16 x.1.2.1, .int .u8 x.1.2.2.1, .slice x.2.1 x.2.2.1 x.2.2.2] 34)
      have K : Hid (DBlk (wr.alloc (.cells #[.int .u8 x.1.1, .int .u16 x.1.2.1, .int .u8 x.1.2.2.1, .slice x.2.1 x.2.2.1 x.2.2.2] 34)) wr.heap.size x.1 x.2) := DBlk.new wr x.1 x.2
      have X3 := Lib.hid (X.out.below hbl)
      have D3 := Lib.hid (D.out.next hbl)
      have B3 := Lib.hid (thn BB.out hbl)
      have HF3 : Hid (Fl (wr.alloc (.cells #[.int .u8 x.1.1, .int .u16 x.1.2.1, .int .u8 x.1.2.2.1, .slice x.2.1 x.2.2.1 x.2.2.2] 34)) x) := Sn.next HF.out hbl
      have HNA : Hid (bA < wr.heap.size) := (Array.getElem?_eq_some_iff.1 D.out.at_).1
      clear hbl hx hxm hb HF X D BB HI HJ
      go_upto_region 5 with fail
      clear c0 c1 c2' c3'
      generalize wr.alloc _ = w3 at *
      obtain ⟨q, hq⟩ : ∃ q, wr.heap.size = q := ⟨_, rfl⟩
      rw [hq] at K HNA ⊢
      clear hq
      obtain ⟨p0, p1, p2, p3⟩ := K.out.cells
      have hln : n2 = ls.length := X3.out.len
      obtain ⟨rf, hrf⟩ : ∃ rf, refuseD (ls.map (·.1)) x.1 me room = rf := ⟨_, rfl⟩
      have HC3 := Lib.hid (put_any A2 n2 c2 ls x.1 x.2 me room w3 X3.out.sds (V.out.fit HRM.out hln) HF3.out HX1.out V.out.right)
      rw [hrf] at HC3
      have HRF := Lib.hid hrf
      have HLN := Lib.hid hln
      clear hrf hln
      go_wp2_with fail
      refine HC3.out.mono ?_
      rintro e w4 ⟨A4, n4, c4, os, rfl, ho, d4, b4⟩
      have X4 := Lib.hid (d4.mono B3.out.size)
      have V4 := Lib.hid (V.out.put ho HX1.out)
      have D4 := Lib.hid (D3.out.next b4)
      have B4 := Lib.hid (thn B3.out b4)
      have HO := Lib.hid ho
      have L3 := Lib.hid (X3.out.below b4)
      have K4 := Lib.hid (K.out.next b4)
      have HF4 : Hid (Fl w4 x) := Sn.next HF3.out b4
      have HNB : Hid (q < w4.heap.size) := K4.out.lt
      clear ho d4 b4 p0 p1 p2 p3 K X3 D3 HC3 HF3 B3
      cases rf
      · have HI3 : Hid ((((gs.map (·.1)).drop (j + 1)).foldl (mergeStep (gs.map (·.1)) me room) (os.map (·.1), (ss.map (·.1)).drop k)).1 = RR) := by
          have h1 := HI2.out
          rw [mstep_put HRF.out, ← HO.out] at h1
          exact h1
        go_wp2
        go_roundw
        case rel => exact ⟨j + 1, n4, k, A4, c4, os, by omega, rfl, by go_num, X4, V4, D4, HI3, B4⟩
        case measure => simp [intOf]; omega
      · have HEQ : Hid (os.map (·.1) = ls.map (·.1)) := by unfold Hid; rw [HO.out, put_yes HRF.out]
        have HCL := Lib.hid (lacks_any A2 n2 c2 ls x.1 x.2 me w4 L3.out.sds (V.out.fit HRM.out HLN.out) V.out.view)
        obtain ⟨lk, hlk⟩ : ∃ lk, lacksD (ls.map (·.1)) x.1 me = lk := ⟨_, rfl⟩
        rw [hlk] at HCL
        have HLK := Lib.hid hlk
        clear hlk
        obtain ⟨p0, p1, p2, p3⟩ := K4.out.cells
        go_wp2_with fail
        refine HCL.out.mono ?_
        rintro e w5 ⟨rfl, b5⟩
        have X5 := Lib.hid (X4.out.below b5)
        have D5 := Lib.hid (D4.out.next b5)
        have B5 := Lib.hid (thn B4.out b5)
        have L5 := Lib.hid (L3.out.below b5)
        have K5 := Lib.hid (K4.out.next b5)
        have HF5 : Hid (Fl w5 x) := Sn.next HF4.out b5
        clear b5 p0 p1 p2 p3 K4 X4 D4 HCL HF4 B4 L3
        cases lk
        · have HI3 : Hid ((((gs.map (·.1)).drop (j + 1)).foldl (mergeStep (gs.map (·.1)) me room) (os.map (·.1), (ss.map (·.1)).drop k)).1 = RR) := by
            have h1 := HI2.out
            rw [mstep_not HX1.out.1 HRF.out HLK.out, ← HEQ.out] at h1
            exact h1
          go_wp2
          go_roundw
          case rel => exact ⟨j + 1, n4, k, A4, c4, os, by omega, rfl, by go_num, X5, V4, D5, HI3, B5⟩
          case measure => simp [intOf]; omega
        · obtain ⟨p0, p1, p2, p3⟩ := K5.out.cells
          have HC7 : Hid (∀ W, Below w5.heap.size w5 W → Calls Try.prog 44 #[.slice A2 n2 c2, .pointer (some ⟨bA, 0, none⟩), .pointer (some ⟨bS, 0, none⟩), .pointer (some ⟨bN, 0, none⟩)] W (GaveC bA bS bN (gs.map (·.1)) As ns cs (ls.map (·.1)) ((ss.map (·.1)).drop k) (ss.map (·.1)) w.heap.size w5)) := fun W hW =>
            (drop1_any A2 n2 c2 ls As ns cs ss bA bS bN k w.heap.size (gs.map (·.1)) w W HS.out HSR.out (thn B5.out hW) LA.out (L5.out.below hW) (Nat.le_trans B5.out.size hW.size) (V.out.fit HRM.out HLN.out) V.out.view (D5.out.next hW)).mono fun e w' ⟨A', n', c', k', xs', h1, h2, h3, h4, h5⟩ => ⟨A', n', c', k', xs', h1, h2, h3, h4, grown_two (grown_of_below hW bA) h5⟩
          have HNQ : Hid (q ≠ bA) := Nat.ne_of_gt HNA.out
          clear D5 L5 HF5 X5 HEQ HO
          go_upto_region 7 with fail
          go_region_with (first
            | (go_at_call 44
               refine (HC7.out _ ?_).mono ?_
               · exact ⟨rfl, rfl, rfl, Nat.le_refl _, fun _ _ => rfl⟩
               rintro e w6 ⟨A6, n6, c6, k6, ps, rfl, d6, D6, r6, g6⟩
               have X6 := Lib.hid d6
               have V6 := Lib.hid (V.out.res r6)
               have R6 := Lib.hid r6
               have S6 := Lib.hid D6
               have B6 := Lib.hid (belowG B5.out g6 B5.out.size LA.out)
               have K6 := Lib.hid (K5.out.gr g6 (by
                 intro e
                 injection e with e
                 exact HNQ.out e))
               have HC8 : Hid (∀ W, Below w6.heap.size w6 W → Calls Try.prog 35 #[.slice A6 n6 c6, (.agg #[.int .u8 x.1.1, .int .u16 x.1.2.1, .int .u8 x.1.2.2.1, .slice x.2.1 x.2.2.1 x.2.2.2]), .int .u8 me, .int .i64 room] W (GavePo (putD (ps.map (·.1)) x.1 me room) (!refuseD (ps.map (·.1)) x.1 me room) w6)) := fun W hW =>
                 (put_any A6 n6 c6 ps x.1 x.2 me room W (X6.out.below hW).sds (V6.out.fit HRM.out X6.out.len) (Sn.next HFX.out (thn B6.out hW)) HX1.out V6.out.right).mono fun e w' ⟨A', n', c', xs', h1, h2, h3, h4⟩ => ⟨A', n', c', xs', h1, h2, h3.mono hW.size, hW.trans (h4.mono hW.size)⟩
               obtain ⟨m0, m1, m2, m3⟩ := K6.out.cells
               clear d6 D6 r6 g6 HC7 K6)
            | (go_at_call 35
               refine (HC8.out _ ?_).mono ?_
               · exact ⟨rfl, rfl, rfl, Nat.le_refl _, fun _ _ => rfl⟩
               rintro e w7 ⟨A7, n7, c7, ts, rfl, ht, d7, b7⟩
               have X7 := Lib.hid (d7.mono B6.out.size)
               have V7 := Lib.hid (V6.out.put ht HX1.out)
               have S7 := Lib.hid (S6.out.next b7)
               have B7 := Lib.hid (thn B6.out b7)
               have HI3 : Hid ((((gs.map (·.1)).drop (j + 1)).foldl (mergeStep (gs.map (·.1)) me room) (ts.map (·.1), (ss.map (·.1)).drop k6)).1 = RR) := by
                 have h1 := HI2.out
                 rw [mstep_drop HX1.out.1 HRF.out HLK.out R6.out, ← ht] at h1
                 exact h1
               clear ht d7 b7 HC8 m0 m1 m2 m3 X6 V6 S6 B6 R6))
          all_goals
            go_wp2
            go_roundw
            case rel => exact ⟨j + 1, n7, k6, A7, c7, ts, by omega, rfl, by go_num, X7, V7, S7, HI3, B7⟩
            case measure => simp [intOf]; omega
    · obtain rfl : j = ng := by omega
      have HE : Hid (ls.map (·.1) = RR) := by
        have h1 := HI.out
        have e : (gs.map (·.1)).drop j = [] := List.drop_of_length_le (by rw [List.length_map, ← HLG.out]; exact Nat.le_refl _)
        rw [e] at h1
        exact h1
      go_wp2
      go_ret
      exact ⟨A2, n2, c2, ls, rfl, HE.out, X.out, BB.out⟩
end Go.Proofs.Ytgbnnllbpidlfaa
