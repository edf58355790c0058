/- Layer 11: the reference's Admit; sample.Fill, and the reference's. -/
import Derived.Test.YtdkchiodepdclaaZf
import Derived.Test.YtdkchiodepdclaaRs
import Derived.Deep.RegionWith
namespace Go.Proofs.Ytdkchiodepdclaa
open Go.RowKit
set_option linter.unusedVariables false
theorem Sds.below {w w' : World} {A : Option Addr} {n c : Nat} {xs : List (Dsc × Hd)} (h : Sds w A n c xs) (hb : Below w.heap.size w w') : Sds w' A n c xs := h.next hb
set_option maxRecDepth 100000 in
set_option maxHeartbeats 8000000 in
theorem refadmit_any (A : Option Addr) (n c : Nat) (xs : List (Dsc × Hd)) (d : Dsc) (hd : Hd) (self room : Int) (w : World) (h : Sds w A n c xs) (hf : Fit n xs) (hF : Fl w (d, hd)) :
    Calls Try.prog 21 #[.slice A n c, (.agg #[.int .u8 d.1, .int .u16 d.2.1, .int .u8 d.2.2.1, .slice hd.1 hd.2.1 hd.2.2]), .int .u8 self, .int .i64 room] w (GaveDs (admitD (xs.map (·.1)) d self room) w) := by
  have HL : Hid (n = xs.length) := h.len
  have hbl := below_lit w (.cells #[.int .u8 d.1, .int .u16 d.2.1, .int .u8 d.2.2.1, .slice hd.1 hd.2.1 hd.2.2] 27)
  have KD : Hid (DBlk (w.alloc (.cells #[.int .u8 d.1, .int .u16 d.2.1, .int .u8 d.2.2.1, .slice hd.1 hd.2.1 hd.2.2] 27)) w.heap.size d hd) := DBlk.new w d hd
  have S := Lib.hid (h.next hbl)
  have FD : Hid (Fl _ (d, hd)) := Sn.next hF hbl
  have B := Lib.hid hbl
  have HF := Lib.hid hf
  have n8 := hf.len
  have hcap := h.cap
  have hmx := h.max
  unfold maxLen at hmx
  obtain ⟨rf, HRF⟩ : ∃ rf, Hid (refuseD (xs.map (·.1)) d self room = rf) := ⟨_, rfl⟩
  obtain ⟨o, HO⟩ : ∃ o, Hid (oldI (xs.map (·.1)) = o) := ⟨_, rfl⟩
  obtain ⟨f, HFI⟩ : ∃ f, Hid (findI (xs.map (·.1)) d.1 = f) := ⟨_, rfl⟩
  clear h hf hF hbl
  go_enter Try.func21, Try.ntmps21
  go_upto_region 1 with fail
  generalize w.alloc _ = w1 at *
  obtain ⟨g, hg⟩ : ∃ g, w.heap.size = g := ⟨_, rfl⟩
  rw [hg] at KD ⊢
  clear hg
  obtain ⟨p0, p1, p2, p3⟩ := KD.out.cells
  go_wp2_with fail
  have hc := refput_any A n c xs d hd self room w1 S.out (by omega) FD.out
  rw [HRF.out] at hc
  refine hc.mono ?_
  clear hc p0 p1 p2 p3
  rintro e w2 ⟨A2, n2, c2, ls, rfl, hl, d2, b2⟩
  have HLS := Lib.hid hl
  have D2 := Lib.hid d2
  replace B := Lib.hid (thn B.out b2)
  replace KD := Lib.hid (KD.out.next b2)
  replace S := Lib.hid (S.out.next b2)
  replace FD : Hid (Fl _ (d, hd)) := Sn.next FD.out b2
  clear hl d2 b2
  cases rf
  · skip
    go_wp2
    go_ret
    exact ⟨A2, n2, c2, ls, rfl, by rw [HLS.out, admit_put HRF.out], D2.out, B.out⟩
  · skip
    clear HLS D2
    have HNOT : Hid (d.1 = self ∨ d.2.1 = 0 ∨ hasN (xs.map (·.1)) d.1 = true ∨ xs.map (·.1) = [] → xs.map (·.1) = admitD (xs.map (·.1)) d self room) := fun q => (admit_not HRF.out q).symm
    by_cases h1 : d.1 = self
    · have hb1 : (d.1 == self) = true := by simp [h1]
      have HE : Hid (xs.map (·.1) = admitD (xs.map (·.1)) d self room) := HNOT.out (.inl h1)
      obtain ⟨p0, p1, p2, p3⟩ := KD.out.cells
      clear h1 HNOT
      go_wp2
      go_ret
      exact ⟨A, n, c, xs, rfl, HE.out, S.out, B.out⟩
    · have hb1 : (d.1 == self) = false := by simp [h1]
      by_cases h2 : d.2.1 = 0
      · have hb2 : (d.2.1 == 0) = true := by simp [h2]
        have HE : Hid (xs.map (·.1) = admitD (xs.map (·.1)) d self room) := HNOT.out (.inr (.inl h2))
        obtain ⟨p0, p1, p2, p3⟩ := KD.out.cells
        clear h1 h2 HNOT
        go_wp2
        go_ret
        exact ⟨A, n, c, xs, rfl, HE.out, S.out, B.out⟩
      · have hb2 : (d.2.1 == 0) = false := by simp [h2]
        have H1 := Lib.hid h1
        have H2 := Lib.hid h2
        obtain ⟨p0, p1, p2, p3⟩ := KD.out.cells
        clear h1 h2
        go_wp2_with fail
        have hc := reffind_any A n c xs d.1 w2 S.out
        rw [HFI.out] at hc
        refine hc.mono ?_
        clear hc p0 p1 p2 p3
        rintro e w3 ⟨rfl, b2⟩
        replace B := Lib.hid (thn B.out b2)
        replace KD := Lib.hid (KD.out.next b2)
        replace S := Lib.hid (S.out.next b2)
        replace FD : Hid (Fl _ (d, hd)) := Sn.next FD.out b2
        clear b2
        by_cases hf0 : 0 ≤ f
        · have HE : Hid (xs.map (·.1) = admitD (xs.map (·.1)) d self room) := HNOT.out (.inr (.inr (.inl (by unfold hasN; rw [HFI.out]; exact decide_eq_true hf0))))
          clear HNOT
          go_wp2
          go_ret
          exact ⟨A, n, c, xs, rfl, HE.out, S.out, B.out⟩
        · have hf1 : decide (0 ≤ f) = false := decide_eq_false hf0
          have HNN : Hid (hasN (xs.map (·.1)) d.1 = false) := by unfold Hid hasN; rw [HFI.out]; exact hf1
          by_cases hz : n = 0
          · have HE : Hid (xs.map (·.1) = admitD (xs.map (·.1)) d self room) := HNOT.out (.inr (.inr (.inr (by rw [List.eq_nil_of_length_eq_zero (HL.out.symm.trans hz)]; rfl))))
            have hb3 : ((n : Int) == 0) = true := by simp [hz]
            clear hz HNOT
            go_wp2
            go_ret
            exact ⟨A, n, c, xs, rfl, HE.out, S.out, B.out⟩
          · have hb3 : ((n : Int) == 0) = false := beq_eq_false_iff_ne.2 (by omega)
            have hne : xs.map (·.1) ≠ [] := fun e => hz (by rw [HL.out, ← List.length_map (f := (·.1)), e]; rfl)
            obtain ⟨k, e0, hk, hek, hon⟩ := old_at hne
            obtain rfl : o = (k : Int) := HO.out.symm.trans hk
            have hkn : k < n := by have := (List.getElem?_eq_some_iff.1 hek).1; rw [List.length_map] at this; rw [HL.out]; exact this
            have k0 : (0 : Int) ≤ (k : Int) := by omega
            have k1 : (k : Int) < (n : Int) := by omega
            have HSW : Hid (admitD (xs.map (·.1)) d self room = putD (dropD (xs.map (·.1)) (oldN (xs.map (·.1)))) d self room) := admit_sw HRF.out fun q => by
              rcases q with q | q | q | q
              · exact H1.out q
              · exact H2.out q
              · rw [HNN.out] at q; cases q
              · exact hne q
            obtain ⟨b, off, x, hA, hb, hx, hxm, -, -, -, -⟩ := S.out.at_ hkn
            have HX := Lib.hid hx
            subst hA
            have HXE : Hid (oldN (xs.map (·.1)) = x.1.1) := by
              have h1 := hek
              rw [List.getElem?_map, hx] at h1
              unfold Hid; rw [hon, ← Option.some.inj h1]
            clear hz hk hek hon hne hb hx hxm HNOT
            go_wp2_with fail
            have hc := refoldest_any _ n c xs w3 S.out (fun x hx => (HF.out.all x hx).1)
            rw [HO.out] at hc
            refine hc.mono ?_
            clear hc
            rintro e w4 ⟨rfl, b2⟩
            replace B := Lib.hid (thn B.out b2)
            replace KD := Lib.hid (KD.out.next b2)
            replace S := Lib.hid (S.out.next b2)
            replace FD : Hid (Fl _ (d, hd)) := Sn.next FD.out b2
            clear b2
            obtain ⟨b', off', x', hA, hb, hx, hxm, c0, c1, c2', c3'⟩ := S.out.at_ hkn
            injection hA with hA
            injection hA with e1 e2
            subst e1 e2
            obtain rfl : x = x' := Option.some.inj (HX.out.symm.trans hx)
            clear hb hx hxm HX
            go_upto_region 7 with fail
            clear c0 c1 c2' c3'
            have HC7 : Hid (∀ W, Below w4.heap.size w4 W → Calls Try.prog 36 #[.slice (some ⟨b, off, none⟩) n c, .int .u8 x.1.1] W (GaveDs (dropD (xs.map (·.1)) x.1.1) w4)) := fun W hW =>
              (refdrop_any _ n c xs x.1.1 W (S.out.next hW) (by omega)).mono fun e w' ⟨A', n', c', xs', h1, h2, h3, h4⟩ => ⟨A', n', c', xs', h1, h2, h3, thn hW h4⟩
            obtain ⟨p0, p1, p2, p3⟩ := KD.out.cells
            go_region_with (first
              | (go_at_call 36
                 refine (HC7.out _ ?_).mono ?_
                 · exact ⟨rfl, rfl, rfl, Nat.le_refl _, fun _ _ => rfl⟩
                 rintro e w6 ⟨A6, n6, c6, ps, rfl, m6, s6, b6⟩
                 have S6 := Lib.hid s6
                 have M6 := Lib.hid m6
                 have B6 := Lib.hid (thn B.out b6)
                 have K6 := Lib.hid (KD.out.next b6)
                 have N6 : Hid (n6 ≤ 1000000) := by
                   have h1 := s6.len
                   have h2 := congrArg List.length m6
                   rw [List.length_map] at h2
                   have h3 := drop_le (ds := xs.map (·.1)) x.1.1
                   rw [List.length_map, ← HL.out] at h3
                   unfold Hid
                   omega
                 have F6 : Hid (Fl w6 (d, hd)) := Sn.next FD.out b6
                 have HC8 : Hid (∀ W, Below w6.heap.size w6 W → Calls Try.prog 33 #[.slice A6 n6 c6, (.agg #[.int .u8 d.1, .int .u16 d.2.1, .int .u8 d.2.2.1, .slice hd.1 hd.2.1 hd.2.2]), .int .u8 self, .int .i64 room] W (GaveP (putD (ps.map (·.1)) d self room) (!refuseD (ps.map (·.1)) d self room) w6)) := fun W hW =>
                   (refput_any A6 n6 c6 ps d hd self room W (S6.out.next hW) N6.out (Sn.next F6.out hW)).mono fun e w' ⟨A', n', c', xs', h1, h2, h3, h4⟩ => ⟨A', n', c', xs', h1, h2, h3, thn hW h4⟩
                 obtain ⟨m0, m1, m2, m3⟩ := K6.out.cells
                 clear s6 m6 b6 HC7 K6)
              | (go_at_call 33
                 refine (HC8.out _ ?_).mono ?_
                 · exact ⟨rfl, rfl, rfl, Nat.le_refl _, fun _ _ => rfl⟩
                 rintro e w7 ⟨A7, n7, c7, ts, rfl, ht, s7, b7⟩
                 have S7 := Lib.hid s7
                 have B7 := Lib.hid (thn B6.out b7)
                 have HE : Hid (ts.map (·.1) = admitD (xs.map (·.1)) d self room) := by
                   unfold Hid
                   rw [ht, M6.out, HSW.out, HXE.out]
                 clear ht s7 b7 HC8 m0 m1 m2 m3 B6 S6))
            all_goals
              go_wp2
              go_ret
              exact ⟨A7, n7, c7, ts, rfl, HE.out, S7.out, B7.out⟩
theorem fill_snoc (l gs : List Dsc) (g : Dsc) (self room : Int) : fillD l (gs ++ [g]) self room = putD (fillD l gs self room) g self room := by unfold fillD; rw [List.foldl_append]; rfl
theorem take_map_succ {gs : List (Dsc × Hd)} {j : Nat} {x : Dsc × Hd} (hx : gs[j]? = some x) : ((gs.take (j + 1)).map (·.1)) = (gs.take j).map (·.1) ++ [x.1] := by
  rw [List.take_add_one, hx, List.map_append]; rfl
theorem fill_fit {xs gs ls : List (Dsc × Hd)} {n : Nat} {j : Nat} {self room : Int} (hr : RightD (xs.map (·.1)) self room) (h1 : ∀ x ∈ xs, Fit1 x.1) (h2 : ∀ x ∈ gs, Fit1 x.1) (hr2 : room ≤ 1000) (e : ls.map (·.1) = fillD (xs.map (·.1)) ((gs.take j).map (·.1)) self room) (hn : n = ls.length) : Fit n ls ∧ RightD (ls.map (·.1)) self room := by
  have h := filled ((gs.take j).map (·.1)) hr
  rw [← e] at h
  refine ⟨fit_of (ds := ls.map (·.1)) rfl (by have := h.right.2.2.2; rw [List.length_map] at this; omega) fun d hd => ?_, h.right⟩
  rcases h.of_ d hd with q | q
  · obtain ⟨y, hy, rfl⟩ := List.mem_map.1 q; exact h1 y hy
  · obtain ⟨y, hy, rfl⟩ := List.mem_map.1 q; exact h2 y (List.mem_of_mem_take hy)
set_option maxRecDepth 100000 in
set_option maxHeartbeats 8000000 in
theorem fill_any (A : Option Addr) (n c : Nat) (xs : List (Dsc × Hd)) (Ag : Option Addr) (ng cg : Nat) (gs : List (Dsc × Hd)) (self room : Int) (w : World) (h : Sds w A n c xs) (hf : Fit n xs) (hg : Sds w Ag ng cg gs) (hfg : Fit ng gs) (hroom : room ≤ 1000) (hr : RightD (xs.map (·.1)) self room) :
    Calls Try.prog 22 #[.slice A n c, .slice Ag ng cg, .int .u8 self, .int .i64 room] w (GaveDo (fillD (xs.map (·.1)) (gs.map (·.1)) self room) w) := by
  have HC0 := Lib.hid (copyX_any A n c xs w h (by have := hf.len; omega) (fun x hx => by have := (hf.all x hx).2; omega))
  have HF := Lib.hid hf
  have HG := Lib.hid hg
  have HFG := Lib.hid hfg
  have HR := Lib.hid hr
  have HRM := Lib.hid hroom
  have hgm := hg.max
  have hgc := hg.cap
  have HLG : Hid (ng = gs.length) := hg.len
  unfold maxLen at hgm
  clear h hf hg hfg hroom hr
  go_enter Try.func22, Try.ntmps22
  go_wp2_with fail
  refine HC0.out.mono ?_
  rintro e w1 ⟨g1, zs, rfl, hz, d1, b1⟩
  have X1 := Lib.hid d1
  have HZ := Lib.hid hz
  have B1 := Lib.hid b1
  clear hz d1 b1 HC0
  go_wp2
  go_loopw [9, 11, 16] (fun s9 _ iv wr => ∃ (j n2 : Nat) (A2 : Option Addr) (c2 : Nat) (ls : List (Dsc × Hd)), j ≤ ng ∧ s9 = .slice A2 n2 c2 ∧ iv = .int .i64 j ∧ Hid (Dow wr w.heap.size A2 n2 c2 ls) ∧ Hid (ls.map (·.1) = fillD (xs.map (·.1)) ((gs.take j).map (·.1)) self room) ∧ Hid (Below w.heap.size w wr)) (fun _ _ iv _ => ng - (intOf iv).toNat)
  case atStart => exact ⟨0, n, some ⟨g1, 0, none⟩, n, zs, Nat.zero_le _, rfl, rfl, X1, HZ, B1⟩
  case round =>
    clear X1 HZ B1
    obtain ⟨j, n2, A2, c2, ls, hj, rfl, rfl, X, HI, BB⟩ := hrel
    have i0 : (0 : Int) ≤ (j : Int) := by omega
    by_cases hlt : j < ng
    · have i1 : (j : Int) < (ng : Int) := by omega
      obtain ⟨b, off, x, rfl, hb, hx, hxm, c0, c1, c2', c3'⟩ := (HG.out.next BB.out).at_ hlt
      have HX1 : Hid (Fit1 x.1) := HFG.out.all x hxm
      have HFT := Lib.hid (fill_fit HR.out HF.out.all HFG.out.all HRM.out HI.out X.out.len)
      have hbl := below_lit wr (.cells #[.int .u8 x.1.1, .int .u16 x.1.2.1, .int .u8 x.1.2.2.1, .slice x.2.1 x.2.2.1 x.2.2.2] 27)
      have K : Hid (DBlk (wr.alloc (.cells #[.int .u8 x.1.1, .int .u16 x.1.2.1, .int .u8 x.1.2.2.1, .slice x.2.1 x.2.2.1 x.2.2.2] 27)) wr.heap.size x.1 x.2) := DBlk.new wr x.1 x.2
      have X3 := Lib.hid (X.out.below hbl)
      have B3 := Lib.hid (thn BB.out hbl)
      have HF3 : Hid (Fl (wr.alloc (.cells #[.int .u8 x.1.1, .int .u16 x.1.2.1, .int .u8 x.1.2.2.1, .slice x.2.1 x.2.2.1 x.2.2.2] 27)) x) := Sn.next ((HG.out.next BB.out).fl x hxm) hbl
      have HI2 : Hid (putD (ls.map (·.1)) x.1 self room = fillD (xs.map (·.1)) ((gs.take (j + 1)).map (·.1)) self room) := by
        unfold Hid
        rw [take_map_succ hx, fill_snoc, ← HI.out]
      clear hbl hx hxm hb X BB HI
      go_upto_region 5 with fail
      clear c0 c1 c2' c3'
      generalize wr.alloc _ = w3 at *
      obtain ⟨q, hq⟩ : ∃ q, wr.heap.size = q := ⟨_, rfl⟩
      rw [hq] at K ⊢
      clear hq
      obtain ⟨p0, p1, p2, p3⟩ := K.out.cells
      have HC3 := Lib.hid (put_any A2 n2 c2 ls x.1 x.2 self room w3 X3.out.sds HFT.out.1 HF3.out HX1.out HFT.out.2)
      go_wp2_with fail
      refine HC3.out.mono ?_
      rintro e w4 ⟨A4, n4, c4, os, rfl, ho, d4, b4⟩
      have X4 := Lib.hid (d4.mono B3.out.size)
      have B4 := Lib.hid (thn B3.out b4)
      have HI4 : Hid (os.map (·.1) = fillD (xs.map (·.1)) ((gs.take (j + 1)).map (·.1)) self room) := by unfold Hid; rw [ho, HI2.out]
      clear ho d4 b4 p0 p1 p2 p3 K X3 HC3 HF3 B3 HI2
      go_wp2
      go_roundw
      case rel => exact ⟨j + 1, n4, A4, c4, os, by omega, rfl, by go_num, X4, HI4, B4⟩
      case measure => simp [intOf]; omega
    · obtain rfl : j = ng := by omega
      rw [List.take_of_length_le (by rw [← HLG.out]; exact Nat.le_refl _)] at HI
      go_wp2
      go_ret
      exact ⟨A2, n2, c2, ls, rfl, HI.out, X.out, BB.out⟩
set_option maxRecDepth 100000 in
set_option maxHeartbeats 8000000 in
theorem reffill_any (A : Option Addr) (n c : Nat) (xs : List (Dsc × Hd)) (Ag : Option Addr) (ng cg : Nat) (gs : List (Dsc × Hd)) (self room : Int) (w : World) (h : Sds w A n c xs) (hf : Fit n xs) (hg : Sds w Ag ng cg gs) (hfg : Fit ng gs) (hroom : room ≤ 1000) (hr : RightD (xs.map (·.1)) self room) :
    Calls Try.prog 23 #[.slice A n c, .slice Ag ng cg, .int .u8 self, .int .i64 room] w (GaveDs (fillD (xs.map (·.1)) (gs.map (·.1)) self room) w) := by
  have HS := Lib.hid h
  have HF := Lib.hid hf
  have HG := Lib.hid hg
  have HFG := Lib.hid hfg
  have HR := Lib.hid hr
  have HRM := Lib.hid hroom
  have hgm := hg.max
  have hgc := hg.cap
  have HLG : Hid (ng = gs.length) := hg.len
  unfold maxLen at hgm
  clear h hf hg hfg hroom hr
  go_enter Try.func23, Try.ntmps23
  go_wp2
  go_loopw [0, 9] (fun s0 iv wr => ∃ (j n2 : Nat) (A2 : Option Addr) (c2 : Nat) (ls : List (Dsc × Hd)), j ≤ ng ∧ s0 = .slice A2 n2 c2 ∧ iv = .int .i64 j ∧ Hid (Sds wr A2 n2 c2 ls) ∧ Hid (ls.map (·.1) = fillD (xs.map (·.1)) ((gs.take j).map (·.1)) self room) ∧ Hid (Below w.heap.size w wr)) (fun _ iv _ => ng - (intOf iv).toNat)
  case atStart => exact ⟨0, n, A, c, xs, Nat.zero_le _, rfl, rfl, HS, rfl, Below.refl _ _⟩
  case round =>
    clear HS
    obtain ⟨j, n2, A2, c2, ls, hj, rfl, rfl, X, HI, BB⟩ := hrel
    have i0 : (0 : Int) ≤ (j : Int) := by omega
    by_cases hlt : j < ng
    · have i1 : (j : Int) < (ng : Int) := by omega
      obtain ⟨b, off, x, rfl, hb, hx, hxm, c0, c1, c2', c3'⟩ := (HG.out.next BB.out).at_ hlt
      have HFT := Lib.hid (fill_fit HR.out HF.out.all HFG.out.all HRM.out HI.out X.out.len)
      have HC3 := Lib.hid (refput_any A2 n2 c2 ls x.1 x.2 self room wr X.out (by have := HFT.out.1.len; omega) ((HG.out.next BB.out).fl x hxm))
      have HI2 : Hid (putD (ls.map (·.1)) x.1 self room = fillD (xs.map (·.1)) ((gs.take (j + 1)).map (·.1)) self room) := by
        unfold Hid
        rw [take_map_succ hx, fill_snoc, ← HI.out]
      clear hx hxm hb X HI
      go_wp2_with fail
      refine HC3.out.mono ?_
      rintro e w4 ⟨A4, n4, c4, os, rfl, ho, d4, b4⟩
      have X4 := Lib.hid d4
      have B4 := Lib.hid (thn BB.out b4)
      have HI4 : Hid (os.map (·.1) = fillD (xs.map (·.1)) ((gs.take (j + 1)).map (·.1)) self room) := by unfold Hid; rw [ho, HI2.out]
      clear ho d4 b4 c0 c1 c2' c3' HC3 BB HI2
      go_wp2
      go_roundw
      case rel => exact ⟨j + 1, n4, A4, c4, os, by omega, rfl, by go_num, X4, HI4, B4⟩
      case measure => simp [intOf]; omega
    · obtain rfl : j = ng := by omega
      rw [List.take_of_length_le (by rw [← HLG.out]; exact Nat.le_refl _)] at HI
      go_wp2
      go_ret
      exact ⟨A2, n2, c2, ls, rfl, HI.out, X.out, BB.out⟩
end Go.Proofs.Ytdkchiodepdclaa
