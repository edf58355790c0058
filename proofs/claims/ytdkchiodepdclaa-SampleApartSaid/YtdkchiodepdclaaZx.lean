/- Layer 11: SampleApart. -/
import Derived.Test.YtdkchiodepdclaaZw
import Derived.Test.YtdkchiodepdclaaZp
import Derived.Test.YtdkchiodepdclaaRb9
import Derived.Test.YtdkchiodepdclaaReg6
import Derived.Deep.Cut
namespace Go.Proofs.Ytdkchiodepdclaa
open Go.RowKit
set_option linter.unusedVariables false
set_option maxRecDepth 100000 in
set_option maxHeartbeats 40000000 in
theorem apart_walk (A : Option Addr) (n c : Nat) (xs : List (Dsc × Hd)) (Ag : Option Addr) (ng cg : Nat) (gs : List (Dsc × Hd)) (d : Dsc) (hd : Hd) (self : Int) (w : World) (h : Sds w A n c xs) (hR : ∀ x ∈ xs, dscR x.1) (hg : Sds w Ag ng cg gs) (hRg : ∀ x ∈ gs, dscR x.1) (fd : Fl w (d, hd)) (rd : dscR d) (hse : byt self) :
    Calls Try.prog 7 #[.slice A n c, .slice Ag ng cg, (.agg #[.int .u8 d.1, .int .u16 d.2.1, .int .u8 d.2.2.1, .slice hd.1 hd.2.1 hd.2.2]), .int .u8 self] w fun e w' => e = .returned (.bool true) ∧ Below w.heap.size w w' := by
  have HL := Lib.hid h.len
  have HLg := Lib.hid hg.len
  have HR := Lib.hid hR
  have HRg := Lib.hid hRg
  have HS := Lib.hid h
  have HG := Lib.hid hg
  have HSF := Lib.hid hse
  have FD : Hid (Fl w (d, hd)) := fd
  have HLD : Hid (hd.2.1 = d.2.2.2.length) := sp_len fd
  have HRD := Lib.hid rd
  have B := Lib.hid (below_lit w (.cells #[.int .u8 d.1, .int .u16 d.2.1, .int .u8 d.2.2.1, .slice hd.1 hd.2.1 hd.2.2] 27))
  have KD : Hid (DBlk (w.alloc (.cells #[.int .u8 d.1, .int .u16 d.2.1, .int .u8 d.2.2.1, .slice hd.1 hd.2.1 hd.2.2] 27)) w.heap.size d hd) := DBlk.new w d hd
  obtain ⟨f1, HF1⟩ : ∃ f, Hid (fewB (xs.map (·.1)) = f) := ⟨_, rfl⟩
  obtain ⟨f2, HF2⟩ : ∃ f, Hid (fewB (gs.map (·.1)) = f) := ⟨_, rfl⟩
  clear h hR hg hRg fd rd hse
  go_enter Try.func7, Try.ntmps7
  go_upto_region 1 with fail
  generalize w.alloc _ = w1 at *
  obtain ⟨gKD, hg⟩ : ∃ g, w.heap.size = g := ⟨_, rfl⟩
  rw [hg] at KD ⊢
  clear hg
  obtain ⟨KD0, KD1, KD2, KD3⟩ := KD.out.cells
  go_wp2_with fail
  have hc := few_any A n c xs w1 (HS.out.next B.out)
  rw [HF1.out] at hc
  refine hc.mono ?_
  clear hc
  rintro e w2 ⟨rfl, b5⟩
  clear KD0 KD1 KD2 KD3
  replace KD := Lib.hid (KD.out.next b5)
  replace B := Lib.hid (thn B.out b5)
  clear b5
  cases f1
  · skip
    obtain ⟨KD0, KD1, KD2, KD3⟩ := KD.out.cells
    go_wp2_with fail
    have hc := awake_any w2
    refine hc.mono ?_
    clear hc
    rintro e w3 ⟨rfl, b5⟩
    clear KD0 KD1 KD2 KD3
    replace KD := Lib.hid (KD.out.next b5)
    replace B := Lib.hid (thn B.out b5)
    clear b5
    go_wp2
    go_ret
    exact ⟨rfl, B.out⟩
  · skip
    obtain ⟨KD0, KD1, KD2, KD3⟩ := KD.out.cells
    go_wp2_with fail
    have hc := few_any Ag ng cg gs w2 (HG.out.next B.out)
    rw [HF2.out] at hc
    refine hc.mono ?_
    clear hc
    rintro e w3 ⟨rfl, b5⟩
    clear KD0 KD1 KD2 KD3
    replace KD := Lib.hid (KD.out.next b5)
    replace B := Lib.hid (thn B.out b5)
    clear b5
    cases f2
    · skip
      obtain ⟨KD0, KD1, KD2, KD3⟩ := KD.out.cells
      go_wp2_with fail
      have hc := awake_any w3
      refine hc.mono ?_
      clear hc
      rintro e w4 ⟨rfl, b5⟩
      clear KD0 KD1 KD2 KD3
      replace KD := Lib.hid (KD.out.next b5)
      replace B := Lib.hid (thn B.out b5)
      clear b5
      go_wp2
      go_ret
      exact ⟨rfl, B.out⟩
    · skip
      by_cases l8 : (8 : Int) < (hd.2.1 : Int)
      · skip
        obtain ⟨KD0, KD1, KD2, KD3⟩ := KD.out.cells
        go_wp2_with fail
        have hc := awake_any w3
        refine hc.mono ?_
        clear hc
        rintro e w4 ⟨rfl, b5⟩
        clear KD0 KD1 KD2 KD3
        replace KD := Lib.hid (KD.out.next b5)
        replace B := Lib.hid (thn B.out b5)
        clear b5
        go_wp2
        go_ret
        exact ⟨rfl, B.out⟩
      · skip
        have HFX := Lib.hid (few_fit HF1.out HL.out HR.out)
        have HFG := Lib.hid (few_fit HF2.out HLg.out HRg.out)
        have F1D : Hid (Fit1 d) := ⟨HRD.out, by have := HLD.out; omega⟩
        obtain ⟨KD0, KD1, KD2, KD3⟩ := KD.out.cells
        go_wp2_with fail
        have hc := view_any A n c xs self 20 w3 (HS.out.next B.out) HR.out (by decide)
        refine hc.mono ?_
        clear hc
        rintro e w4 ⟨Ai, ni, ci, is, rfl, hv, sv, b5⟩
        clear KD0 KD1 KD2 KD3
        have SI := Lib.hid (sv.sds)
        have HVI := Lib.hid (hv)
        replace KD := Lib.hid (KD.out.next b5)
        replace B := Lib.hid (thn B.out b5)
        clear b5
        clear sv hv
        have HFI : Hid (Fit ni is) := view_fit HVI.out HFX.out (by omega) SI.out.len
        have HRI : Hid (RightD (is.map (·.1)) self 20) := HVI.out.right
        have HLI := Lib.hid SI.out.len
        obtain ⟨KD0, KD1, KD2, KD3⟩ := KD.out.cells
        go_wp2_with fail
        have hc := anew_any Ai ni ci is w4 SI.out (by have := HFI.out.len; omega) (fun x hx => by have := (HFI.out.all x hx).2; omega)
        refine hc.mono ?_
        clear hc
        rintro e w5 ⟨Av, nv, cv, vs, rfl, mv, dv, b5⟩
        clear KD0 KD1 KD2 KD3
        have SV := Lib.hid (dv.sds)
        have MV := Lib.hid (mv)
        replace KD := Lib.hid (KD.out.next b5)
        replace SI := Lib.hid (SI.out.next b5)
        replace B := Lib.hid (thn B.out b5)
        clear b5
        clear dv mv
        have HFV : Hid (Fit nv vs) := fit_map HFI.out MV.out SV.out.len HLI.out
        have HRV : Hid (RightD (vs.map (·.1)) self 20) := by unfold Hid; rw [MV.out]; exact HRI.out
        obtain ⟨KD0, KD1, KD2, KD3⟩ := KD.out.cells
        go_wp2_with fail
        have hc := anew_any Ag ng cg gs w5 (HG.out.next B.out) (by have := HFG.out.len; omega) (fun x hx => by have := (HFG.out.all x hx).2; omega)
        refine hc.mono ?_
        clear hc
        rintro e w6 ⟨As, ns, cs, ss, rfl, ms, ds, b5⟩
        clear KD0 KD1 KD2 KD3
        have SS := Lib.hid (ds.sds)
        have MS := Lib.hid (ms)
        replace KD := Lib.hid (KD.out.next b5)
        replace SI := Lib.hid (SI.out.next b5)
        replace SV := Lib.hid (SV.out.next b5)
        replace B := Lib.hid (thn B.out b5)
        clear b5
        clear ds ms
        have HFS : Hid (Fit ns ss) := fit_map HFG.out MS.out SS.out.len HLg.out
        clear SI
        obtain ⟨KD0, KD1, KD2, KD3⟩ := KD.out.cells
        go_wp2_with fail
        have hc := anew_any Av nv cv vs w6 SV.out (by have := HFV.out.len; omega) (fun x hx => by have := (HFV.out.all x hx).2; omega)
        refine hc.mono ?_
        clear hc
        rintro e w7 ⟨Ap, np, cp, ps, rfl, mp, dp, b5⟩
        clear KD0 KD1 KD2 KD3
        have SP := Lib.hid (dp.sds)
        have MP := Lib.hid (mp)
        replace KD := Lib.hid (KD.out.next b5)
        replace SV := Lib.hid (SV.out.next b5)
        replace SS := Lib.hid (SS.out.next b5)
        replace B := Lib.hid (thn B.out b5)
        clear b5
        clear dp mp
        obtain ⟨KD0, KD1, KD2, KD3⟩ := KD.out.cells
        go_wp2_with fail
        have hc := anew_any As ns cs ss w7 SS.out (by have := HFS.out.len; omega) (fun x hx => by have := (HFS.out.all x hx).2; omega)
        refine hc.mono ?_
        clear hc
        rintro e w8 ⟨Aq, nq, cq, qs, rfl, mq, dq, b5⟩
        clear KD0 KD1 KD2 KD3
        have SQ := Lib.hid (dq.sds)
        have MQ := Lib.hid (mq)
        replace KD := Lib.hid (KD.out.next b5)
        replace SV := Lib.hid (SV.out.next b5)
        replace SS := Lib.hid (SS.out.next b5)
        replace SP := Lib.hid (SP.out.next b5)
        replace B := Lib.hid (thn B.out b5)
        clear b5
        clear dq mq
        obtain ⟨KD0, KD1, KD2, KD3⟩ := KD.out.cells
        go_wp2_with fail
        have hc := start_any 1 9 As ns cs ss w8 SS.out HFS.out
        rw [show mx 9 = 9 by decide] at hc
        refine hc.mono ?_
        clear hc
        rintro e w9 ⟨⟨Aw, nw, cw⟩, ws, rfl, mw, dw, b5⟩
        clear KD0 KD1 KD2 KD3
        have MW := Lib.hid (mw)
        have SW := Lib.hid (dw.sds)
        replace KD := Lib.hid (KD.out.next b5)
        replace SV := Lib.hid (SV.out.next b5)
        replace SS := Lib.hid (SS.out.next b5)
        replace SP := Lib.hid (SP.out.next b5)
        replace SQ := Lib.hid (SQ.out.next b5)
        replace B := Lib.hid (thn B.out b5)
        clear b5
        clear mw dw
        dsimp only at SW ⊢
        have HFW : Hid (Fit nw ws) := fit_map HFS.out MW.out SW.out.len SS.out.len
        go_upto_region 6 with fail
        have hbl := below_lit w9 (.cells #[.bool ((true, 1, 9) : Wn).1, .int .u8 ((true, 1, 9) : Wn).2.1, .int .u8 ((true, 1, 9) : Wn).2.2, .slice ((Aw, nw, cw) : Hd).1 ((Aw, nw, cw) : Hd).2.1 ((Aw, nw, cw) : Hd).2.2] 31)
        have KW := Lib.hid (WBlk.new w9 (true, 1, 9) (Aw, nw, cw))
        replace KD := Lib.hid (KD.out.next hbl)
        replace SV := Lib.hid (SV.out.next hbl)
        replace SS := Lib.hid (SS.out.next hbl)
        replace SP := Lib.hid (SP.out.next hbl)
        replace SQ := Lib.hid (SQ.out.next hbl)
        replace SW := Lib.hid (SW.out.next hbl)
        replace B := Lib.hid (thn B.out hbl)
        clear hbl
        try dsimp only at KW
        generalize w9.alloc _ = w10 at *
        obtain ⟨gKW, hgKW⟩ : ∃ q, w9.heap.size = q := ⟨_, rfl⟩
        rw [hgKW] at KW ⊢
        clear hgKW
        have B6 := Lib.hid (Below.refl w10.heap.size w10)
        have KW0 := KW
        obtain ⟨KW00, KW01, KW02, KW03⟩ := KW0.out.cells
        go_wp2_with fail
        have hc := tick_any (true, 1, 9) Aw nw cw ws w10 SW.out HFW.out (by decide)
        rw [show tickW (true, 1, 9) = (true, 1, 8) by decide] at hc
        rw [show tickP (true, 1, 9) = 0 by decide] at hc
        rw [show tickB (true, 1, 9) = false by decide] at hc
        rw [show tickS (true, 1, 9) (ws.map (·.1)) = ws.map (·.1) from if_pos (by decide)] at hc
        refine hc.mono ?_
        clear hc
        rintro e w11 ⟨⟨At, nt, ct⟩, ts, rfl, mt, dt, b5⟩
        clear KW00 KW01 KW02 KW03
        have ET := Lib.hid (dt.e B6.out.size)
        have ST := Lib.hid (dt.sds)
        have MT := Lib.hid (mt)
        replace KW0 := Lib.hid (KW0.out.next b5)
        replace B6 := Lib.hid (thn B6.out b5)
        clear b5
        clear mt dt KW0
        dsimp only at ET ST ⊢
        have HFT : Hid (Fit nt ts) := fit_map HFW.out MT.out ST.out.len SW.out.len
        go_upto_region 7 with fail
        have hbl := below_lit w11 (.cells #[.bool ((true, 1, 8) : Wn).1, .int .u8 ((true, 1, 8) : Wn).2.1, .int .u8 ((true, 1, 8) : Wn).2.2, .slice ((At, nt, ct) : Hd).1 ((At, nt, ct) : Hd).2.1 ((At, nt, ct) : Hd).2.2] 31)
        have KT := Lib.hid (WBlk.new w11 (true, 1, 8) (At, nt, ct))
        replace ET := Lib.hid (ET.out.next hbl)
        replace ST := Lib.hid (ST.out.next hbl)
        replace B6 := Lib.hid (thn B6.out hbl)
        clear hbl
        try dsimp only at KT
        generalize w11.alloc _ = w12 at *
        obtain ⟨gKT, hgKT⟩ : ∃ q, w11.heap.size = q := ⟨_, rfl⟩
        rw [hgKT] at KT ⊢
        clear hgKT
        obtain ⟨KT0, KT1, KT2, KT3⟩ := KT.out.cells
        go_wp2_with fail
        have hc := answer_any (true, 1, 8) 1 At nt ct ts w12 ST.out HFT.out
        rw [show ansW (true, 1, 8) 1 = wz by decide] at hc
        rw [show ansL (true, 1, 8) 1 (ts.map (·.1)) = [] from if_pos (by decide)] at hc
        rw [show ansG (true, 1, 8) 1 (ts.map (·.1)) = ts.map (·.1) from if_pos (by decide)] at hc
        rw [show ansB (true, 1, 8) 1 = true by decide] at hc
        refine hc.mono ?_
        clear hc
        rintro e w13 ⟨⟨Au, nu, cu⟩, zu, ⟨Aku, nku, cku⟩, yu, rfl, mu, du, mku, dku, b5⟩
        clear KT0 KT1 KT2 KT3
        have EU := Lib.hid (du.e0 B6.out.size mu)
        have EK := Lib.hid (dku.e B6.out.size)
        replace ET := Lib.hid (ET.out.next b5)
        replace ST := Lib.hid (ST.out.next b5)
        replace KT := Lib.hid (KT.out.next b5)
        replace B6 := Lib.hid (thn B6.out b5)
        clear b5
        clear mu du mku dku
        dsimp only at EU EK ⊢
        go_upto_region 8 with fail
        have hbl := below_lit w13 (.cells #[.bool ((false, 0, 0) : Wn).1, .int .u8 ((false, 0, 0) : Wn).2.1, .int .u8 ((false, 0, 0) : Wn).2.2, .slice ((Au, nu, cu) : Hd).1 ((Au, nu, cu) : Hd).2.1 ((Au, nu, cu) : Hd).2.2] 31)
        have KU := Lib.hid (WBlk.new w13 (false, 0, 0) (Au, nu, cu))
        replace ET := Lib.hid (ET.out.next hbl)
        replace ST := Lib.hid (ST.out.next hbl)
        replace KT := Lib.hid (KT.out.next hbl)
        replace EU := Lib.hid (EU.out.next hbl)
        replace EK := Lib.hid (EK.out.next hbl)
        replace B6 := Lib.hid (thn B6.out hbl)
        clear hbl
        try dsimp only at KU
        generalize w13.alloc _ = w14 at *
        obtain ⟨gKU, hgKU⟩ : ∃ q, w13.heap.size = q := ⟨_, rfl⟩
        rw [hgKU] at KU ⊢
        clear hgKU
        obtain ⟨KT0, KT1, KT2, KT3⟩ := KT.out.cells
        go_wp2_with fail
        have hc := answer_any (true, 1, 8) 2 At nt ct ts w14 ST.out HFT.out
        rw [show ansW (true, 1, 8) 2 = (true, 1, 8) by decide] at hc
        rw [show ansL (true, 1, 8) 2 (ts.map (·.1)) = ts.map (·.1) from if_neg (by decide)] at hc
        rw [show ansG (true, 1, 8) 2 (ts.map (·.1)) = [] from if_neg (by decide)] at hc
        rw [show ansB (true, 1, 8) 2 = false by decide] at hc
        refine hc.mono ?_
        clear hc
        rintro e w15 ⟨⟨Ax, nx, cx⟩, zx, ⟨Akx, nkx, ckx⟩, yx, rfl, mx, dx, mkx, dkx, b5⟩
        clear KT0 KT1 KT2 KT3
        have EX := Lib.hid (dx.e B6.out.size)
        replace ET := Lib.hid (ET.out.next b5)
        replace ST := Lib.hid (ST.out.next b5)
        replace KT := Lib.hid (KT.out.next b5)
        replace EU := Lib.hid (EU.out.next b5)
        replace EK := Lib.hid (EK.out.next b5)
        replace KU := Lib.hid (KU.out.next b5)
        replace B6 := Lib.hid (thn B6.out b5)
        clear b5
        clear mx dx mkx dkx
        dsimp only at EX ⊢
        go_upto_region 9 with fail
        have hbl := below_lit w15 (.cells #[.bool ((true, 1, 8) : Wn).1, .int .u8 ((true, 1, 8) : Wn).2.1, .int .u8 ((true, 1, 8) : Wn).2.2, .slice ((Ax, nx, cx) : Hd).1 ((Ax, nx, cx) : Hd).2.1 ((Ax, nx, cx) : Hd).2.2] 31)
        have KX := Lib.hid (WBlk.new w15 (true, 1, 8) (Ax, nx, cx))
        replace ET := Lib.hid (ET.out.next hbl)
        replace ST := Lib.hid (ST.out.next hbl)
        replace KT := Lib.hid (KT.out.next hbl)
        replace EU := Lib.hid (EU.out.next hbl)
        replace EK := Lib.hid (EK.out.next hbl)
        replace KU := Lib.hid (KU.out.next hbl)
        replace EX := Lib.hid (EX.out.next hbl)
        replace B6 := Lib.hid (thn B6.out hbl)
        clear hbl
        try dsimp only at KX
        generalize w15.alloc _ = w16 at *
        obtain ⟨gKX, hgKX⟩ : ∃ q, w15.heap.size = q := ⟨_, rfl⟩
        rw [hgKX] at KX ⊢
        clear hgKX
        have SV9 : Hid (Sds w16 Av nv cv vs) := SV.out.next B6.out
        have SS9 : Hid (Sds w16 As ns cs ss) := SS.out.next B6.out
        have F9 : Hid (Fl w16 (d, hd)) := Sn.next FD.out (thn B.out B6.out)
        have HB9 : Hid (w10.heap.size ≤ w16.heap.size) := B6.out.size
        have KD9 : Hid (DBlk w16 gKD d hd) := KD.out.next B6.out
        refine wp_region_typed 16 [(72, .val (.pointer (some ⟨gKT, 3, none⟩))), (73, .val (.slice At nt ct)), (74, .val (.slice Aku nku cku)), (75, .val (.pointer (some ⟨gKX, 3, none⟩))), (76, .val (.slice Ax nx cx)), (77, .val (.slice Av nv cv)), (78, .val (.agg #[.int .u8 d.1, .int .u16 d.2.1, .int .u8 d.2.2.1, .slice hd.1 hd.2.1 hd.2.2])), (79, .val (.int .u8 self)), (80, tyDE w10.heap.size), (81, .val (.slice Av nv cv)), (82, .val (.slice As ns cs)), (83, .val (.int .u8 self)), (84, tyDE w10.heap.size), (85, tyFL w10.heap.size), (86, .val (.int .i64 5)), (87, .val (.int .i64 0))]
          [[], [72], [], [], [75], [], [], [], [77, 78, 79], [], [], [], [81, 82, 83], [73, 74, 76, 80, 84], [85], []] (by kernel_rfl) (by kernel_rfl) ?_ ?_
        rotate_left
        · intro v17 hb
          simp only [List.take_succ_cons, List.take_zero, List.drop_succ_cons, List.drop_zero]
          refine over_ds (ds := [72, 73, 74, 75, 76, 77, 78, 79, 80, 81, 82, 83, 84, 85, 86, 87]) (by kernel_rfl) ?_
          refine over_some (ds1 := [72, 73, 74, 75, 76, 77, 78, 79]) (ds2 := [80, 81, 82, 83, 84, 85, 86, 87]) [(.pointer (some ⟨gKT, 3, none⟩)), (.slice At nt ct), (.slice Aku nku cku), (.pointer (some ⟨gKX, 3, none⟩)), (.slice Ax nx cx), (.slice Av nv cv), (.agg #[.int .u8 d.1, .int .u16 d.2.1, .int .u8 d.2.2.1, .slice hd.1 hd.2.1 hd.2.2]), (.int .u8 self)] (by kernel_rfl) ?_
          refine over_pred rfl ?_
          rintro _ ⟨A80, n80, c80, hs80, rfl, s80⟩
          refine over_some (ds1 := [81, 82, 83]) (ds2 := [84, 85, 86, 87]) [(.slice Av nv cv), (.slice As ns cs), (.int .u8 self)] (by kernel_rfl) ?_
          refine over_pred rfl ?_
          rintro _ ⟨A84, n84, c84, hs84, rfl, s84⟩
          refine over_pred rfl ?_
          rintro _ ⟨g85, rfl, s85⟩
          refine over_some (ds1 := [86, 87]) (ds2 := []) [(.int .i64 5), (.int .i64 0)] (by kernel_rfl) ?_
          refine over_nil ?_
          simp only [putAll, put_lit, List.set_cons_succ, List.set_cons_zero]
          replace KU := Lib.hid (KU.out.next hb)
          replace EU := Lib.hid (EU.out.next hb)
          replace ET := Lib.hid (ET.out.next hb)
          replace EK := Lib.hid (EK.out.next hb)
          replace EX := Lib.hid (EX.out.next hb)
          replace KT := Lib.hid (KT.out.next hb)
          replace KX := Lib.hid (KX.out.next hb)
          replace KD9 := Lib.hid (KD9.out.next hb)
          replace B6 := Lib.hid (thn B6.out hb)
          clear hb
          have HF5 : Hid (Five v17 g85 w10.heap.size gKU (Au, nu, cu)) := ⟨s85.blk, s85.all, KU.out, EU.out⟩
          clear KU EU ET EK EX KT KX KD9 s80 s84 s85
          go_wp2
          go_loopw [24, 25, 26, 87] (fun _ _ _ iv wr => ∃ j : Nat, j ≤ 5 ∧ iv = .int .i64 j ∧ Hid (Five wr g85 w10.heap.size gKU (Au, nu, cu)) ∧ Hid (Below w10.heap.size w10 wr)) (fun _ _ _ iv _ => 5 - (intOf iv).toNat)
          case atStart => exact ⟨0, by decide, rfl, HF5, B6⟩
          case round =>
            clear HF5 B6
            obtain ⟨j, hj, rfl, HF4, B6⟩ := hrel
            have i0 : (0 : Int) ≤ (j : Int) := by omega
            by_cases hlt : j < 5
            · as_aux_lemma =>
                obtain ⟨A5, n5, c5, hs, cj, HE⟩ := HF4.out.all j hlt
                have HE5 := Lib.hid HE
                clear HE
                have i1 : (j : Int) < 5 := by omega
                have hnc5 : n5 ≤ c5 ∧ c5 ≤ maxLen := by obtain ⟨zs, h1, _⟩ := HE5.out; exact ⟨h1.sds.cap, h1.sds.max⟩
                obtain ⟨nc5, mc5⟩ := hnc5
                unfold maxLen at mc5
                go_wp2
                clear cj
                go_loopw [25, 26, 93] (fun _ _ iv wr => ∃ i : Nat, i ≤ n5 ∧ iv = .int .i64 i ∧ Hid (Five wr g85 w10.heap.size gKU (Au, nu, cu)) ∧ Hid (DowE wr w10.heap.size A5 n5 c5 hs) ∧ Hid (Below w10.heap.size w10 wr)) (fun _ _ iv _ => n5 - (intOf iv).toNat)
                case atStart => exact ⟨0, Nat.zero_le _, rfl, HF4, HE5, B6⟩
                case round =>
                  clear HF4 HE5 B6
                  obtain ⟨i, hi, rfl, HF4, HE5, B6⟩ := hrel
                  have k0 : (0 : Int) ≤ (i : Int) := by omega
                  by_cases hli : i < n5
                  · as_aux_lemma =>
                      obtain ⟨g5, z, rfl, T5, hB5, _, _, hz, ca, fa, ch, _⟩ := HE5.out.at_ hli
                      have k1 : (i : Int) < (n5 : Int) := by omega
                      have HZ := Lib.hid hz
                      clear hz
                      go_upto_region 16 with fail
                      have HF5 : Hid (Five (wr.setCell ⟨g5, i * 4 + 2, none⟩ (.int .u8 ((z.1.2.2.1 + 1) % 256))) g85 w10.heap.size gKU (Au, nu, cu)) := HF4.out.age T5 i _
                      have HE6 : Hid (DowE (wr.setCell ⟨g5, i * 4 + 2, none⟩ (.int .u8 ((z.1.2.2.1 + 1) % 256))) w10.heap.size (some ⟨g5, 0, none⟩) n5 c5 hs) := HE5.out.age T5 i _
                      have B7 : Hid (Below w10.heap.size w10 (wr.setCell ⟨g5, i * 4 + 2, none⟩ (.int .u8 ((z.1.2.2.1 + 1) % 256)))) := B6.out.setCell (p := ⟨g5, i * 4 + 2, none⟩) hB5 _
                      clear HF4 HE5 B6 ca fa ch T5
                      generalize wr.setCell ⟨g5, i * 4 + 2, none⟩ (.int .u8 ((z.1.2.2.1 + 1) % 256)) = wa at *
                      obtain ⟨g6, z6, e6, _, _, _, _, hz6, _, _, ch, hO⟩ := HE6.out.at_ hli
                      injection e6 with e6
                      injection e6 with e6
                      subst e6
                      have hze : z6.2 = z.2 := Option.some.inj (hz6.symm.trans HZ.out)
                      rw [hze] at ch hO
                      have nf : z.2.2.1 ≤ z.2.2.2 ∧ z.2.2.2 ≤ maxLen := ⟨(Sn.of_own hO).cap, (Sn.of_own hO).max⟩
                      obtain ⟨nf1, nf2⟩ := nf
                      unfold maxLen at nf2
                      clear hz6 hO hze
                      go_wp2
                      clear ch
                      go_loopw [26, 110] (fun _ iv wr => ∃ p : Nat, p ≤ z.2.2.1 ∧ iv = .int .i64 p ∧ Hid (Five wr g85 w10.heap.size gKU (Au, nu, cu)) ∧ Hid (DowE wr w10.heap.size (some ⟨g5, 0, none⟩) n5 c5 hs) ∧ Hid (Below w10.heap.size w10 wr)) (fun _ iv _ => z.2.2.1 - (intOf iv).toNat)
                      case atStart => exact ⟨0, Nat.zero_le _, rfl, HF5, HE6, B7⟩
                      case round =>
                        clear HF5 HE6 B7
                        obtain ⟨p, hp, rfl, HF5, HE6, B7⟩ := hrel
                        have p0 : (0 : Int) ≤ (p : Int) := by omega
                        by_cases hlp : p < z.2.2.1
                        · as_aux_lemma =>
                            obtain ⟨g6, z6, e6, _, _, _, _, hz6, _, _, ch, hO⟩ := HE6.out.at_ hli
                            injection e6 with e6
                            injection e6 with e6
                            subst e6
                            have hze : z6.2 = z.2 := Option.some.inj (hz6.symm.trans HZ.out)
                            rw [hze] at ch hO
                            obtain ⟨q6, pr, hq6, T6, hB6, cp, fp⟩ := span_atB hO hlp
                            rw [hq6] at ch
                            have p1 : (p : Int) < (z.2.2.1 : Int) := by omega
                            clear hz6 hO hze hq6
                            go_upto_region 20 with fail
                            have HF7 : Hid (Five (wr.setCell ⟨q6, p * 2 + 1, none⟩ (.int .i32 (wrap32 (pr.2 + 1)))) g85 w10.heap.size gKU (Au, nu, cu)) := HF5.out.span T6 p _
                            have HE7 : Hid (DowE (wr.setCell ⟨q6, p * 2 + 1, none⟩ (.int .i32 (wrap32 (pr.2 + 1)))) w10.heap.size (some ⟨g5, 0, none⟩) n5 c5 hs) := HE6.out.spanB T6 p _
                            have B8 : Hid (Below w10.heap.size w10 (wr.setCell ⟨q6, p * 2 + 1, none⟩ (.int .i32 (wrap32 (pr.2 + 1))))) := B7.out.setCell (p := ⟨q6, p * 2 + 1, none⟩) hB6 _
                            clear HF5 HE6 B7 cp fp ch T6
                            generalize wr.setCell ⟨q6, p * 2 + 1, none⟩ (.int .i32 (wrap32 (pr.2 + 1))) = wb at *
                            go_wp2
                            go_roundw
                            case rel => exact ⟨p + 1, by omega, by go_num, HF7, HE7, B8⟩
                            case measure => simp [intOf]; omega
                        · have hpe : p = z.2.2.1 := by omega
                          have p2 : ¬ ((p : Int) < (z.2.2.1 : Int)) := by omega
                          clear hpe
                          go_wp2
                          go_roundw
                          case rel => exact ⟨i + 1, by omega, by go_num, HF5, HE6, B7⟩
                          case measure => simp [intOf]; omega
                  · obtain rfl : i = n5 := by omega
                    go_wp2
                    go_roundw
                    case rel => exact ⟨j + 1, by omega, by go_num, HF4, B6⟩
                    case measure => simp [intOf]; omega
            · obtain rfl : j = 5 := by omega
              as_aux_lemma =>
                have KU : Hid (WBlk wr gKU (false, 0, 0) (Au, nu, cu)) := HF4.out.u
                have SU : Hid (Sds wr Au nu cu []) := HF4.out.ul.nilS
                replace SV := Lib.hid (SV.out.next B6.out)
                replace SP := Lib.hid (SP.out.next B6.out)
                replace SS := Lib.hid (SS.out.next B6.out)
                replace SQ := Lib.hid (SQ.out.next B6.out)
                replace SW := Lib.hid (SW.out.next B6.out)
                replace KW := Lib.hid (KW.out.next B6.out)
                replace B := Lib.hid (thn B.out B6.out)
                clear HF4 B6
                obtain ⟨KU0, KU1, KU2, KU3⟩ := KU.out.cells
                go_wp2_with fail
                have hc := samew_any wz (Au, nu, cu) hz0 [] [] wr SU.out (Sds.nil _) rfl
                refine hc.mono ?_
                clear hc
                rintro e w81 ⟨rfl, b5⟩
                clear KU0 KU1 KU2 KU3
                replace SV := Lib.hid (SV.out.next b5)
                replace SP := Lib.hid (SP.out.next b5)
                replace SS := Lib.hid (SS.out.next b5)
                replace SQ := Lib.hid (SQ.out.next b5)
                replace SW := Lib.hid (SW.out.next b5)
                replace KW := Lib.hid (KW.out.next b5)
                replace KU := Lib.hid (KU.out.next b5)
                replace SU := Lib.hid (SU.out.next b5)
                replace B := Lib.hid (thn B.out b5)
                clear b5
                clear KU SU
                go_wp2_with fail
                have hc := descs_any Av nv cv vs Ap np cp ps w81 SV.out SP.out
                rw [show decide (vs.map (·.1) = ps.map (·.1)) = true from decide_eq_true MP.out.symm] at hc
                refine hc.mono ?_
                clear hc
                rintro e w82 ⟨rfl, b5⟩
                replace SV := Lib.hid (SV.out.next b5)
                replace SP := Lib.hid (SP.out.next b5)
                replace SS := Lib.hid (SS.out.next b5)
                replace SQ := Lib.hid (SQ.out.next b5)
                replace SW := Lib.hid (SW.out.next b5)
                replace KW := Lib.hid (KW.out.next b5)
                replace B := Lib.hid (thn B.out b5)
                clear b5
                go_wp2_with fail
                have hc := descs_any As ns cs ss Aq nq cq qs w82 SS.out SQ.out
                rw [show decide (ss.map (·.1) = qs.map (·.1)) = true from decide_eq_true MQ.out.symm] at hc
                refine hc.mono ?_
                clear hc
                rintro e w83 ⟨rfl, b5⟩
                replace SV := Lib.hid (SV.out.next b5)
                replace SP := Lib.hid (SP.out.next b5)
                replace SS := Lib.hid (SS.out.next b5)
                replace SQ := Lib.hid (SQ.out.next b5)
                replace SW := Lib.hid (SW.out.next b5)
                replace KW := Lib.hid (KW.out.next b5)
                replace B := Lib.hid (thn B.out b5)
                clear b5
                obtain ⟨KW0, KW1, KW2, KW3⟩ := KW.out.cells
                go_wp2_with fail
                have hc := descs_any Aw nw cw ws Aq nq cq qs w83 SW.out SQ.out
                rw [show decide (ws.map (·.1) = qs.map (·.1)) = true from decide_eq_true (MW.out.trans MQ.out.symm)] at hc
                refine hc.mono ?_
                clear hc
                rintro e w84 ⟨rfl, b5⟩
                clear KW0 KW1 KW2 KW3
                replace SV := Lib.hid (SV.out.next b5)
                replace SP := Lib.hid (SP.out.next b5)
                replace SS := Lib.hid (SS.out.next b5)
                replace SQ := Lib.hid (SQ.out.next b5)
                replace SW := Lib.hid (SW.out.next b5)
                replace KW := Lib.hid (KW.out.next b5)
                replace B := Lib.hid (thn B.out b5)
                clear b5
                go_wp2_with fail
                have hc := awake_any w84
                refine hc.mono ?_
                clear hc
                rintro e w85 ⟨rfl, b5⟩
                replace SV := Lib.hid (SV.out.next b5)
                replace SP := Lib.hid (SP.out.next b5)
                replace SS := Lib.hid (SS.out.next b5)
                replace SQ := Lib.hid (SQ.out.next b5)
                replace SW := Lib.hid (SW.out.next b5)
                replace KW := Lib.hid (KW.out.next b5)
                replace B := Lib.hid (thn B.out b5)
                clear b5
                go_wp2
                go_ret
                exact ⟨rfl, B.out⟩
        simp only [List.take_succ_cons, List.take_zero]
        refine ⟨?r9g0, ?r9g1, ?r9g2, ?r9g3, ?r9g4, ?r9g5, ?r9g6, ?r9g7, ?r9g8, ?r9g9, ?r9g10, ?r9g11, ?r9g12, ?r9g13, ?r9g14, ?r9g15, trivial⟩
        case r9g0 =>
          intro w9 hb
          refine over_nil ?_
          go_wp2
          first | exact post_of (by rfl) (by rfl) (Below.refl _ _) (by rfl) | exact rfl
        case r9g1 =>
          intro w9 hb
          refine over_some (ds1 := [72]) (ds2 := []) [(.pointer (some ⟨gKT, 3, none⟩))] (by kernel_rfl) ?_
          refine over_nil ?_
          simp only [putAll, put_lit, List.set_cons_succ, List.set_cons_zero]
          obtain ⟨p0, q0, r0, s0⟩ := (KT.out.next hb).cells
          go_wp2
          first | exact post_of (by rfl) (by rfl) (Below.refl _ _) (by rfl) | exact rfl
        case r9g2 =>
          intro w9 hb
          refine over_nil ?_
          go_wp2
          first | exact post_of (by rfl) (by rfl) (Below.refl _ _) (by rfl) | exact rfl
        case r9g3 =>
          intro w9 hb
          refine over_nil ?_
          go_wp2
          first | exact post_of (by rfl) (by rfl) (Below.refl _ _) (by rfl) | exact rfl
        case r9g4 =>
          intro w9 hb
          refine over_some (ds1 := [75]) (ds2 := []) [(.pointer (some ⟨gKX, 3, none⟩))] (by kernel_rfl) ?_
          refine over_nil ?_
          simp only [putAll, put_lit, List.set_cons_succ, List.set_cons_zero]
          obtain ⟨p0, q0, r0, s0⟩ := (KX.out.next hb).cells
          go_wp2
          first | exact post_of (by rfl) (by rfl) (Below.refl _ _) (by rfl) | exact rfl
        case r9g5 =>
          intro w9 hb
          refine over_nil ?_
          go_wp2
          first | exact post_of (by rfl) (by rfl) (Below.refl _ _) (by rfl) | exact rfl
        case r9g6 =>
          intro w9 hb
          refine over_nil ?_
          obtain ⟨p0, q0, r0, s0⟩ := (KD9.out.next hb).cells
          go_wp2
          first | exact post_of (by rfl) (by rfl) (Below.refl _ _) (by rfl) | exact rfl
        case r9g7 =>
          intro w9 hb
          refine over_nil ?_
          go_wp2
          first | exact post_of (by rfl) (by rfl) (Below.refl _ _) (by rfl) | exact rfl
        case r9g8 =>
          intro w9 hb
          refine over_some (ds1 := [77, 78, 79]) (ds2 := []) [(.slice Av nv cv), (.agg #[.int .u8 d.1, .int .u16 d.2.1, .int .u8 d.2.2.1, .slice hd.1 hd.2.1 hd.2.2]), (.int .u8 self)] (by kernel_rfl) ?_
          refine over_nil ?_
          simp only [putAll, put_lit, List.set_cons_succ, List.set_cons_zero]
          go_wp2_with fail
          refine (admit_any Av nv cv vs d hd self 20 w9 (SV9.out.next hb) HFV.out (Sn.next F9.out hb) F1D.out HRV.out).mono ?_
          rintro e w8 ⟨A8, n8, c8, z8, rfl, m8, d8, b6⟩
          have E8 := Lib.hid (d8.e (Nat.le_trans HB9.out hb.size))
          clear m8 d8
          go_wp2
          exact post_of (by rfl) (by rfl) b6 (by exact ⟨_, _, _, _, rfl, E8.out⟩)
        case r9g9 =>
          intro w9 hb
          refine over_nil ?_
          go_wp2
          first | exact post_of (by rfl) (by rfl) (Below.refl _ _) (by rfl) | exact rfl
        case r9g10 =>
          intro w9 hb
          refine over_nil ?_
          go_wp2
          first | exact post_of (by rfl) (by rfl) (Below.refl _ _) (by rfl) | exact rfl
        case r9g11 =>
          intro w9 hb
          refine over_nil ?_
          go_wp2
          first | exact post_of (by rfl) (by rfl) (Below.refl _ _) (by rfl) | exact rfl
        case r9g12 =>
          intro w9 hb
          refine over_some (ds1 := [81, 82, 83]) (ds2 := []) [(.slice Av nv cv), (.slice As ns cs), (.int .u8 self)] (by kernel_rfl) ?_
          refine over_nil ?_
          simp only [putAll, put_lit, List.set_cons_succ, List.set_cons_zero]
          go_wp2_with fail
          refine (fill_any Av nv cv vs As ns cs ss self 20 w9 (SV9.out.next hb) HFV.out (SS9.out.next hb) HFS.out (by decide) HRV.out).mono ?_
          rintro e w8 ⟨A8, n8, c8, z8, rfl, m8, d8, b6⟩
          have E8 := Lib.hid (d8.e (Nat.le_trans HB9.out hb.size))
          clear m8 d8
          go_wp2
          exact post_of (by rfl) (by rfl) b6 (by exact ⟨_, _, _, _, rfl, E8.out⟩)
        case r9g13 =>
          intro w9 hb
          refine over_some (ds1 := [73, 74, 76]) (ds2 := [80, 84]) [(.slice At nt ct), (.slice Aku nku cku), (.slice Ax nx cx)] (by kernel_rfl) ?_
          refine over_pred rfl ?_
          rintro _ ⟨A80, n80, c80, hs80, rfl, s80⟩
          refine over_pred rfl ?_
          rintro _ ⟨A84, n84, c84, hs84, rfl, s84⟩
          refine over_nil ?_
          simp only [putAll, put_lit, List.set_cons_succ, List.set_cons_zero]
          have E80 := Lib.hid s80
          have E84 := Lib.hid s84
          clear s80 s84
          go_wp2
          exact post_of (by rfl) (by rfl) (below_lit _ _) (by exact ⟨_, rfl, five_lit w9 (ET.out.next hb) (EK.out.next hb) (EX.out.next hb) E80.out E84.out⟩)
        case r9g14 =>
          intro w9 hb
          refine over_pred rfl ?_
          rintro _ ⟨g85, rfl, s85⟩
          refine over_nil ?_
          simp only [put_lit, List.set_cons_succ, List.set_cons_zero]
          go_wp2
          first | exact post_of (by rfl) (by rfl) (Below.refl _ _) (by rfl) | exact rfl
        case r9g15 =>
          intro w9 hb
          refine over_nil ?_
          go_wp2
          first | exact post_of (by rfl) (by rfl) (Below.refl _ _) (by rfl) | exact rfl
end Go.Proofs.Ytdkchiodepdclaa
