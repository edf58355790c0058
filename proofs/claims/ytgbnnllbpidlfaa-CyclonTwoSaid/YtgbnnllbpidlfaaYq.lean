/- Layer 10: CyclonTwo. -/
import Derived.Test.YtgbnnllbpidlfaaYo
import Derived.Test.YtgbnnllbpidlfaaYs
namespace Go.Proofs.Ytgbnnllbpidlfaa
open Go.RowKit
set_option linter.unusedVariables false
abbrev d201 : Dsc := (201, 1, 255, [])
abbrev d200 : Dsc := (200, 1, 0, [])
set_option maxRecDepth 100000 in
set_option maxHeartbeats 40000000 in
theorem two_walk (A : Option Addr) (n c : Nat) (xs : List (Dsc × Hd)) (Ag : Option Addr) (ng cg : Nat) (gs : List (Dsc × Hd)) (room : Int) (Ad : Option Addr) (nd cd : Nat) (rs : List Int) (w : World) (h : Sds w A n c xs) (hR : ∀ x ∈ xs, dscR x.1) (hg : Sds w Ag ng cg gs) (hRg : ∀ x ∈ gs, dscR x.1) (hrm : byt room) (hd : Su w Ad nd cd rs) (hr : drawR rs) :
    Calls Try.prog 7 #[.slice A n c, .slice Ag ng cg, .int .u8 room, .slice Ad nd cd] w fun e w' => e = .returned (.bool true) ∧ Below w.heap.size w w' := by
  have HL := Lib.hid h.len
  have HLg := Lib.hid hg.len
  have HR := Lib.hid hR
  have HRg := Lib.hid hRg
  have HS := Lib.hid h
  have HG := Lib.hid hg
  have HD := Lib.hid hd
  have HDR := Lib.hid hr
  have B := Lib.hid (Below.refl w.heap.size w)
  obtain ⟨f1, HF1⟩ : ∃ f, Hid (fewB (xs.map (·.1)) = f) := ⟨_, rfl⟩
  obtain ⟨f2, HF2⟩ : ∃ f, Hid (fewB (gs.map (·.1)) = f) := ⟨_, rfl⟩
  obtain ⟨r0, hrm1⟩ : ∃ r, Int.tmod room 8 = r := ⟨_, rfl⟩
  have rm0 : 0 ≤ r0 := by rw [← hrm1]; exact Int.tmod_nonneg _ hrm.1
  have rm1 : r0 ≤ 7 := by rw [← hrm1]; have := Int.tmod_lt_of_pos room (show (0 : Int) < 8 by decide); omega
  obtain ⟨rm, hrm2⟩ : ∃ r, 1 + r0 = r := ⟨_, rfl⟩
  have rm2 : 1 ≤ rm := by omega
  have rm3 : rm ≤ 8 := by omega
  obtain ⟨hrmL, hrmU⟩ := hrm
  clear h hR hg hRg hd hr
  go_enter Try.func7, Try.ntmps7
  go_wp2_with fail
  have hc := few_any A n c xs w HS.out
  rw [HF1.out] at hc
  refine hc.mono ?_
  clear hc
  rintro e w1 ⟨rfl, b5⟩
  replace B := Lib.hid (thn B.out b5)
  clear b5
  cases f1
  · skip
    go_wp2_with fail
    have hc := awake_any w1
    refine hc.mono ?_
    clear hc
    rintro e w2 ⟨rfl, b5⟩
    replace B := Lib.hid (thn B.out b5)
    clear b5
    go_wp2
    go_ret
    exact ⟨rfl, B.out⟩
  · skip
    go_wp2_with fail
    have hc := few_any Ag ng cg gs w1 (HG.out.next B.out)
    rw [HF2.out] at hc
    refine hc.mono ?_
    clear hc
    rintro e w2 ⟨rfl, b5⟩
    replace B := Lib.hid (thn B.out b5)
    clear b5
    cases f2
    · skip
      go_wp2_with fail
      have hc := awake_any w2
      refine hc.mono ?_
      clear hc
      rintro e w3 ⟨rfl, b5⟩
      replace B := Lib.hid (thn B.out b5)
      clear b5
      go_wp2
      go_ret
      exact ⟨rfl, B.out⟩
    · skip
      by_cases hnd : (30 : Int) < (nd : Int)
      · skip
        go_wp2_with fail
        have hc := awake_any w2
        refine hc.mono ?_
        clear hc
        rintro e w3 ⟨rfl, b5⟩
        replace B := Lib.hid (thn B.out b5)
        clear b5
        go_wp2
        go_ret
        exact ⟨rfl, B.out⟩
      · skip
        have HFX := Lib.hid (few_fit HF1.out HL.out HR.out)
        have HFG := Lib.hid (few_fit HF2.out HLg.out HRg.out)
        go_wp2_with fail
        have hc := view_any A n c xs 200 rm w2 (HS.out.next B.out) HR.out (by omega)
        refine hc.mono ?_
        clear hc
        rintro e w3 ⟨Av, nv, cv, vs, rfl, hv, sv, b5⟩
        have SV := Lib.hid (sv.sds)
        have HV := Lib.hid (hv)
        replace B := Lib.hid (thn B.out b5)
        clear b5
        clear sv hv
        have HFV : Hid (Fit nv vs) := view_fit HV.out HFX.out (by omega) SV.out.len
        have HRV : Hid (RightD (vs.map (·.1)) 200 rm) := HV.out.right
        have HLV := Lib.hid SV.out.len
        have nv8 : (nv : Int) ≤ rm := by have := HRV.out.2.2.2; rw [List.length_map, ← HLV.out] at this; exact this
        have hvm := SV.out.max
        have hvc := SV.out.cap
        unfold maxLen at hvm
        go_wp2
        go_loopw [10, 12, 48] (fun s10 _ s48 wr => ∃ (j : Nat) (A2 : Option Addr) (c2 : Nat), j ≤ nv ∧ s10 = .slice A2 j c2 ∧ s48 = .int .i64 j ∧ Hid (Ows wr w3.heap.size 34 4 A2 j c2 (dcs (hiL vs j))) ∧ Hid (Below w3.heap.size w3 wr)) (fun _ _ s48 _ => nv - (intOf s48).toNat)
        case atStart => exact ⟨0, none, 0, Nat.zero_le _, rfl, rfl, Ows.nil _ _ _ _, Below.refl _ _⟩
        case round =>
          obtain ⟨j, A2, c2, hj, rfl, rfl, OA, BL⟩ := hrel
          obtain ⟨v3, rfl⟩ : ∃ v, v = wr := ⟨_, rfl⟩
          have i0 : (0 : Int) ≤ (j : Int) := by omega
          have HNQ : Hid (∀ q, Value.ownBlock (.slice A2 j c2) = some q → q ≠ v3.heap.size) := fun q hq e => by have := (OA.out.near q hq).2; omega
          have HVG : Hid (w3.heap.size ≤ v3.heap.size) := BL.out.size
          by_cases hlt : j < nv
          · skip
            as_aux_lemma =>
              have i1 : (j : Int) < (nv : Int) := by omega
              obtain ⟨b, off, x, hA, hb, hx, hxm, c0, c1, c2', c3'⟩ := (SV.out.next BL.out).at_ hlt
              subst hA
              have FX := Lib.hid (SV.out.fl x hxm)
              have i25 := (HFV.out.all x hxm).1.2.2
              have HT : Hid (hiL vs (j + 1) = hiL vs j ++ [a250 x]) := by unfold Hid hiL; rw [List.take_add_one, List.getElem?_map, hx]; rfl
              obtain ⟨i25a, i25b⟩ := i25
              clear hx hxm hb
              go_upto_region 8 with fail
              clear c0 c1 c2' c3'
              have hbl := below_lit v3 (.cells #[.int .u8 x.1.1, .int .u16 x.1.2.1, .int .u8 x.1.2.2.1, .slice x.2.1 x.2.2.1 x.2.2.2] 34)
              replace OA := Lib.hid (OA.out.below hbl)
              replace BL := Lib.hid (thn BL.out hbl)
              have K : Hid (DBlk (v3.alloc (.cells #[.int .u8 x.1.1, .int .u16 x.1.2.1, .int .u8 x.1.2.2.1, .slice x.2.1 x.2.2.1 x.2.2.2] 34)) v3.heap.size x.1 x.2) := DBlk.new v3 x.1 x.2
              skip
              clear hbl
              generalize v3.alloc (.cells #[.int .u8 x.1.1, .int .u16 x.1.2.1, .int .u8 x.1.2.2.1, .slice x.2.1 x.2.2.1 x.2.2.2] 34) = v4 at *
              obtain ⟨g, hg⟩ : ∃ g, v3.heap.size = g := ⟨_, rfl⟩
              rw [hg] at K HNQ HVG ⊢
              clear hg
              obtain ⟨m, hmin⟩ : ∃ m, min x.1.2.2.1 250 = m := ⟨_, rfl⟩
              have HMI := Lib.hid hmin
              obtain ⟨p0, p1, p2, p3⟩ := K.out.cells
              have r2 := K.out.free 2
              go_upto_region 9 with fail
              clear p0 p1 p2 p3 r2
              have hgs := grown_set v4 g 2 (.int .u8 m)
              replace OA := Lib.hid (OA.out.grown hgs HNQ.out)
              replace BL := Lib.hid (belowG BL.out hgs BL.out.size HVG.out)
              replace K := Lib.hid (K.out.put2 m)
              clear hgs
              generalize v4.setCell ⟨g, 2, none⟩ (.int .u8 m) = v5 at *
              obtain ⟨p0, p1, p2, p3⟩ := K.out.cells
              dsimp only at p0 p1 p2 p3
              have SZ := Lib.hid BL.out.size
              go_wp2_with (at_builtin; go_must (refine wpList_appsx rfl _ _ 22 rfl Try.underlying22 infoD rfl (by decide) rfl (Ows.below OA.out (below_lit _ _)) rfl (Sn.lit v5 #[.int .u8 x.1.1, .int .u16 x.1.2.1, .int .u8 m, .slice x.2.1 x.2.2.1 x.2.2.2] 34 (0, 0) 4 1 rfl (by decide)) (dcl_one ((x.1.1, x.1.2.1, m, x.1.2.2.2), x.2)) (by omega) (by decide) (Nat.le_trans SZ.out (below_lit _ _).size) ?_); intro A3 c3 v6 o5 g5)
              have hbl := below_lit v5 (.cells #[.int .u8 x.1.1, .int .u16 x.1.2.1, .int .u8 m, .slice x.2.1 x.2.2.1 x.2.2.2] 34)
              have B5 := Lib.hid ((BL.out.alloc SZ.out _).grown g5 (Nat.le_trans SZ.out hbl.size) (Ows.below OA.out hbl).lt)
              have O5 : Hid (Ows v6 w3.heap.size 34 4 A3 (j + 1) c3 (dcs (hiL vs (j + 1)))) := by unfold Hid; rw [HT.out, dcs_append, dcs_cons, dcs_nil, List.append_nil]; unfold a250; rw [HMI.out]; exact o5
              clear o5 g5 hbl
              go_roundw
              case rel => exact ⟨j + 1, A3, c3, by omega, rfl, by go_num, O5, B5⟩
              case measure => simp [intOf]; omega
          · skip
            obtain rfl : nv = j := by omega
            clear HNQ HVG
            replace SV := Lib.hid (SV.out.next BL.out)
            replace B := Lib.hid (thn B.out BL.out)
            clear BL
            obtain ⟨hi, hhi⟩ : ∃ hi : Nat, min (nv : Int) (rm - 1) = (hi : Int) := ⟨(min (nv : Int) (rm - 1)).toNat, by omega⟩
            have hi1 : hi ≤ nv := by omega
            have hi2 : (hi : Int) + 1 ≤ rm := by omega
            have hac := Sn.cap (Sn.of_own OA.out)
            have hup := fun w' : World => run_upto (P := Try.prog) (w := w') (A := A2) (n := nv) (c := c2) (hi := hi) 22 34 Try.underlying22 rfl 4 (fun w' => Try.sizeOf34 w') .i64 (hi : Int) rfl (by omega)
            have HF1 : Hid (∀ x ∈ vs, Fit1 x.1) := HFV.out.all
            have SH : Hid (Sds v3 A2 hi c2 (hiL vs hi)) := ⟨by have h1 := (Sn.of_own OA.out).upto hi1; rw [dcs_take] at h1; unfold hiL at h1 ⊢; rw [List.take_take, Nat.min_eq_left hi1] at h1; exact h1, fun z hz => by obtain ⟨x, hx, rfl⟩ := hi_mem hz; exact SV.out.fl x hx⟩
            have HRH := Lib.hid (hi_right HRV.out hi)
            have HFH : Hid (Fit hi (hiL vs hi)) := ⟨by omega, fun z hz => (hi_fit1 HF1.out z hz).1⟩
            clear OA hac
            have SV0 := Lib.hid SV.out
            have B0 := Lib.hid B.out
            go_wp2_with fail
            have hc := drop_any A2 hi c2 (hiL vs hi) 201 v3 SH.out HFH.out ⟨200, rm, HRH.out⟩
            refine hc.mono ?_
            clear hc
            rintro e w11 ⟨Ax, nx, cx, zx, rfl, mx, dx, b5⟩
            have DX := Lib.hid (dx)
            have MX := Lib.hid (mx)
            have LXB := Lib.hid (b5)
            replace SV := Lib.hid (SV.out.next b5)
            replace SH := Lib.hid (SH.out.next b5)
            replace B := Lib.hid (thn B.out b5)
            clear b5
            clear dx mx
            clear SH hup
            have nx1 : nx ≤ hi := by have h1 := DX.out.len; have h2 := congrArg List.length MX.out; rw [List.length_map] at h2; have h3 := drop_le (ds := (hiL vs hi).map (·.1)) 201; rw [List.length_map] at h3; have h4 : (hiL vs hi).length ≤ hi := List.length_take_le _ _; omega
            have SZ : Hid (v3.heap.size ≤ w11.heap.size) := LXB.out.size
            go_wp2_with (at_builtin; go_must (refine wpList_appsx rfl _ _ 22 rfl Try.underlying22 infoD rfl (by decide) rfl (Ows.below DX.out.ow (below_lit _ _)) rfl (Sn.lit w11 #[.int .u8 201, .int .u16 1, .int .u8 255, .slice none 0 0] 34 (0, 0) 4 1 rfl (by decide)) (dcl_one (d201, (none, 0, 0))) (by omega) (by decide) (Nat.le_trans SZ.out (below_lit _ _).size) ?_); intro Aa ca v6 o5 g5)
            have hbl := below_lit w11 (.cells #[.int .u8 201, .int .u16 1, .int .u8 255, .slice none 0 0] 34)
            have DA := Lib.hid (Dow.app (d := d201) (hd := (none, 0, 0)) DX.out hbl (Ows.nil _ _ _ _) o5 g5)
            have b5 : Below v3.heap.size v3 v6 := (LXB.out.alloc SZ.out _).grown g5 (Nat.le_trans SZ.out hbl.size) (Ows.below DX.out.ow hbl).lt
            clear o5 g5 hbl
            replace SV := Lib.hid (SV0.out.next b5)
            replace B := Lib.hid (thn B0.out b5)
            clear b5 SV0 B0 LXB DX
            have SA := Lib.hid DA.out.sds
            clear DA
            have MA : Hid ((zx ++ [(d201, ((none, 0, 0) : Hd))]).map (·.1) = twoL vs hi) := by unfold Hid twoL; rw [List.map_append, MX.out]; rfl
            generalize zx ++ [(d201, ((none, 0, 0) : Hd))] = za at *
            have HLA := Lib.hid SA.out.len
            obtain ⟨na, hna⟩ : ∃ na, nx + 1 = na := ⟨_, rfl⟩
            rw [hna] at SA HLA ⊢
            have na8 : (na : Int) ≤ rm := by omega
            clear hna
            have HFA : Hid (Fit na za) := fit_of MA.out (by omega) (two_fit1 HF1.out)
            go_wp2_with fail
            have hc := view_any Ag ng cg gs 201 rm v6 (HG.out.next B.out) HRg.out (by omega)
            refine hc.mono ?_
            clear hc
            rintro e w21 ⟨Ab, nb, cb, vb, rfl, hv, sv, b5⟩
            have SB := Lib.hid (sv.sds)
            have HVB := Lib.hid (hv)
            replace SV := Lib.hid (SV.out.next b5)
            replace SA := Lib.hid (SA.out.next b5)
            replace B := Lib.hid (thn B.out b5)
            clear b5
            clear sv hv
            have HFB : Hid (Fit nb vb) := view_fit HVB.out HFG.out (by omega) SB.out.len
            have HRB : Hid (RightD (vb.map (·.1)) 201 rm) := HVB.out.right
            have HLB := Lib.hid SB.out.len
            have nb8 : (nb : Int) ≤ rm := by have := HRB.out.2.2.2; rw [List.length_map, ← HLB.out] at this; exact this
            obtain ⟨z, HZ⟩ : ∃ z, Hid (decide (RightD (twoL vs hi) 200 rm) = z) := ⟨_, rfl⟩
            go_wp2_with fail
            have hc := right_any Aa na ca za 200 rm w21 SA.out (by omega)
            rw [MA.out, HZ.out] at hc
            refine hc.mono ?_
            clear hc
            rintro e w22 ⟨rfl, b5⟩
            replace SV := Lib.hid (SV.out.next b5)
            replace SA := Lib.hid (SA.out.next b5)
            replace SB := Lib.hid (SB.out.next b5)
            replace B := Lib.hid (thn B.out b5)
            clear b5
            cases z
            · skip
              go_wp2_with fail
              have hc := awake_any w22
              refine hc.mono ?_
              clear hc
              rintro e w23 ⟨rfl, b5⟩
              replace SV := Lib.hid (SV.out.next b5)
              replace SA := Lib.hid (SA.out.next b5)
              replace SB := Lib.hid (SB.out.next b5)
              replace B := Lib.hid (thn B.out b5)
              clear b5
              go_wp2
              go_ret
              exact ⟨rfl, B.out⟩
            · skip
              have HRA : Hid (RightD (za.map (·.1)) 200 rm) := by unfold Hid; rw [MA.out]; exact of_decide_eq_true HZ.out
              have HAK := Lib.hid (two_ask HF1.out (hi := hi) rm2 rs)
              go_wp2_with fail
              have hc := ask_any Aa na ca za (200, 1, 0, []) (none, 0, 0) rm Ad nd cd rs w22 SA.out HFA.out (fl_nil _ _ rfl) ⟨by simp [dscR], by decide⟩ (by omega) (Su.next HD.out B.out) HDR.out
              rw [MA.out, HAK.out] at hc
              refine hc.mono ?_
              clear hc
              rintro e w23 ⟨As, ns, cs, zs, rfl, ms, ds, b5⟩
              have SS := Lib.hid (ds.sds)
              have MS := Lib.hid (ms)
              replace SV := Lib.hid (SV.out.next b5)
              replace SA := Lib.hid (SA.out.next b5)
              replace SB := Lib.hid (SB.out.next b5)
              replace B := Lib.hid (thn B.out b5)
              clear b5
              clear ds ms
              have nsle : ns ≤ 100 := by have h1 := SS.out.len; have h2 := congrArg List.length MS.out; rw [List.length_map, List.length_cons] at h2; have h3 := pick_le rs (dropD (twoL vs hi) 201) (rm - 1); have h4 := drop_le (ds := twoL vs hi) 201; have h5 := congrArg List.length MA.out; rw [List.length_map] at h5; have := HLA.out; omega
              have HFS : Hid (Fit ns zs) := fit_of MS.out (by omega) fun d hd => by rcases List.mem_cons.1 hd with rfl | hd; exact ⟨by simp [dscR], by simp⟩; exact two_fit1 HF1.out d (dropD_mem.1 (pick_mem hd)).1
              go_wp2_with fail
              have hc := pick_any Ab nb cb vb rm 200 Ad nd cd rs w23 SB.out HFB.out (Su.next HD.out B.out) HDR.out
              refine hc.mono ?_
              clear hc
              rintro e w24 ⟨Ak, nk, ck, zk, rfl, mk, dk, b5⟩
              have SK := Lib.hid (dk.sds)
              have MK := Lib.hid (mk)
              replace SV := Lib.hid (SV.out.next b5)
              replace SA := Lib.hid (SA.out.next b5)
              replace SB := Lib.hid (SB.out.next b5)
              replace SS := Lib.hid (SS.out.next b5)
              replace B := Lib.hid (thn B.out b5)
              clear b5
              clear dk mk
              have nkle : nk ≤ 100 := by have h1 := SK.out.len; have h2 := congrArg List.length MK.out; rw [List.length_map] at h2; have h3 := pick_le rs (dropD (vb.map (·.1)) 200) rm; have h4 := drop_le (ds := vb.map (·.1)) 200; rw [List.length_map] at h4; have := HLB.out; omega
              have HFK : Hid (Fit nk zk) := fit_of MK.out (by omega) fun d hd => by obtain ⟨y, hy, rfl⟩ := List.mem_map.1 (dropD_mem.1 (pick_mem hd)).1; exact HFB.out.all y hy
              obtain ⟨Mp, HMp⟩ : ∃ m, Hid (mergeD (za.map (·.1)) (zk.map (·.1)) (zs.map (·.1)) 200 rm = m) := ⟨_, rfl⟩
              have HSp := Lib.hid (merge_says (got := zk.map (·.1)) (sent := zs.map (·.1)) HRA.out)
              rw [HMp.out] at HSp
              go_wp2_with fail
              have hc := merge_any Aa na ca za Ak nk ck zk As ns cs zs 200 rm w24 SA.out HFA.out SK.out HFK.out SS.out HFS.out (by omega) HRA.out
              rw [HMp.out] at hc
              refine hc.mono ?_
              clear hc
              rintro e w25 ⟨Ap, np, cp, zp, rfl, mp, dp, b5⟩
              have Sp := Lib.hid (dp.sds)
              have Ep := Lib.hid (mp)
              replace SV := Lib.hid (SV.out.next b5)
              replace SA := Lib.hid (SA.out.next b5)
              replace SB := Lib.hid (SB.out.next b5)
              replace SS := Lib.hid (SS.out.next b5)
              replace SK := Lib.hid (SK.out.next b5)
              replace B := Lib.hid (thn B.out b5)
              clear b5
              clear dp mp
              have HLp : Hid (np = Mp.length) := by unfold Hid; rw [Sp.out.len, ← Ep.out, List.length_map]
              obtain ⟨Mq, HMq⟩ : ∃ m, Hid (mergeD (vb.map (·.1)) (zs.map (·.1)) (zk.map (·.1)) 201 rm = m) := ⟨_, rfl⟩
              have HSq := Lib.hid (merge_says (got := zs.map (·.1)) (sent := zk.map (·.1)) HRB.out)
              rw [HMq.out] at HSq
              go_wp2_with fail
              have hc := merge_any Ab nb cb vb As ns cs zs Ak nk ck zk 201 rm w25 SB.out HFB.out SS.out HFS.out SK.out HFK.out (by omega) HRB.out
              rw [HMq.out] at hc
              refine hc.mono ?_
              clear hc
              rintro e w26 ⟨Aq, nq, cq, zq, rfl, mq, dq, b5⟩
              have Sq := Lib.hid (dq.sds)
              have Eq := Lib.hid (mq)
              replace SV := Lib.hid (SV.out.next b5)
              replace SA := Lib.hid (SA.out.next b5)
              replace SB := Lib.hid (SB.out.next b5)
              replace SS := Lib.hid (SS.out.next b5)
              replace SK := Lib.hid (SK.out.next b5)
              replace Sp := Lib.hid (Sp.out.next b5)
              replace B := Lib.hid (thn B.out b5)
              clear b5
              clear dq mq
              have HLq : Hid (nq = Mq.length) := by unfold Hid; rw [Sq.out.len, ← Eq.out, List.length_map]
              have hp1 : ¬ (np : Int) < (na : Int) := by have h1 := HSp.out.more; rw [List.length_map, ← HLA.out, ← HLp.out] at h1; omega
              have hp2 : ¬ np < na := by omega
              have hp3 : decide (np < na) = false := decide_eq_false hp2
              have hq1 : ¬ (nq : Int) < (nb : Int) := by have h1 := HSq.out.more; rw [List.length_map, ← HLB.out, ← HLq.out] at h1; omega
              have hq2 : ¬ nq < nb := by omega
              have hq3 : decide (nq < nb) = false := decide_eq_false hq2
              go_wp2_with fail
              have hc := right_any Ap np cp zp 200 rm w26 Sp.out (by omega)
              rw [show decide (RightD (zp.map (·.1)) 200 rm) = true from decide_eq_true (by rw [Ep.out]; exact HSp.out.right)] at hc
              refine hc.mono ?_
              clear hc
              rintro e w27 ⟨rfl, b5⟩
              replace SV := Lib.hid (SV.out.next b5)
              replace SA := Lib.hid (SA.out.next b5)
              replace SB := Lib.hid (SB.out.next b5)
              replace SS := Lib.hid (SS.out.next b5)
              replace SK := Lib.hid (SK.out.next b5)
              replace Sp := Lib.hid (Sp.out.next b5)
              replace Sq := Lib.hid (Sq.out.next b5)
              replace B := Lib.hid (thn B.out b5)
              clear b5
              go_wp2_with fail
              have hc := right_any Aq nq cq zq 201 rm w27 Sq.out (by omega)
              rw [show decide (RightD (zq.map (·.1)) 201 rm) = true from decide_eq_true (by rw [Eq.out]; exact HSq.out.right)] at hc
              refine hc.mono ?_
              clear hc
              rintro e w28 ⟨rfl, b5⟩
              replace SV := Lib.hid (SV.out.next b5)
              replace SA := Lib.hid (SA.out.next b5)
              replace SB := Lib.hid (SB.out.next b5)
              replace SS := Lib.hid (SS.out.next b5)
              replace SK := Lib.hid (SK.out.next b5)
              replace Sp := Lib.hid (Sp.out.next b5)
              replace Sq := Lib.hid (Sq.out.next b5)
              replace B := Lib.hid (thn B.out b5)
              clear b5
              have HFQ : Hid (Fit nq zq) := fit_of Eq.out (by have := HSq.out.right.2.2.2; rw [← HLq.out] at this; omega) fun d hd => (HSq.out.of_ d hd).elim (fun h => by obtain ⟨y, hy, rfl⟩ := List.mem_map.1 h; exact HFB.out.all y hy) (fun h => by obtain ⟨y, hy, rfl⟩ := List.mem_map.1 h; exact HFS.out.all y hy)
              have HIN : Hid (MayIn (vb.map (·.1)) (zk.map (·.1)) (zs.map (·.1)) rm → 0 ≤ findI (zq.map (·.1)) 200) := fun hm => by
                have h1 : hasN Mq 200 = true := by
                  rw [← HMq.out, MK.out, MS.out]
                  rw [MK.out, MS.out] at hm
                  exact two_in HRB.out hm
                rw [Eq.out]
                exact of_decide_eq_true h1
              have hkm := SK.out.max
              have hkc := SK.out.cap
              have hsm := SS.out.max
              have hsc := SS.out.cap
              unfold maxLen at hkm hsm
              by_cases hbn : (nb : Int) < rm
              · skip
                have HM0 : Hid (MayIn (vb.map (·.1)) (zk.map (·.1)) (zs.map (·.1)) rm) := .inl (by rw [List.length_map, ← HLB.out]; exact hbn)
                as_aux_lemma =>
                  have HLS := Lib.hid SS.out.len
                  go_wp2
                  go_loopw [20, 22, 23, 144] (fun s20 _ _ s144 wr => ∃ (j : Nat) (m : Bool), j ≤ nk ∧ s20 = .bool m ∧ s144 = .int .i64 j ∧ Hid (m = true → MayIn (vb.map (·.1)) (zk.map (·.1)) (zs.map (·.1)) rm) ∧ Hid (Below w28.heap.size w28 wr)) (fun _ _ _ s144 _ => nk - (intOf s144).toNat)
                  case atStart => exact ⟨0, true, Nat.zero_le _, rfl, rfl, (fun h => HM0.out), Below.refl _ _⟩
                  case round =>
                    clear HM0
                    obtain ⟨j, m, hj, rfl, rfl, HM, BL⟩ := hrel
                    obtain ⟨v5, rfl⟩ : ∃ v, v = wr := ⟨_, rfl⟩
                    have i0 : (0 : Int) ≤ (j : Int) := by omega
                    by_cases hlt : j < nk
                    · skip
                      as_aux_lemma =>
                        have i1 : (j : Int) < (nk : Int) := by omega
                        obtain ⟨b, off, x, hA, hb, hx, hxm, c0, c1, c2', c3'⟩ := (SK.out.next BL.out).at_ hlt
                        subst hA
                        have HXK : Hid (x.1 ∈ zk.map (·.1)) := List.mem_map.2 ⟨x, hxm, rfl⟩
                        clear hx hxm hb
                        go_upto_region 27 with fail
                        clear c0 c1 c2' c3'
                        have hbl := below_lit v5 (.cells #[.int .u8 x.1.1, .int .u16 x.1.2.1, .int .u8 x.1.2.2.1, .slice x.2.1 x.2.2.1 x.2.2.2] 34)
                        replace BL := Lib.hid (thn BL.out hbl)
                        have K : Hid (DBlk (v5.alloc (.cells #[.int .u8 x.1.1, .int .u16 x.1.2.1, .int .u8 x.1.2.2.1, .slice x.2.1 x.2.2.1 x.2.2.2] 34)) v5.heap.size x.1 x.2) := DBlk.new v5 x.1 x.2
                        clear hbl
                        generalize v5.alloc (.cells #[.int .u8 x.1.1, .int .u16 x.1.2.1, .int .u8 x.1.2.2.1, .slice x.2.1 x.2.2.1 x.2.2.2] 34) = v6 at *
                        obtain ⟨g, hg⟩ : ∃ q, v5.heap.size = q := ⟨_, rfl⟩
                        rw [hg] at K ⊢
                        clear hg
                        go_wp2
                        go_loopw [23, 25, 150] (fun s23 _ s150 wq => ∃ (i : Nat) (b : Bool), i ≤ ns ∧ s23 = .bool b ∧ s150 = .int .i64 i ∧ Hid (b = false → ∀ y ∈ zs.take i, y.1.1 ≠ x.1.1) ∧ Hid (DBlk wq g x.1 x.2) ∧ Hid (Below w28.heap.size w28 wq)) (fun _ _ s150 _ => ns - (intOf s150).toNat)
                        case atStart => exact ⟨0, false, Nat.zero_le _, rfl, rfl, (fun _ y hy => by cases hy), K, BL⟩
                        case round =>
                          clear K BL
                          obtain ⟨i, b1, hi0, rfl, rfl, HI, K, BL⟩ := hrel
                          obtain ⟨v7, rfl⟩ : ∃ v, v = wr := ⟨_, rfl⟩
                          have j0 : (0 : Int) ≤ (i : Int) := by omega
                          by_cases hli : i < ns
                          · skip
                            as_aux_lemma =>
                              have j1 : (i : Int) < (ns : Int) := by omega
                              obtain ⟨bs, ofs, y, hA, hb, hy, hym, e0, e1, e2, e3⟩ := (SS.out.next BL.out).at_ hli
                              subst hA
                              have HY := Lib.hid hy
                              clear hy hym hb
                              go_upto_region 31 with fail
                              clear e0 e1 e2 e3
                              have hbl := below_lit v7 (.cells #[.int .u8 y.1.1, .int .u16 y.1.2.1, .int .u8 y.1.2.2.1, .slice y.2.1 y.2.2.1 y.2.2.2] 34)
                              replace K := Lib.hid (K.out.next hbl)
                              replace BL := Lib.hid (thn BL.out hbl)
                              have KY : Hid (DBlk (v7.alloc (.cells #[.int .u8 y.1.1, .int .u16 y.1.2.1, .int .u8 y.1.2.2.1, .slice y.2.1 y.2.2.1 y.2.2.2] 34)) v7.heap.size y.1 y.2) := DBlk.new v7 y.1 y.2
                              clear hbl
                              generalize v7.alloc (.cells #[.int .u8 y.1.1, .int .u16 y.1.2.1, .int .u8 y.1.2.2.1, .slice y.2.1 y.2.2.1 y.2.2.2] 34) = v8 at *
                              obtain ⟨g2, hg2⟩ : ∃ q, v7.heap.size = q := ⟨_, rfl⟩
                              rw [hg2] at KY ⊢
                              clear hg2
                              obtain ⟨p0, _, _, _⟩ := K.out.cells
                              obtain ⟨q0, _, _, _⟩ := KY.out.cells
                              cases b1
                              · skip
                                by_cases he : y.1.1 = x.1.1
                                · skip
                                  have heb : (y.1.1 == x.1.1) = true := by simp [he]
                                  clear he
                                  clear HI
                                  go_wp2
                                  go_roundw
                                  case rel => exact ⟨i + 1, true, by omega, rfl, by go_num, (fun h => by cases h), K, BL⟩
                                  case measure => simp [intOf]; omega
                                · skip
                                  have heb : (y.1.1 == x.1.1) = false := by simp [he]
                                  have HI2 : Hid (∀ z ∈ zs.take (i + 1), z.1.1 ≠ x.1.1) := take_last HY.out (HI.out rfl) he
                                  clear he HI
                                  go_wp2
                                  go_roundw
                                  case rel => exact ⟨i + 1, false, by omega, rfl, by go_num, (fun h => HI2.out), K, BL⟩
                                  case measure => simp [intOf]; omega
                              · skip
                                clear HI
                                go_wp2
                                go_roundw
                                case rel => exact ⟨i + 1, true, by omega, rfl, by go_num, (fun h => by cases h), K, BL⟩
                                case measure => simp [intOf]; omega
                          · skip
                            as_aux_lemma =>
                              obtain rfl : ns = i := by omega
                              cases m
                              · skip
                                cases b1
                                · skip
                                  have HM2 : Hid (MayIn (vb.map (·.1)) (zk.map (·.1)) (zs.map (·.1)) rm) := .inr (.inr ⟨x.1, HXK.out, hasN_false.2 fun d hd => by
                                    obtain ⟨y, hy, rfl⟩ := List.mem_map.1 hd
                                    exact HI.out rfl y (by rw [List.take_of_length_le (by rw [← HLS.out]; exact Nat.le_refl _)]; exact hy)⟩)
                                  go_wp2
                                  go_roundw
                                  case rel => exact ⟨j + 1, true, by omega, rfl, by go_num, (fun h => HM2.out), BL⟩
                                  case measure => simp [intOf]; omega
                                · skip
                                  go_wp2
                                  go_roundw
                                  case rel => exact ⟨j + 1, false, by omega, rfl, by go_num, (fun h => by cases h), BL⟩
                                  case measure => simp [intOf]; omega
                              · skip
                                have HM2 : Hid (MayIn (vb.map (·.1)) (zk.map (·.1)) (zs.map (·.1)) rm) := HM.out rfl
                                clear HM
                                go_wp2
                                go_roundw
                                case rel => exact ⟨j + 1, true, by omega, rfl, by go_num, (fun h => HM2.out), BL⟩
                                case measure => simp [intOf]; omega
                    · skip
                      obtain rfl : nk = j := by omega
                      replace SK := Lib.hid (SK.out.next BL.out)
                      replace SS := Lib.hid (SS.out.next BL.out)
                      replace Sq := Lib.hid (Sq.out.next BL.out)
                      replace B := Lib.hid (thn B.out BL.out)
                      clear BL
                      cases m
                      · skip
                        go_wp2_with fail
                        have hc := awake_any v5
                        refine hc.mono ?_
                        clear hc
                        rintro e w61 ⟨rfl, b5⟩
                        replace Sq := Lib.hid (Sq.out.next b5)
                        replace B := Lib.hid (thn B.out b5)
                        clear b5
                        go_wp2
                        go_ret
                        exact ⟨rfl, B.out⟩
                      · skip
                        have HQ0 : Hid (0 ≤ findI (zq.map (·.1)) 200) := HIN.out (HM.out rfl)
                        clear HM
                        obtain ⟨f9, hf9⟩ : ∃ f, Hid (findI (zq.map (·.1)) 200 = f) := ⟨_, rfl⟩
                        have hq0 : 0 ≤ f9 := by rw [← hf9.out]; exact HQ0.out
                        clear HQ0
                        go_wp2_with fail
                        have hc := find_any Aq nq cq zq 200 v5 Sq.out HFQ.out ⟨201, rm, by rw [Eq.out]; exact HSq.out.right⟩
                        rw [hf9.out] at hc
                        refine hc.mono ?_
                        clear hc
                        rintro e w61 ⟨rfl, b5⟩
                        replace Sq := Lib.hid (Sq.out.next b5)
                        replace B := Lib.hid (thn B.out b5)
                        clear b5
                        go_wp2_with fail
                        have hc := awake_any w61
                        refine hc.mono ?_
                        clear hc
                        rintro e w62 ⟨rfl, b5⟩
                        replace Sq := Lib.hid (Sq.out.next b5)
                        replace B := Lib.hid (thn B.out b5)
                        clear b5
                        go_wp2
                        go_ret
                        exact ⟨rfl, B.out⟩
              · skip
                have hbd : decide ((nb : Int) < rm) = false := decide_eq_false hbn
                obtain ⟨f8, hf8⟩ : ∃ f, Hid (findI (vb.map (·.1)) 200 = f) := ⟨_, rfl⟩
                go_wp2_with fail
                have hc := find_any Ab nb cb vb 200 w28 SB.out HFB.out ⟨201, rm, HRB.out⟩
                rw [hf8.out] at hc
                refine hc.mono ?_
                clear hc
                rintro e w29 ⟨rfl, b5⟩
                replace SK := Lib.hid (SK.out.next b5)
                replace SS := Lib.hid (SS.out.next b5)
                replace Sq := Lib.hid (Sq.out.next b5)
                replace SB := Lib.hid (SB.out.next b5)
                replace B := Lib.hid (thn B.out b5)
                clear b5
                clear SB
                by_cases h80 : 0 ≤ f8
                · skip
                  have HM0 : Hid (MayIn (vb.map (·.1)) (zk.map (·.1)) (zs.map (·.1)) rm) := .inr (.inl (by unfold hasN; rw [hf8.out]; exact decide_eq_true h80))
                  as_aux_lemma =>
                    have HLS := Lib.hid SS.out.len
                    go_wp2
                    go_loopw [20, 22, 23, 144] (fun s20 _ _ s144 wr => ∃ (j : Nat) (m : Bool), j ≤ nk ∧ s20 = .bool m ∧ s144 = .int .i64 j ∧ Hid (m = true → MayIn (vb.map (·.1)) (zk.map (·.1)) (zs.map (·.1)) rm) ∧ Hid (Below w29.heap.size w29 wr)) (fun _ _ _ s144 _ => nk - (intOf s144).toNat)
                    case atStart => exact ⟨0, true, Nat.zero_le _, rfl, rfl, (fun h => HM0.out), Below.refl _ _⟩
                    case round =>
                      clear HM0
                      obtain ⟨j, m, hj, rfl, rfl, HM, BL⟩ := hrel
                      obtain ⟨v5, rfl⟩ : ∃ v, v = wr := ⟨_, rfl⟩
                      have i0 : (0 : Int) ≤ (j : Int) := by omega
                      by_cases hlt : j < nk
                      · skip
                        as_aux_lemma =>
                          have i1 : (j : Int) < (nk : Int) := by omega
                          obtain ⟨b, off, x, hA, hb, hx, hxm, c0, c1, c2', c3'⟩ := (SK.out.next BL.out).at_ hlt
                          subst hA
                          have HXK : Hid (x.1 ∈ zk.map (·.1)) := List.mem_map.2 ⟨x, hxm, rfl⟩
                          clear hx hxm hb
                          go_upto_region 27 with fail
                          clear c0 c1 c2' c3'
                          have hbl := below_lit v5 (.cells #[.int .u8 x.1.1, .int .u16 x.1.2.1, .int .u8 x.1.2.2.1, .slice x.2.1 x.2.2.1 x.2.2.2] 34)
                          replace BL := Lib.hid (thn BL.out hbl)
                          have K : Hid (DBlk (v5.alloc (.cells #[.int .u8 x.1.1, .int .u16 x.1.2.1, .int .u8 x.1.2.2.1, .slice x.2.1 x.2.2.1 x.2.2.2] 34)) v5.heap.size x.1 x.2) := DBlk.new v5 x.1 x.2
                          clear hbl
                          generalize v5.alloc (.cells #[.int .u8 x.1.1, .int .u16 x.1.2.1, .int .u8 x.1.2.2.1, .slice x.2.1 x.2.2.1 x.2.2.2] 34) = v6 at *
                          obtain ⟨g, hg⟩ : ∃ q, v5.heap.size = q := ⟨_, rfl⟩
                          rw [hg] at K ⊢
                          clear hg
                          go_wp2
                          go_loopw [23, 25, 150] (fun s23 _ s150 wq => ∃ (i : Nat) (b : Bool), i ≤ ns ∧ s23 = .bool b ∧ s150 = .int .i64 i ∧ Hid (b = false → ∀ y ∈ zs.take i, y.1.1 ≠ x.1.1) ∧ Hid (DBlk wq g x.1 x.2) ∧ Hid (Below w29.heap.size w29 wq)) (fun _ _ s150 _ => ns - (intOf s150).toNat)
                          case atStart => exact ⟨0, false, Nat.zero_le _, rfl, rfl, (fun _ y hy => by cases hy), K, BL⟩
                          case round =>
                            clear K BL
                            obtain ⟨i, b1, hi0, rfl, rfl, HI, K, BL⟩ := hrel
                            obtain ⟨v7, rfl⟩ : ∃ v, v = wr := ⟨_, rfl⟩
                            have j0 : (0 : Int) ≤ (i : Int) := by omega
                            by_cases hli : i < ns
                            · skip
                              as_aux_lemma =>
                                have j1 : (i : Int) < (ns : Int) := by omega
                                obtain ⟨bs, ofs, y, hA, hb, hy, hym, e0, e1, e2, e3⟩ := (SS.out.next BL.out).at_ hli
                                subst hA
                                have HY := Lib.hid hy
                                clear hy hym hb
                                go_upto_region 31 with fail
                                clear e0 e1 e2 e3
                                have hbl := below_lit v7 (.cells #[.int .u8 y.1.1, .int .u16 y.1.2.1, .int .u8 y.1.2.2.1, .slice y.2.1 y.2.2.1 y.2.2.2] 34)
                                replace K := Lib.hid (K.out.next hbl)
                                replace BL := Lib.hid (thn BL.out hbl)
                                have KY : Hid (DBlk (v7.alloc (.cells #[.int .u8 y.1.1, .int .u16 y.1.2.1, .int .u8 y.1.2.2.1, .slice y.2.1 y.2.2.1 y.2.2.2] 34)) v7.heap.size y.1 y.2) := DBlk.new v7 y.1 y.2
                                clear hbl
                                generalize v7.alloc (.cells #[.int .u8 y.1.1, .int .u16 y.1.2.1, .int .u8 y.1.2.2.1, .slice y.2.1 y.2.2.1 y.2.2.2] 34) = v8 at *
                                obtain ⟨g2, hg2⟩ : ∃ q, v7.heap.size = q := ⟨_, rfl⟩
                                rw [hg2] at KY ⊢
                                clear hg2
                                obtain ⟨p0, _, _, _⟩ := K.out.cells
                                obtain ⟨q0, _, _, _⟩ := KY.out.cells
                                cases b1
                                · skip
                                  by_cases he : y.1.1 = x.1.1
                                  · skip
                                    have heb : (y.1.1 == x.1.1) = true := by simp [he]
                                    clear he
                                    clear HI
                                    go_wp2
                                    go_roundw
                                    case rel => exact ⟨i + 1, true, by omega, rfl, by go_num, (fun h => by cases h), K, BL⟩
                                    case measure => simp [intOf]; omega
                                  · skip
                                    have heb : (y.1.1 == x.1.1) = false := by simp [he]
                                    have HI2 : Hid (∀ z ∈ zs.take (i + 1), z.1.1 ≠ x.1.1) := take_last HY.out (HI.out rfl) he
                                    clear he HI
                                    go_wp2
                                    go_roundw
                                    case rel => exact ⟨i + 1, false, by omega, rfl, by go_num, (fun h => HI2.out), K, BL⟩
                                    case measure => simp [intOf]; omega
                                · skip
                                  clear HI
                                  go_wp2
                                  go_roundw
                                  case rel => exact ⟨i + 1, true, by omega, rfl, by go_num, (fun h => by cases h), K, BL⟩
                                  case measure => simp [intOf]; omega
                            · skip
                              as_aux_lemma =>
                                obtain rfl : ns = i := by omega
                                cases m
                                · skip
                                  cases b1
                                  · skip
                                    have HM2 : Hid (MayIn (vb.map (·.1)) (zk.map (·.1)) (zs.map (·.1)) rm) := .inr (.inr ⟨x.1, HXK.out, hasN_false.2 fun d hd => by
                                      obtain ⟨y, hy, rfl⟩ := List.mem_map.1 hd
                                      exact HI.out rfl y (by rw [List.take_of_length_le (by rw [← HLS.out]; exact Nat.le_refl _)]; exact hy)⟩)
                                    go_wp2
                                    go_roundw
                                    case rel => exact ⟨j + 1, true, by omega, rfl, by go_num, (fun h => HM2.out), BL⟩
                                    case measure => simp [intOf]; omega
                                  · skip
                                    go_wp2
                                    go_roundw
                                    case rel => exact ⟨j + 1, false, by omega, rfl, by go_num, (fun h => by cases h), BL⟩
                                    case measure => simp [intOf]; omega
                                · skip
                                  have HM2 : Hid (MayIn (vb.map (·.1)) (zk.map (·.1)) (zs.map (·.1)) rm) := HM.out rfl
                                  clear HM
                                  go_wp2
                                  go_roundw
                                  case rel => exact ⟨j + 1, true, by omega, rfl, by go_num, (fun h => HM2.out), BL⟩
                                  case measure => simp [intOf]; omega
                      · skip
                        obtain rfl : nk = j := by omega
                        replace SK := Lib.hid (SK.out.next BL.out)
                        replace SS := Lib.hid (SS.out.next BL.out)
                        replace Sq := Lib.hid (Sq.out.next BL.out)
                        replace B := Lib.hid (thn B.out BL.out)
                        clear BL
                        cases m
                        · skip
                          go_wp2_with fail
                          have hc := awake_any v5
                          refine hc.mono ?_
                          clear hc
                          rintro e w61 ⟨rfl, b5⟩
                          replace Sq := Lib.hid (Sq.out.next b5)
                          replace B := Lib.hid (thn B.out b5)
                          clear b5
                          go_wp2
                          go_ret
                          exact ⟨rfl, B.out⟩
                        · skip
                          have HQ0 : Hid (0 ≤ findI (zq.map (·.1)) 200) := HIN.out (HM.out rfl)
                          clear HM
                          obtain ⟨f9, hf9⟩ : ∃ f, Hid (findI (zq.map (·.1)) 200 = f) := ⟨_, rfl⟩
                          have hq0 : 0 ≤ f9 := by rw [← hf9.out]; exact HQ0.out
                          clear HQ0
                          go_wp2_with fail
                          have hc := find_any Aq nq cq zq 200 v5 Sq.out HFQ.out ⟨201, rm, by rw [Eq.out]; exact HSq.out.right⟩
                          rw [hf9.out] at hc
                          refine hc.mono ?_
                          clear hc
                          rintro e w61 ⟨rfl, b5⟩
                          replace Sq := Lib.hid (Sq.out.next b5)
                          replace B := Lib.hid (thn B.out b5)
                          clear b5
                          go_wp2_with fail
                          have hc := awake_any w61
                          refine hc.mono ?_
                          clear hc
                          rintro e w62 ⟨rfl, b5⟩
                          replace Sq := Lib.hid (Sq.out.next b5)
                          replace B := Lib.hid (thn B.out b5)
                          clear b5
                          go_wp2
                          go_ret
                          exact ⟨rfl, B.out⟩
                · skip
                  have h8d : decide (0 ≤ f8) = false := decide_eq_false h80
                  have HM0 : Hid (rm ≤ 8) := rm3
                  as_aux_lemma =>
                    have HLS := Lib.hid SS.out.len
                    go_wp2
                    go_loopw [20, 22, 23, 144] (fun s20 _ _ s144 wr => ∃ (j : Nat) (m : Bool), j ≤ nk ∧ s20 = .bool m ∧ s144 = .int .i64 j ∧ Hid (m = true → MayIn (vb.map (·.1)) (zk.map (·.1)) (zs.map (·.1)) rm) ∧ Hid (Below w29.heap.size w29 wr)) (fun _ _ _ s144 _ => nk - (intOf s144).toNat)
                    case atStart => exact ⟨0, false, Nat.zero_le _, rfl, rfl, (fun h => by cases h), Below.refl _ _⟩
                    case round =>
                      clear HM0
                      obtain ⟨j, m, hj, rfl, rfl, HM, BL⟩ := hrel
                      obtain ⟨v5, rfl⟩ : ∃ v, v = wr := ⟨_, rfl⟩
                      have i0 : (0 : Int) ≤ (j : Int) := by omega
                      by_cases hlt : j < nk
                      · skip
                        as_aux_lemma =>
                          have i1 : (j : Int) < (nk : Int) := by omega
                          obtain ⟨b, off, x, hA, hb, hx, hxm, c0, c1, c2', c3'⟩ := (SK.out.next BL.out).at_ hlt
                          subst hA
                          have HXK : Hid (x.1 ∈ zk.map (·.1)) := List.mem_map.2 ⟨x, hxm, rfl⟩
                          clear hx hxm hb
                          go_upto_region 27 with fail
                          clear c0 c1 c2' c3'
                          have hbl := below_lit v5 (.cells #[.int .u8 x.1.1, .int .u16 x.1.2.1, .int .u8 x.1.2.2.1, .slice x.2.1 x.2.2.1 x.2.2.2] 34)
                          replace BL := Lib.hid (thn BL.out hbl)
                          have K : Hid (DBlk (v5.alloc (.cells #[.int .u8 x.1.1, .int .u16 x.1.2.1, .int .u8 x.1.2.2.1, .slice x.2.1 x.2.2.1 x.2.2.2] 34)) v5.heap.size x.1 x.2) := DBlk.new v5 x.1 x.2
                          clear hbl
                          generalize v5.alloc (.cells #[.int .u8 x.1.1, .int .u16 x.1.2.1, .int .u8 x.1.2.2.1, .slice x.2.1 x.2.2.1 x.2.2.2] 34) = v6 at *
                          obtain ⟨g, hg⟩ : ∃ q, v5.heap.size = q := ⟨_, rfl⟩
                          rw [hg] at K ⊢
                          clear hg
                          go_wp2
                          go_loopw [23, 25, 150] (fun s23 _ s150 wq => ∃ (i : Nat) (b : Bool), i ≤ ns ∧ s23 = .bool b ∧ s150 = .int .i64 i ∧ Hid (b = false → ∀ y ∈ zs.take i, y.1.1 ≠ x.1.1) ∧ Hid (DBlk wq g x.1 x.2) ∧ Hid (Below w29.heap.size w29 wq)) (fun _ _ s150 _ => ns - (intOf s150).toNat)
                          case atStart => exact ⟨0, false, Nat.zero_le _, rfl, rfl, (fun _ y hy => by cases hy), K, BL⟩
                          case round =>
                            clear K BL
                            obtain ⟨i, b1, hi0, rfl, rfl, HI, K, BL⟩ := hrel
                            obtain ⟨v7, rfl⟩ : ∃ v, v = wr := ⟨_, rfl⟩
                            have j0 : (0 : Int) ≤ (i : Int) := by omega
                            by_cases hli : i < ns
                            · skip
                              as_aux_lemma =>
                                have j1 : (i : Int) < (ns : Int) := by omega
                                obtain ⟨bs, ofs, y, hA, hb, hy, hym, e0, e1, e2, e3⟩ := (SS.out.next BL.out).at_ hli
                                subst hA
                                have HY := Lib.hid hy
                                clear hy hym hb
                                go_upto_region 31 with fail
                                clear e0 e1 e2 e3
                                have hbl := below_lit v7 (.cells #[.int .u8 y.1.1, .int .u16 y.1.2.1, .int .u8 y.1.2.2.1, .slice y.2.1 y.2.2.1 y.2.2.2] 34)
                                replace K := Lib.hid (K.out.next hbl)
                                replace BL := Lib.hid (thn BL.out hbl)
                                have KY : Hid (DBlk (v7.alloc (.cells #[.int .u8 y.1.1, .int .u16 y.1.2.1, .int .u8 y.1.2.2.1, .slice y.2.1 y.2.2.1 y.2.2.2] 34)) v7.heap.size y.1 y.2) := DBlk.new v7 y.1 y.2
                                clear hbl
                                generalize v7.alloc (.cells #[.int .u8 y.1.1, .int .u16 y.1.2.1, .int .u8 y.1.2.2.1, .slice y.2.1 y.2.2.1 y.2.2.2] 34) = v8 at *
                                obtain ⟨g2, hg2⟩ : ∃ q, v7.heap.size = q := ⟨_, rfl⟩
                                rw [hg2] at KY ⊢
                                clear hg2
                                obtain ⟨p0, _, _, _⟩ := K.out.cells
                                obtain ⟨q0, _, _, _⟩ := KY.out.cells
                                cases b1
                                · skip
                                  by_cases he : y.1.1 = x.1.1
                                  · skip
                                    have heb : (y.1.1 == x.1.1) = true := by simp [he]
                                    clear he
                                    clear HI
                                    go_wp2
                                    go_roundw
                                    case rel => exact ⟨i + 1, true, by omega, rfl, by go_num, (fun h => by cases h), K, BL⟩
                                    case measure => simp [intOf]; omega
                                  · skip
                                    have heb : (y.1.1 == x.1.1) = false := by simp [he]
                                    have HI2 : Hid (∀ z ∈ zs.take (i + 1), z.1.1 ≠ x.1.1) := take_last HY.out (HI.out rfl) he
                                    clear he HI
                                    go_wp2
                                    go_roundw
                                    case rel => exact ⟨i + 1, false, by omega, rfl, by go_num, (fun h => HI2.out), K, BL⟩
                                    case measure => simp [intOf]; omega
                                · skip
                                  clear HI
                                  go_wp2
                                  go_roundw
                                  case rel => exact ⟨i + 1, true, by omega, rfl, by go_num, (fun h => by cases h), K, BL⟩
                                  case measure => simp [intOf]; omega
                            · skip
                              as_aux_lemma =>
                                obtain rfl : ns = i := by omega
                                cases m
                                · skip
                                  cases b1
                                  · skip
                                    have HM2 : Hid (MayIn (vb.map (·.1)) (zk.map (·.1)) (zs.map (·.1)) rm) := .inr (.inr ⟨x.1, HXK.out, hasN_false.2 fun d hd => by
                                      obtain ⟨y, hy, rfl⟩ := List.mem_map.1 hd
                                      exact HI.out rfl y (by rw [List.take_of_length_le (by rw [← HLS.out]; exact Nat.le_refl _)]; exact hy)⟩)
                                    go_wp2
                                    go_roundw
                                    case rel => exact ⟨j + 1, true, by omega, rfl, by go_num, (fun h => HM2.out), BL⟩
                                    case measure => simp [intOf]; omega
                                  · skip
                                    go_wp2
                                    go_roundw
                                    case rel => exact ⟨j + 1, false, by omega, rfl, by go_num, (fun h => by cases h), BL⟩
                                    case measure => simp [intOf]; omega
                                · skip
                                  have HM2 : Hid (MayIn (vb.map (·.1)) (zk.map (·.1)) (zs.map (·.1)) rm) := HM.out rfl
                                  clear HM
                                  go_wp2
                                  go_roundw
                                  case rel => exact ⟨j + 1, true, by omega, rfl, by go_num, (fun h => HM2.out), BL⟩
                                  case measure => simp [intOf]; omega
                      · skip
                        obtain rfl : nk = j := by omega
                        replace SK := Lib.hid (SK.out.next BL.out)
                        replace SS := Lib.hid (SS.out.next BL.out)
                        replace Sq := Lib.hid (Sq.out.next BL.out)
                        replace B := Lib.hid (thn B.out BL.out)
                        clear BL
                        cases m
                        · skip
                          go_wp2_with fail
                          have hc := awake_any v5
                          refine hc.mono ?_
                          clear hc
                          rintro e w61 ⟨rfl, b5⟩
                          replace Sq := Lib.hid (Sq.out.next b5)
                          replace B := Lib.hid (thn B.out b5)
                          clear b5
                          go_wp2
                          go_ret
                          exact ⟨rfl, B.out⟩
                        · skip
                          have HQ0 : Hid (0 ≤ findI (zq.map (·.1)) 200) := HIN.out (HM.out rfl)
                          clear HM
                          obtain ⟨f9, hf9⟩ : ∃ f, Hid (findI (zq.map (·.1)) 200 = f) := ⟨_, rfl⟩
                          have hq0 : 0 ≤ f9 := by rw [← hf9.out]; exact HQ0.out
                          clear HQ0
                          go_wp2_with fail
                          have hc := find_any Aq nq cq zq 200 v5 Sq.out HFQ.out ⟨201, rm, by rw [Eq.out]; exact HSq.out.right⟩
                          rw [hf9.out] at hc
                          refine hc.mono ?_
                          clear hc
                          rintro e w61 ⟨rfl, b5⟩
                          replace Sq := Lib.hid (Sq.out.next b5)
                          replace B := Lib.hid (thn B.out b5)
                          clear b5
                          go_wp2_with fail
                          have hc := awake_any w61
                          refine hc.mono ?_
                          clear hc
                          rintro e w62 ⟨rfl, b5⟩
                          replace Sq := Lib.hid (Sq.out.next b5)
                          replace B := Lib.hid (thn B.out b5)
                          clear b5
                          go_wp2
                          go_ret
                          exact ⟨rfl, B.out⟩
end Go.Proofs.Ytgbnnllbpidlfaa
